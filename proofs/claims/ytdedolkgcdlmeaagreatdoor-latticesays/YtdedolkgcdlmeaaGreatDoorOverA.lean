import Derived.Test.YtdedolkgcdlmeaaGreatDoorRowO
import Derived.Laws.AppendOwnNone
namespace Go.Proofs.YtdedolkgcdlmeaaGreatDoor
open Go.RowKit Limbs Digs
variable{w W:World}{a0 a1 b0 b1 d0 d1 v l0 l1:Value}{z A Q B:Int}{n D:Nat}{ds:List Int}
theorem NumR.fits{m:Nat}(h:NumR w v z n)(h0:-dp m<z)(h1:z<dp m):NumR w v z m:=by
 obtain⟨s,sl,ds,rfl,hd,hn,hz,hs,-⟩:=h;have hdb:DB ds:=by obtain⟨_,_,_,_,_,h,_⟩:=hd;exact h
 refine⟨s,sl,ds,rfl,hd,hn,hz,hs,?_⟩;rcases hs with⟨h,-⟩ |⟨-,h | h⟩
 ·omega
 ·subst h;exact zfs hdb hn (by omega)
 ·subst h;exact zfs hdb hn (by omega)
theorem NumR.sign{s:Int}{sl:Value}(h:NumR w (.agg #[.int .i64 s,sl]) z n):(z=0∧s=0)∨(0<z∧s=1)∨(z<0∧s=-1):=by
 obtain⟨s',sl',ds,e,hd,hn,hz,hs,-⟩:=h;simp only [Value.agg.injEq,Array.mk.injEq,List.cons.injEq,Value.int.injEq,and_true,true_and] at e;obtain⟨rfl,rfl⟩:=e;have hdb:DB ds:=by obtain⟨_,_,_,_,_,h,_⟩:=hd;exact h
 rcases zbE hdb hn hs with⟨h1,h2⟩ |⟨h1,rfl | rfl⟩
 ·subst h2;exact .inl ⟨by omega,rfl⟩
 ·exact .inr (.inl ⟨by omega,rfl⟩)
 ·exact .inr (.inr ⟨by omega,rfl⟩)
theorem zfP(h:NumR w v z n):-dp n<z∧z<dp n:=by
 obtain⟨s,sl,ds,rfl,hd,hn,hz,hs,hl⟩:=h;have hdb:DB ds:=by obtain⟨_,_,_,_,_,h,_⟩:=hd;exact h
 have h1:=zbp hdb;have h2:=zaT hdb;have h3:=zaF hl;rcases zbE hdb hn hs with⟨h4,h5⟩ |⟨h4,rfl | rfl⟩
 ·subst h5;omega
 ·omega
 ·omega
theorem zjV{left d left' lo:Int}(h:Q*B+left=A)(hl:left'=left*10000+d):(lo+10000*Q)*B+(left'-B*lo)=d+10000*A:=by
 have e1:(lo+10000*Q)*B=B*lo+10000 *(Q*B):=by rw [Int.add_mul,Int.mul_comm lo,Int.mul_assoc]
 omega
theorem zjU{sa sb L x y:Int}(hA:A=Q*B+L)(h0:0≤L)(h1:L<B)(hx:x=sa*A)(hy:y=sb*B)(hsa:sa=0∨sa=1∨sa=-1)(hsb:sb=1∨sb=-1):
  x=sa*sb*Q*y+sa*L∧(sa*L=0∨sa=sb→Left (sa*L) y)∧(sa*L≠0→sa≠sb→x=(sa*sb*Q-1)*y+(sa*L+y)∧Left (sa*L+y) y):=by
 have e:∀ s:Int,s=1∨s=-1→sa*s*Q *(s*B)=sa *(Q*B):=fun s hs=>by rcases hs with rfl | rfl <;> simp [Int.mul_assoc,Int.mul_neg,Int.neg_mul]
 have ee:=e sb hsb;have hx':x=sa*sb*Q*y+sa*L:=by rw [hx,hA,hy,ee,Int.mul_add]
 refine⟨hx',fun h=>?_,fun h2 h3=>⟨?_,?_⟩⟩
 ·unfold Left;rcases hsa with rfl | rfl | rfl <;> rcases hsb with rfl | rfl <;> omega
 ·rw [hx',Int.sub_mul,Int.one_mul];omega
 ·unfold Left;rcases hsa with rfl | rfl | rfl <;> rcases hsb with rfl | rfl <;> omega
structure OSt (w W:World)(D:Nat)(a0 a1 b0 b1 l0 l1 d0 d1:Value):Prop where
 a:BoxR W w.heap.size a0 a1
 b:BoxR W (w.heap.size+1) b0 b1
 r:BoxR W (w.heap.size+1+1) (.int .i64 0) (.slice none 0 0)
 s:BoxR W (w.heap.size+1+1+1) (.int .i64 0) (.slice none 0 0)
 l:BoxR W (w.heap.size+1+1+1+1) l0 l1
 d:BoxR W D d0 d1
 below:Below w.heap.size w W
 hD:w.heap.size+1+1+1+1<D
theorem OSt.later{W':World}(h:OSt w W D a0 a1 b0 b1 l0 l1 d0 d1)(hb:Below W.heap.size W W'):OSt w W' D a0 a1 b0 b1 l0 l1 d0 d1:=
 ⟨h.a.later hb h.a.lt,h.b.later hb h.b.lt,h.r.later hb h.r.lt,h.s.later hb h.s.lt,h.l.later hb h.l.lt,h.d.later hb h.d.lt,h.below.trans (hb.mono h.below.size),h.hD⟩
theorem OSt.drew(h:OSt w W D a0 a1 b0 b1 l0 l1 d0 d1):OSt w W.drew D a0 a1 b0 b1 l0 l1 d0 d1:=⟨h.a,h.b,h.r,h.s,h.l,h.d,h.below.drew,h.hD⟩
theorem OSt.setL(h:OSt w W D a0 a1 b0 b1 l0 l1 d0 d1)(u0 u1:Value):OSt w ((W.setCell ⟨w.heap.size+1+1+1+1,0,none⟩ u0).setCell ⟨w.heap.size+1+1+1+1,1,none⟩ u1) D a0 a1 b0 b1 u0 u1 d0 d1:=
 ⟨(h.a.other (by omega) _ _).other (by omega) _ _,(h.b.other (by omega) _ _).other (by omega) _ _,(h.r.other (by omega) _ _).other (by omega) _ _,(h.s.other (by omega) _ _).other (by omega) _ _,h.l.set _ _,(h.d.other (by have:=h.hD;omega) _ _).other (by have:=h.hD;omega) _ _,(h.below.setCell (by simp;omega) _).setCell (by simp;omega) _,h.hD⟩
theorem zjK(hb:Below ((((((w.alloc (.cells #[a0,a1] 40)).alloc (.cells #[b0,b1] 40)).alloc (.cells #[.int .i64 0,.slice none 0 0] 40)).alloc (.cells #[.int .i64 0,.slice none 0 0] 40)).alloc (.cells #[.int .i64 0,.slice none 0 0] 40))).heap.size ((((((w.alloc (.cells #[a0,a1] 40)).alloc (.cells #[b0,b1] 40)).alloc (.cells #[.int .i64 0,.slice none 0 0] 40)).alloc (.cells #[.int .i64 0,.slice none 0 0] 40)).alloc (.cells #[.int .i64 0,.slice none 0 0] 40))) W):
  OSt w (W.alloc (.cells #[d0,d1] 40)) W.heap.size a0 a1 b0 b1 (.int .i64 0) (.slice none 0 0) d0 d1:=by
 have hs:=hb.size;simp at hs
 have up:∀ {B:Nat} {u0 u1:Value},B<w.heap.size+5→BoxR ((((((w.alloc (.cells #[a0,a1] 40)).alloc (.cells #[b0,b1] 40)).alloc (.cells #[.int .i64 0,.slice none 0 0] 40)).alloc (.cells #[.int .i64 0,.slice none 0 0] 40)).alloc (.cells #[.int .i64 0,.slice none 0 0] 40))) B u0 u1→BoxR (W.alloc (.cells #[d0,d1] 40)) B u0 u1:=fun hB h=>
  (h.later hb h.lt).later ((zB _ _).alloc zL _:Below W.heap.size _ _) (by omega)
 have k:∀(n:Nat) (V:World) (o:Obj),V.heap.size=n→Below n V (V.alloc o):=fun n V o h=>(zB _ _).alloc (by omega) _;refine⟨up (by omega) ?_,up (by omega) ?_,up (by omega) ?_,up (by omega) ?_,up (by omega) ?_,zr W _ _ _ rfl,?_,by omega⟩
 ·exact((((zr w _ _ _ rfl).later (k (w.heap.size+1) _ _ (by simp)) (by omega)).later (k (w.heap.size+1+1) _ _ (by simp)) (by omega)).later (k (w.heap.size+1+1+1) _ _ (by simp)) (by omega)).later (k (w.heap.size+1+1+1+1) _ _ (by simp)) (by omega)
 ·exact(((zr (w.alloc _) _ _ _ (by simp)).later (k (w.heap.size+1+1) _ _ (by simp)) (by omega)).later (k (w.heap.size+1+1+1) _ _ (by simp)) (by omega)).later (k (w.heap.size+1+1+1+1) _ _ (by simp)) (by omega)
 ·exact((zr ((w.alloc _).alloc _) _ _ _ (by simp)).later (k (w.heap.size+1+1+1) _ _ (by simp)) (by omega)).later (k (w.heap.size+1+1+1+1) _ _ (by simp)) (by omega)
 ·exact(zr (((w.alloc _).alloc _).alloc _) _ _ _ (by simp)).later (k (w.heap.size+1+1+1+1) _ _ (by simp)) (by omega)
 ·exact zr ((((w.alloc _).alloc _).alloc _).alloc _) _ _ _ (by simp)
 ·have h0:Below w.heap.size w ((((((w.alloc (.cells #[a0,a1] 40)).alloc (.cells #[b0,b1] 40)).alloc (.cells #[.int .i64 0,.slice none 0 0] 40)).alloc (.cells #[.int .i64 0,.slice none 0 0] 40)).alloc (.cells #[.int .i64 0,.slice none 0 0] 40))):=
   (((((zB _ _).alloc zL _).alloc (by simp) _).alloc (by simp;omega) _).alloc (by simp;omega) _).alloc (by simp;omega) _
  exact(h0.trans (hb.mono (by simp;omega))).alloc (by omega) _
theorem ten4{H:Nat}(h:W.heap[H]?=some (.cells #[.int .i64 0,.int .i64 1] 3)):NumR W (.agg #[.int .i64 1,.slice (some ⟨H,0,none⟩) 2 2]) 10000 2:=by
 refine⟨1,_,[0,1],rfl,⟨_,2,rfl,by simp,by simp,zcl (by decide) (zcl (by decide) zbh),fun _=>⟨H,0,_,_,rfl,h,fun i hi=>?_⟩⟩,.inr (by decide),by decide,.inr ⟨by simp,.inl rfl⟩,by simp⟩;have:=World.news_of_block h i;simp at hi;rcases(by omega:i=0∨i=1) with rfl | rfl
 ·exact World.news_of_block h 0 _ rfl
 ·exact World.news_of_block h 1 _ rfl
theorem Dig.news{b off cap:Nat}(h:Dig w (.slice (some ⟨b,off,none⟩) ds.length cap) ds)(h0:0<ds.length):∀ j u,(ds.map (Value.int .i64))[j]?=some u→w.cell? ((⟨b,off,none⟩:Addr).add j)=some u:=fun j u hu=>by
 obtain⟨_,_,e,-,-,-,hac⟩:=h;simp only [zV,true_and] at e;obtain⟨rfl,rfl⟩:=e;obtain⟨ab,aoff,acur,afz,e,-,hac⟩:=hac h0;simp only [Option.some.injEq,Addr.mk.injEq,and_true] at e;obtain⟨rfl,rfl⟩:=e;rw [List.getElem?_map] at hu;by_cases hj:j<ds.length
 ·rw [List.getElem?_eq_getElem hj] at hu;simp only [Option.map_some,Option.some.injEq] at hu;subst hu;have:=hac j hj;rw [zG,List.getElem?_eq_getElem hj,Option.getD_some] at this;unfold Addr.add;split
  ·rename_i h0;subst h0;exact this
  ·exact this
 ·rw [List.getElem?_eq_none (by omega)] at hu;cases hu
theorem Dig.form(h:Dig w v ds)(h0:0<ds.length):∃ b off cap,v=.slice (some ⟨b,off,none⟩) ds.length cap:=by
 obtain⟨ao,cap,rfl,-,-,-,hac⟩:=h;obtain⟨b,off,_,_,rfl,-⟩:=hac h0;exact⟨b,off,cap,rfl⟩
def OverPost (w:World)(x y:Int)(n m:Nat)(e:Ending)(w':World):Prop:=
 ∃ vq vr q r,e=.returned (.tuple #[vq,vr])∧NumR w' vq q (n+6)∧NumR w' vr r m∧x=q*y+r∧Left r y∧Below w.heap.size w w'
structure OInv (w wr:World)(D:Nat)(a b:List Int)(m:Nat)(p:Nat)(vq:Value)(qs:List Int)(left:Int)(l0 l1 d0 d1:Value):Prop where
 q:Dig wr vq qs
 ql:qs.length=a.length-p
 e0:qs.length=0→vq=.slice none 0 0
 sum:dv qs*dv b+left=dv (a.drop p)
 le0:0≤left
 le1:left<dv b
 num:NumR wr (.agg #[l0,l1]) left m
 siz:NumR wr (.agg #[d0,d1]) (dv b) m
end Go.Proofs.YtdedolkgcdlmeaaGreatDoor
