import Derived.Test.YtdedolkgcdlmeaaGreatDoorSmU
set_option maxRecDepth 100000
set_option maxHeartbeats 3200000
set_option linter.unusedSimpArgs false
namespace Go.Proofs.YtdedolkgcdlmeaaGreatDoor
open Go.RowKit Limbs
variable {a b g c:Int}{n:Nat}
def ComPost (w:World)(a b:Int)(M:Nat)(e:Ending)(w':World):Prop:=
 ∃ v1 v2 g l,e=.returned (.tuple #[v1,v2])∧NumL w' v1 g M∧NumL w' v2 l M∧0<g∧0<l∧g*l=a*b∧(∃ p,a=p*g)∧(∃ p,b=p*g)∧(∃ p,l=p*a)∧(∃ p,l=p*b)∧(∃ x y,g=x*a+y*b)∧Below w.heap.size w w'
theorem zjh{q p2:Int}(ha:0<a)(hb:0<b)(hg:0<g)(hq:a=q*g)(hp:b=p2*g):0<q*b∧q*b≤a*b∧g *(q*b)=a*b∧∃ p,q*b=p*a:=by
 have hq0:0<q:=by
  rcases Int.lt_or_le 0 q with h | h
  ·exact h
  ·have:=Int.mul_le_mul_of_nonneg_right h (show 0≤g by omega)
   omega
 have h1:0<q*b:=Int.mul_pos hq0 hb
 have h2:g *(q*b)=a*b:=by rw [← Int.mul_assoc,Int.mul_comm g q,← hq]
 refine⟨h1,?_,h2,⟨p2,?_⟩⟩
 ·have:=Int.mul_le_mul_of_nonneg_right (show 1≤g by omega) (show 0≤q*b by omega)
  omega
 ·rw [hp,hq,← Int.mul_assoc,← Int.mul_assoc,Int.mul_comm q p2]
theorem zhD (w:World)(va vb:Value)(a b:Int)(M:Nat)(ha:NumL w va a M)(hb:NumL w vb b M)(ha0:0<a)(hb0:0<b)(hab:a*b<bp M)(hM:2≤M)(hM2:M≤100000):
  Calls Tryz.prog 108 #[va,vb] w fun e w'=>ComPost w a b M e w':=by
 have HP0:=hide (And.intro ha0 (And.intro hb0 hab))
 clear ha0 hb0 hab
 have HA:=hide ha;have HB:=hide hb
 obtain⟨⟨an,ao,al,ac⟩,rfl⟩:=ha.nm
 obtain⟨⟨bn,bo,bl,bc⟩,rfl⟩:=hb.nm
 clear ha hb
 go_enter Tryz.func108,Tryz.ntmps108
 go_wp2_with fail
 have hb4:Below w.heap.size w ((((w.alloc (.cells #[.bool an,.slice ao al ac] 29)).alloc (.cells #[.bool bn,.slice bo bl bc] 29)).alloc (.cells #[.bool false,.slice none 0 0] 29)).alloc (.cells #[.bool false,.slice none 0 0] 29)):=
  ((((Below.refl _ _).alloc zL _).alloc (by simp) _).alloc (by simp;omega) _).alloc (by simp;omega) _
 have x0:=(((zj w (.bool an) (.slice ao al ac) 29 w.heap.size rfl).alloc (by simp) (.cells #[.bool bn,.slice bo bl bc] 29)).alloc (by simp;omega) (.cells #[.bool false,.slice none 0 0] 29)).alloc (by simp;omega) (.cells #[.bool false,.slice none 0 0] 29)
 have x1:=((zj (w.alloc (.cells #[.bool an,.slice ao al ac] 29)) (.bool bn) (.slice bo bl bc) 29 (w.heap.size+1) (by simp)).alloc (by simp) (.cells #[.bool false,.slice none 0 0] 29)).alloc (by simp) (.cells #[.bool false,.slice none 0 0] 29)
 have x2:=(zj ((w.alloc (.cells #[.bool an,.slice ao al ac] 29)).alloc (.cells #[.bool bn,.slice bo bl bc] 29)) (.bool false) (.slice none 0 0) 29 (w.heap.size+1+1) (by simp)).alloc (by simp) (.cells #[.bool false,.slice none 0 0] 29)
 have x3:=zj (((w.alloc (.cells #[.bool an,.slice ao al ac] 29)).alloc (.cells #[.bool bn,.slice bo bl bc] 29)).alloc (.cells #[.bool false,.slice none 0 0] 29)) (.bool false) (.slice none 0 0) 29 (w.heap.size+1+1+1) (by simp)
 have hs4:((((w.alloc (.cells #[.bool an,.slice ao al ac] 29)).alloc (.cells #[.bool bn,.slice bo bl bc] 29)).alloc (.cells #[.bool false,.slice none 0 0] 29)).alloc (.cells #[.bool false,.slice none 0 0] 29)).heap.size=w.heap.size+4:=by simp
 generalize (((w.alloc (.cells #[.bool an,.slice ao al ac] 29)).alloc (.cells #[.bool bn,.slice bo bl bc] 29)).alloc (.cells #[.bool false,.slice none 0 0] 29)).alloc (.cells #[.bool false,.slice none 0 0] 29)=W4 at *
 have HA4:=hide (HA.out.below hb4 zL);have HB4:=hide (HB.out.below hb4 zL)
 have HE4:=hide hb4
 clear HA HB hb4
 refine(GK.gcd_any W4 _ _ a b HA4.out HB4.out (by omega) hM).mono ?_
 rintro e w1 ⟨vg,vx,vy,g,x,y,rfl,n1,n2,n3,hgx,hg0,⟨p,hp⟩,⟨p2,hp2⟩,hb1⟩
 have hgp:0<g:=by
  have:=HP0.out.1
  rcases Int.lt_or_eq_of_le hg0 with h | h
  ·exact h
  ·rw [← h,Int.mul_zero] at hp;omega
 have HGG:=hide (And.intro hgp (And.intro hp (And.intro hp2 hgx)))
 obtain⟨⟨gn,go,gl,gc⟩,rfl⟩:=n1.nm
 obtain⟨⟨xn,xo,xl,xc⟩,rfl⟩:=n2.nm
 obtain⟨⟨yn,yo,yl,yc⟩,rfl⟩:=n3.nm
 have y0:=x0.later hb1 (by omega)
 have y1:=x1.later hb1 (by omega)
 have y2:=x2.later hb1 (by omega)
 have y3:=x3.later hb1 (by omega)
 have HA1:=hide (HA4.out.below hb1 zL);have HB1:=hide (HB4.out.below hb1 zL);have HG1:=hide n1
 have HE1:=hide (HE4.out.trans (hb1.mono HE4.out.size))
 have hs1:w.heap.size+4≤w1.heap.size:=by have:=hb1.size;omega
 clear hp hp2 hgx hg0 hgp n1 n2 n3 hb1 x0 x1 x2 x3 HA4 HB4 HE4 hs4
 have hbW:Below w1.heap.size w1 (((w1.alloc (.cells #[.bool gn,.slice go gl gc] 29)).alloc (.cells #[.bool xn,.slice xo xl xc] 29)).alloc (.cells #[.bool yn,.slice yo yl yc] 29)):=(((Below.refl _ _).alloc zL _).alloc (by simp) _).alloc (by simp;omega) _
 have q0:=(((y0.alloc (by omega) (.cells #[.bool gn,.slice go gl gc] 29)).alloc (by simp;omega) (.cells #[.bool xn,.slice xo xl xc] 29)).alloc (by simp;omega) (.cells #[.bool yn,.slice yo yl yc] 29))
 have q1:=(((y1.alloc (by omega) (.cells #[.bool gn,.slice go gl gc] 29)).alloc (by simp;omega) (.cells #[.bool xn,.slice xo xl xc] 29)).alloc (by simp;omega) (.cells #[.bool yn,.slice yo yl yc] 29))
 have q2:=(((y2.alloc (by omega) (.cells #[.bool gn,.slice go gl gc] 29)).alloc (by simp;omega) (.cells #[.bool xn,.slice xo xl xc] 29)).alloc (by simp;omega) (.cells #[.bool yn,.slice yo yl yc] 29))
 have q3:=(((y3.alloc (by omega) (.cells #[.bool gn,.slice go gl gc] 29)).alloc (by simp;omega) (.cells #[.bool xn,.slice xo xl xc] 29)).alloc (by simp;omega) (.cells #[.bool yn,.slice yo yl yc] 29))
 have qg:=((zj w1 (.bool gn) (.slice go gl gc) 29 w1.heap.size rfl).alloc (by simp) (.cells #[.bool xn,.slice xo xl xc] 29)).alloc (by simp;omega) (.cells #[.bool yn,.slice yo yl yc] 29)
 have hsW:(((w1.alloc (.cells #[.bool gn,.slice go gl gc] 29)).alloc (.cells #[.bool xn,.slice xo xl xc] 29)).alloc (.cells #[.bool yn,.slice yo yl yc] 29)).heap.size=w1.heap.size+3:=by simp
 obtain⟨p0,p1,-,-⟩:=q0
 have qg':=qg
 obtain⟨p2,p3,-,-⟩:=qg
 go_wp2_with fail
 generalize (((w1.alloc (.cells #[.bool gn,.slice go gl gc] 29)).alloc (.cells #[.bool xn,.slice xo xl xc] 29)).alloc (.cells #[.bool yn,.slice yo yl yc] 29))=W3 at *
 refine(zbo W3 _ _ a g M M (HA1.out.below hbW zL) (HG1.out.below hbW zL) (by have:=HGG.out.1;omega) (by omega)).mono ?_
 rintro e w2 ⟨vq,vr,q,r,rfl,m1,m2,hqr,hlf,hb2⟩
 have HQQ:=hide (Left.exact HGG.out.1 HGG.out.2.1 hqr hlf)
 obtain⟨⟨qn,qo,ql,qc⟩,rfl⟩:=m1.nm
 obtain⟨⟨rn,ro,rl,rc⟩,rfl⟩:=m2.nm
 have hb12:Below w1.heap.size w1 w2:=hbW.trans (hb2.mono (by omega))
 have b1:=q1.later hb2 (by omega)
 have b2:=q2.later hb2 (by omega)
 have b3:=q3.later hb2 (by omega)
 have bg:=qg'.later hb2 (by omega)
 have HB2:=hide (HB1.out.below hb12 zL);have HG2:=hide (HG1.out.below hb12 zL);have HQ2:=hide m1
 have HE2:=hide (HE1.out.trans (hb12.mono HE1.out.size))
 have hs2:w1.heap.size+3≤w2.heap.size:=by have:=hb2.size;omega
 clear hqr hlf m1 m2 hb2 hb12 hbW hsW p0 p1 p2 p3 q1 q2 q3 qg' HA1 HB1 HG1 HE1 y1 y2 y3
 have hbX:Below w2.heap.size w2 ((w2.alloc (.cells #[.bool qn,.slice qo ql qc] 29)).alloc (.cells #[.bool rn,.slice ro rl rc] 29)):=((Below.refl _ _).alloc zL _).alloc (by simp) _
 have t1:=((b1.alloc (by omega) (.cells #[.bool qn,.slice qo ql qc] 29)).alloc (by simp;omega) (.cells #[.bool rn,.slice ro rl rc] 29))
 have t2:=((b2.alloc (by omega) (.cells #[.bool qn,.slice qo ql qc] 29)).alloc (by simp;omega) (.cells #[.bool rn,.slice ro rl rc] 29))
 have t3:=((b3.alloc (by omega) (.cells #[.bool qn,.slice qo ql qc] 29)).alloc (by simp;omega) (.cells #[.bool rn,.slice ro rl rc] 29))
 have tg:=((bg.alloc (by omega) (.cells #[.bool qn,.slice qo ql qc] 29)).alloc (by simp;omega) (.cells #[.bool rn,.slice ro rl rc] 29))
 have tq:=(zj w2 (.bool qn) (.slice qo ql qc) 29 w2.heap.size rfl).alloc (by simp) (.cells #[.bool rn,.slice ro rl rc] 29)
 have hsX:((w2.alloc (.cells #[.bool qn,.slice qo ql qc] 29)).alloc (.cells #[.bool rn,.slice ro rl rc] 29)).heap.size=w2.heap.size+2:=by simp
 go_wp2_with fail
 have hm2:w2.heap.size<((w2.alloc (.cells #[.bool qn,.slice qo ql qc] 29)).alloc (.cells #[.bool rn,.slice ro rl rc] 29)).heap.size:=by simp;omega
 generalize ((w2.alloc (.cells #[.bool qn,.slice qo ql qc] 29)).alloc (.cells #[.bool rn,.slice ro rl rc] 29))=W5 at *
 have HT1:=hide t1;have HT2:=hide t2;have HT3:=hide t3;have HTG:=hide tg;have HTQ:=hide tq
 have HBX:=hide hbX;have HSX:=hide hsX
 clear t1 t2 t3 tg tq hbX hsX b1 b2 b3 bg
 have s0:(fun w'=>w'.cell? ⟨w1.heap.size,0,none⟩=some (.bool gn)∧w'.cell? ⟨w1.heap.size,1,none⟩=some (.slice go gl gc)∧w'.cell? ⟨w2.heap.size,0,none⟩=some (.bool qn)∧w'.cell? ⟨w2.heap.size,1,none⟩=some (.slice qo ql qc)∧w'.cell? ⟨w.heap.size+1,0,none⟩=some (.bool bn)∧w'.cell? ⟨w.heap.size+1,1,none⟩=some (.slice bo bl bc)) W5:=⟨HTG.out.1,HTG.out.2.1,HTQ.out.1,HTQ.out.2.1,HT1.out.1,HT1.out.2.1⟩
 refine zw (S:=(fun w'=>w'.cell? ⟨w1.heap.size,0,none⟩=some (.bool gn)∧w'.cell? ⟨w1.heap.size,1,none⟩=some (.slice go gl gc)∧w'.cell? ⟨w2.heap.size,0,none⟩=some (.bool qn)∧w'.cell? ⟨w2.heap.size,1,none⟩=some (.slice qo ql qc)∧w'.cell? ⟨w.heap.size+1,0,none⟩=some (.bool bn)∧w'.cell? ⟨w.heap.size+1,1,none⟩=some (.slice bo bl bc))) (k:=4) (by kernel_rfl) (by exact s0) (fun hHeld=>?_)
 refine zf 0 26 [4,5] ?_
 try simp only [zA]
 refine zf 1 27 [3,4,5] ?_
 try simp only [zA]
 refine zf 2 28 [3,4,5] ?_
 try simp only [zA]
 refine zg 3 (by kernel_rfl) rfl (fun K hK=>?_)
 go_simp
 refine(zbc W5.drew _ _ q b (M+1) M (by exact(HQ2.out.below HBX.out zL).below (Below.refl W5.heap.size W5).drew zL) (by exact(HB2.out.below HBX.out zL).below (Below.refl W5.heap.size W5).drew zL) (by omega) (by omega)).mono ?_
 rintro e w3 ⟨vm,rfl,nm,hb3⟩
 have HLC:=hide (zjh HP0.out.1 HP0.out.2.1 HGG.out.1 HQQ.out HGG.out.2.2.1)
 have nm1:NumL w3 vm (q*b) M:=nm.tight (by have h1:=HLC.out.1;have h2:=HLC.out.2.1;have h3:=HP0.out.2.2;unfold ab;rw [if_neg (by omega)];omega)
 obtain⟨⟨mn,mo,ml,mc⟩,rfl⟩:=nm1.nm
 have hb3':Below W5.heap.size W5 w3:=(Below.refl _ _).drew.trans hb3
 have hs2':=HSX.out
 have u1:=HT1.out.later hb3' (by omega)
 have u2:=HT2.out.later hb3' (by omega)
 have u3:=HT3.out.later hb3' (by omega)
 have ug:=HTG.out.later hb3' (by omega)
 have uq:=HTQ.out.later hb3' (by omega)
 have hs3:w2.heap.size+2≤w3.heap.size:=by have:=hb3'.size;omega
 have HG3:=hide ((HG2.out.below HBX.out zL).below hb3' zL)
 have HM3:=hide nm1
 have HE3:=hide (HE2.out.trans ((HBX.out.trans (hb3'.mono HBX.out.size)).mono HE2.out.size))
 clear nm nm1 hb3 hb3'
 go_wp2_with fail
 refine hK.out _ _ (fun _=>⟨ug.1,ug.2.1,uq.1,uq.2.1,u1.1,u1.2.1⟩) ?_
 clear hK K hHeld
 try simp only [zA]
 obtain⟨v20,v21,v22,v23⟩:=u2
 obtain⟨v30,v31,v32,v33⟩:=u3
 refine zg 4 (by kernel_rfl) rfl (fun K hK=>?_)
 go_simp
 refine hK.out _ _ (fun h=>absurd h (by decide)) ?_
 clear hK K
 try simp only [zA]
 have z2:=Box.write (W:=w3) (B:=w.heap.size+1+1) ⟨v20,v21,v22,v23⟩ (.bool gn) (.slice go gl gc)
 have z3:=(Box.other (W:=w3) (A:=w.heap.size+1+1+1) (B:=w.heap.size+1+1) ⟨v30,v31,v32,v33⟩ (by omega) 0 (.bool gn)).other (B:=w.heap.size+1+1) (by omega) 1 (.slice go gl gc)
 have HNG:=hide ((HG3.out.setCell v20 (x:=.bool gn) (fun z e=>by cases e)).setCell (p:=⟨w.heap.size+1+1,1,none⟩) (x:=.slice go gl gc) ((World.cell?_setCell_other (h:=fun e=>by simp at e) ..).trans v21) (fun z e=>by cases e))
 have HNM:=hide ((HM3.out.setCell v20 (x:=.bool gn) (fun z e=>by cases e)).setCell (p:=⟨w.heap.size+1+1,1,none⟩) (x:=.slice go gl gc) ((World.cell?_setCell_other (h:=fun e=>by simp at e) ..).trans v21) (fun z e=>by cases e))
 have HEZ:=hide ((HE3.out.setCell (p:=⟨w.heap.size+1+1,0,none⟩) (by show w.heap.size≤w.heap.size+1+1;omega) (.bool gn)).setCell (p:=⟨w.heap.size+1+1,1,none⟩) (by show w.heap.size≤w.heap.size+1+1;omega) (.slice go gl gc))
 clear v20 v21 v22 v23 v30 v31 v32 v33 HG3 HM3 HE3 ug uq u1
 generalize (w3.setCell ⟨w.heap.size+1+1,0,none⟩ (.bool gn)).setCell ⟨w.heap.size+1+1,1,none⟩ (.slice go gl gc)=w6 at *
 obtain⟨v30,v31,v32,v33⟩:=z3
 refine zg 5 (by kernel_rfl) rfl (fun K hK=>?_)
 go_simp
 refine hK.out _ _ (fun h=>absurd h (by decide)) ?_
 clear hK K
 try simp only [zA]
 refine zt (by kernel_rfl) ?_
 have y3':=Box.write (W:=w6) (B:=w.heap.size+1+1+1) ⟨v30,v31,v32,v33⟩ (.bool mn) (.slice mo ml mc)
 have y2':=(z2.other (B:=w.heap.size+1+1+1) (by omega) 0 (.bool mn)).other (B:=w.heap.size+1+1+1) (by omega) 1 (.slice mo ml mc)
 have HFG:=hide ((HNG.out.setCell v30 (x:=.bool mn) (fun z e=>by cases e)).setCell (p:=⟨w.heap.size+1+1+1,1,none⟩) (x:=.slice mo ml mc) ((World.cell?_setCell_other (h:=fun e=>by simp at e) ..).trans v31) (fun z e=>by cases e))
 have HFM:=hide ((HNM.out.setCell v30 (x:=.bool mn) (fun z e=>by cases e)).setCell (p:=⟨w.heap.size+1+1+1,1,none⟩) (x:=.slice mo ml mc) ((World.cell?_setCell_other (h:=fun e=>by simp at e) ..).trans v31) (fun z e=>by cases e))
 have HFE:=hide ((HEZ.out.setCell (p:=⟨w.heap.size+1+1+1,0,none⟩) (by show w.heap.size≤w.heap.size+1+1+1;omega) (.bool mn)).setCell (p:=⟨w.heap.size+1+1+1,1,none⟩) (by show w.heap.size≤w.heap.size+1+1+1;omega) (.slice mo ml mc))
 clear v30 v31 v32 v33 HNG HNM HEZ z2
 generalize (w6.setCell ⟨w.heap.size+1+1+1,0,none⟩ (.bool mn)).setCell ⟨w.heap.size+1+1+1,1,none⟩ (.slice mo ml mc)=w7 at *
 obtain⟨r0,r1,-,-⟩:=y2'
 obtain⟨r2,r3,-,-⟩:=y3'
 go_wp2
 exact bodyPost_ret (v:=.tuple #[.agg #[.bool gn,.slice go gl gc],.agg #[.bool mn,.slice mo ml mc]]) (by simp [results,Tryz.results108,go_sem,r0,r1,r2,r3]) rfl ⟨_,_,g,q*b,rfl,HFG.out,HFM.out,HGG.out.1,HLC.out.1,HLC.out.2.2.1,⟨q,HQQ.out⟩,⟨p2,HGG.out.2.2.1⟩,HLC.out.2.2.2,⟨q,rfl⟩,⟨x,y,HGG.out.2.2.2⟩,HFE.out⟩
def upd1 (f:Nat→Int)(k:Nat)(x:Int):Nat→Int:=fun i=>if i=k then x else f i
theorem zbe{f g:Nat→Int}(h:∀ i,i<n→f i=g i):prodN n f=prodN n g:=by
 induction n with
 | zero=>rfl
 | succ n ih=>rw [prodN,prodN,ih fun i hi=>h i (by omega),h n (by omega)]
theorem zf5 (n:Nat)(f:Nat→Int)(k:Nat)(hk:k<n):prodN n f=f k*prodN n (upd1 f k 1):=by
 induction n with
 | zero=>omega
 | succ n ih=>
  rw [prodN,prodN]
  by_cases e:k=n
  ·subst e
   rw [zbe (f:=upd1 f k 1) (g:=f) fun i hi=>if_neg (by omega),show upd1 f k 1 k=1 from if_pos rfl,Int.mul_one,Int.mul_comm]
  ·rw [ih (by omega),show upd1 f k 1 n=f n from if_neg (by omega),Int.mul_assoc]
theorem zdL (n:Nat)(f:Nat→Int)(k h:Nat)(hkh:k<h)(hh:h<n):prodN n f=f k*f h*prodN n (upd1 (upd1 f k 1) h 1):=by
 rw [zf5 n f k (by omega),zf5 n (upd1 f k 1) h hh,show upd1 f k 1 h=f h from if_neg (by omega),Int.mul_assoc]
structure ChI (r:Nat)(zs:List Int)(D:Int)(A:Nat→Nat→Int)(low hi:Nat):Prop where
 len:zs.length=r
 pos:∀ j,j<r→0<zs.getD j 0
 prod:prodN r (fun j=>zs.getD j 0)=D
 chain:∀ i,i<low→∀ j,i<j→j<r→∃ p,zs.getD j 0=p*zs.getD i 0
 inner:∀ j,low<j→j<hi→∃ p,zs.getD j 0=p*zs.getD low 0
 rel:Equ r A (dgM fun i=>zs.getD i 0)
theorem zds(h:∃ p,b=p*a)(k:∃ p,c=p*b):∃ p,c=p*a:=by
 obtain⟨p,rfl⟩:=h
 obtain⟨q,rfl⟩:=k
 exact⟨q*p,(Int.mul_assoc ..).symm⟩
theorem ziG{x y:Int}(h:∃ p,b=p*a)(k:∃ p,c=p*a):∃ p,x*b+y*c=p*a:=by
 obtain⟨p,rfl⟩:=h
 obtain⟨q,rfl⟩:=k
 exact⟨x*p+y*q,by rw [Int.add_mul,Int.mul_assoc,Int.mul_assoc]⟩
section
variable {r low h:Nat}{zs:List Int}{D:Int}{A:Nat→Nat→Int}
theorem ChI.two_le (C:ChI r zs D A low h)(h1:low<h)(h2:h<r):zs.getD low 0*zs.getD h 0≤D:=by
 have e:=zdL r (fun j=>zs.getD j 0) low h h1 h2
 rw [C.prod] at e
 have p1:1≤prodN r (upd1 (upd1 (fun j=>zs.getD j 0) low 1) h 1):=zad r _ fun i hi=>by
  have:=C.pos i hi
  unfold upd1
  split
  ·exact Int.le_refl 1
  ·split
   ·exact Int.le_refl 1
   ·exact this
 have hp:0≤zs.getD low 0*zs.getD h 0:=Int.le_of_lt (Int.mul_pos (C.pos low (by omega)) (C.pos h h2))
 have:=Int.mul_le_mul_of_nonneg_left p1 hp
 omega
theorem ChI.one_le (C:ChI r zs D A low h){j:Nat}(hj:j<r):zs.getD j 0≤D:=by
 rw [← C.prod]
 exact zdK r (fun j=>zs.getD j 0) (fun i hi=>C.pos i hi) j hj
theorem zkH (zs:List Int)(k h:Nat)(x y:Int)(hk:k<zs.length)(hh:h<zs.length)(j:Nat):((zs.set k x).set h y).getD j 0=if j=h then y else if j=k then x else zs.getD j 0:=by
 rw [List.getD_eq_getElem?_getD,List.getElem?_set,List.length_set]
 by_cases e:h=j
 ·rw [if_pos e,if_pos e.symm,if_pos hh];rfl
 ·rw [if_neg e,if_neg (Ne.symm e),List.getElem?_set]
  by_cases e2:k=j
  ·rw [if_pos e2,if_pos e2.symm,if_pos hk];rfl
  ·rw [if_neg e2,if_neg (Ne.symm e2),List.getD_eq_getElem?_getD]
theorem ChI.step (C:ChI r zs D A low h)(h1:low<h)(h2:h<r){l:Int}(hg:0<g)(hl:0<l)(hgl:g*l=zs.getD low 0*zs.getD h 0)(ha:∃ p,zs.getD low 0=p*g)(hb:∃ p,zs.getD h 0=p*g)(hal:∃ p,l=p*zs.getD low 0)(hgx:∃ x y,g=x*zs.getD low 0+y*zs.getD h 0):
  ChI r ((zs.set low g).set h l) D A low (h+1):=by
 have hG:=zkH zs low h g l (by rw [C.len];omega) (by rw [C.len];exact h2)
 refine⟨by rw [List.length_set,List.length_set,C.len],fun j hj=>?_,?_,fun i hi j hij hj=>?_,fun j hj1 hj2=>?_,C.rel.trans ?_⟩
 ·rw [hG]
  split
  ·exact hl
  ·split
   ·exact hg
   ·exact C.pos j hj
 ·rw [zdL r _ low h h1 h2,← C.prod,zdL r (fun j=>zs.getD j 0) low h h1 h2]
  have e:prodN r (upd1 (upd1 (fun j=>((zs.set low g).set h l).getD j 0) low 1) h 1)=prodN r (upd1 (upd1 (fun j=>zs.getD j 0) low 1) h 1):=zbe fun i hi=>by
   unfold upd1
   by_cases e1:i=h
   ·rw [if_pos e1,if_pos e1]
   ·rw [if_neg e1,if_neg e1]
    by_cases e2:i=low
    ·rw [if_pos e2,if_pos e2]
    ·rw [if_neg e2,if_neg e2]
     show((zs.set low g).set h l).getD i 0=zs.getD i 0
     rw [hG,if_neg e1,if_neg e2]
  rw [e]
  show((zs.set low g).set h l).getD low 0 *((zs.set low g).set h l).getD h 0*_=_
  rw [hG low,hG h,if_neg (by omega),if_pos rfl,if_pos rfl,hgl]
 ·rw [hG i,if_neg (by omega),if_neg (by omega),hG j]
  by_cases e1:j=h
  ·rw [if_pos e1];exact zds (C.chain i hi low hi (by omega)) hal
  ·rw [if_neg e1]
   by_cases e2:j=low
   ·rw [if_pos e2]
    obtain⟨x,y,e⟩:=hgx
    rw [e]
    exact ziG (C.chain i hi low hi (by omega)) (C.chain i hi h (by omega) h2)
   ·rw [if_neg e2];exact C.chain i hi j hij hj
 ·rw [hG low,if_neg (by omega),if_pos rfl,hG j]
  by_cases e1:j=h
  ·rw [if_pos e1];exact zds ha hal
  ·rw [if_neg e1,if_neg (by omega)]
   exact zds ha (C.inner j hj1 (by omega))
 ·obtain⟨x,y,e1⟩:=hgx
  obtain⟨p,e2⟩:=ha
  obtain⟨q,e3⟩:=hb
  have e4:l=p*zs.getD h 0:=Int.eq_of_mul_eq_mul_left (Int.ne_of_gt hg) (by rw [hgl,e2,Int.mul_comm p g,Int.mul_assoc])
  have e:=zhg (r:=r) (f:=fun i=>zs.getD i 0) h1 h2 e1 e2 e3 e4
  rw [← zeM zs h1] at e
  have e5:blkM (fun i=>zs.getD i 0) low h g 0 0 l=dgM (fun i=>((zs.set low g).set h l).getD i 0):=by
   rw [zeM _ h1,hG low,hG h,if_neg (by omega),if_pos rfl,if_pos rfl]
   exact zha fun i n1 n2=>by rw [hG,if_neg n2,if_neg n1]
  rw [← e5]
  exact e
theorem ChI.next (C:ChI r zs D A low h)(hh:r≤h):ChI r zs D A (low+1) (low+1+1):=
 ⟨C.len,C.pos,C.prod,fun i hi j hij hj=>by
  by_cases e:i=low
  ·subst e;exact C.inner j hij (by omega)
  ·exact C.chain i (by omega) j hij hj,fun j h1 h2=>absurd h2 (by omega),C.rel⟩
end
theorem zer (w0 w:World)(P r M:Nat)(zs:List Int)(D:Int)(A:Nat→Nat→Int)(hv:VecO w0 w P zs M)(hC:ChI r zs D A 0 1)(hD:D<bp M)(hr:r≤100)(hM:2≤M)(hM2:M≤100000):
  Calls Tryz.prog 66 #[.slice (some ⟨P,0,none⟩) r r] w fun e w'=>∃ ys,e=.returned (.slice (some ⟨P,0,none⟩) r r)∧VecO w0 w' P ys M∧ChI r ys D A r (r+1):=by
 have HI:=hide hv;have HC:=hide hC;have HD:=hide hD
 clear hv hC hD
 go_enter Tryz.func66,Tryz.ntmps66
 go_wp2
 go_loopw [8] (fun x wr=>∃(k:Nat) (zs:List Int),k≤r∧x=.int .i64 k∧Hid (VecO w0 wr P zs M)∧Hid (ChI r zs D A k (k+1))) (fun x _=>r-(intOf x).toNat)
 case atStart=>exact⟨0,_,Nat.zero_le _,rfl,HI,HC⟩
 case round=>
  clear HI HC zs
  obtain⟨k,zs,hk,rfl,HI,HC⟩:=hrel
  by_cases hkl:k<r
  ·go_wp2
   go_loopw [16] (fun x wr=>∃(i:Nat) (zs:List Int),k+1+i≤r∧x=.int .i64 i∧Hid (VecO w0 wr P zs M)∧Hid (ChI r zs D A k (k+1+i))) (fun x _=>r-(k+1)-(intOf x).toNat)
   case atStart=>exact⟨0,_,by omega,rfl,HI,HC⟩
   case round=>
    clear HI HC zs
    obtain⟨i,zs,hi,rfl,HI,HC⟩:=hrel
    by_cases hil:k+1+i<r
    ·have g1:decide ((i:Int)<(r:Int)-(k:Int)-1)=true:=decide_eq_true (by omega)
     obtain⟨h,hh⟩:∃ h:Nat,h=k+1+i:=⟨_,rfl⟩
     have hkh:k<h:=by omega
     have hhr:h<r:=by omega
     have HH:=hide hh
     rw [← hh] at HC
     have hzl:=HC.out.len
     obtain⟨an,ao,al,ac,a0,a1,na⟩:=HI.out.at k (by omega)
     obtain⟨bn,bo,bl,bc,b0,b1,nb⟩:=HI.out.at h (by omega)
     have HPA:=hide (HC.out.pos k (by omega));have HPB:=hide (HC.out.pos h hhr)
     have HAB:=hide (Int.lt_of_le_of_lt (HC.out.two_le hkh hhr) HD.out)
     have NA:=hide na;have NB:=hide nb
     have hP:=HI.out.lt
     clear na nb hh
     go_wp2_with fail
     rw [show((k:Int)+1+(i:Int))=(h:Int) by have:=HH.out;omega]
     refine zbJ (A:=fun j=>decide (j=7∨j=11∨j=12)) (S:=(fun w'=>w'.cell? ⟨P,k*2,none⟩=some (.bool an)∧w'.cell? ⟨P,k*2+1,none⟩=some (.slice ao al ac)∧w'.cell? ⟨P,h*2,none⟩=some (.bool bn)∧w'.cell? ⟨P,h*2+1,none⟩=some (.slice bo bl bc))) (by kernel_rfl) (by exact⟨a0,a1,b0,b1⟩) (fun hHeld=>?_)
     refine zx 0 24 ?_
     try simp only [zA]
     refine zx 1 25 ?_
     try simp only [zA]
     refine zx 2 26 ?_
     try simp only [zA]
     refine zx 3 27 ?_
     try simp only [zA]
     refine zx 4 28 ?_
     try simp only [zA]
     refine zx 5 29 ?_
     try simp only [zA]
     refine zx 6 30 ?_
     try simp only [zA]
     refine zx 8 32 ?_
     try simp only [zA]
     refine zx 9 33 ?_
     try simp only [zA]
     refine zx 10 34 ?_
     try simp only [zA]
     refine zi 7 31 [12,13,14,15,16,17,18,19] ?_
     try simp only [zA]
     refine zi 11 35 [12,13,14,15,16,17,18,19] ?_
     try simp only [zA]
     refine zM 12 (by kernel_rfl) rfl (fun K hK=>?_)
     go_simp
     refine(zhD wr.drew _ _ _ _ M (by exact NA.out.below (Below.refl wr.heap.size wr).drew zL) (by exact NB.out.below (Below.refl wr.heap.size wr).drew zL) HPA.out HPB.out HAB.out hM hM2).mono ?_
     rintro e w1 ⟨v1,v2,g,l,rfl,n1,n2,o1,o2,o3,o4,o5,o6,o7,o8,hb1⟩
     have HCN:=hide (HC.out.step hkh hhr o1 o2 o3 o4 o5 o6 o8)
     clear o1 o2 o3 o4 o5 o6 o7 o8
     have hb1':Below wr.heap.size wr w1:=(Below.refl _ _).drew.trans hb1
     have d0:=(hb1'.cell (p:=⟨P,k*2,none⟩) hP).trans a0
     have d1:=(hb1'.cell (p:=⟨P,k*2+1,none⟩) hP).trans a1
     have d2:=(hb1'.cell (p:=⟨P,h*2,none⟩) hP).trans b0
     have d3:=(hb1'.cell (p:=⟨P,h*2+1,none⟩) hP).trans b1
     obtain⟨⟨xn,xo,xl,xc⟩,rfl⟩:=n1.nm
     obtain⟨⟨yn,yo,yl,yc⟩,rfl⟩:=n2.nm
     have HI2:=hide (HI.out.later hb1')
     have f0:=HI2.out.thaw (k*2)
     have f1:=HI2.out.thaw (k*2+1)
     have f2:=HI2.out.thaw (h*2)
     have f3:=HI2.out.thaw (h*2+1)
     have HI3:=hide (HI2.out.set (k:=k) (by omega) n1)
     have HN2:Hid (NumL ((w1.setCell ⟨P,k*2,none⟩ (.bool xn)).setCell ⟨P,k*2+1,none⟩ (.slice xo xl xc)) (.agg #[.bool yn,.slice yo yl yc]) l M):=(n2.setCell d0 (fun z e=>by cases e)).setCell (p:=⟨P,k*2+1,none⟩) ((World.cell?_setCell_other (h:=fun e=>by simp at e) ..).trans d1) (fun z e=>by cases e)
     have HI4:=hide (HI3.out.set (k:=h) (by rw [List.length_set];omega) HN2.out)
     clear hb1 hb1' n1 n2
     go_wp2_with fail
     refine hK.out _ _ (fun _=>⟨d0,d1,d2,d3⟩) ?_
     clear hK K hHeld
     try simp only [zA]
     have hHeld1:(fun w'=>w'.cell? ⟨P,k*2,none⟩=some (.bool an)∧w'.cell? ⟨P,k*2+1,none⟩=some (.slice ao al ac)∧w'.cell? ⟨P,h*2,none⟩=some (.bool bn)∧w'.cell? ⟨P,h*2+1,none⟩=some (.slice bo bl bc)) w1:=⟨d0,d1,d2,d3⟩
     refine zx 13 23 ?_
     try simp only [zA]
     refine zx 14 37 ?_
     try simp only [zA]
     refine zx 15 38 ?_
     try simp only [zA]
     refine zx 16 39 ?_
     try simp only [zA]
     refine zM 17 (by kernel_rfl) rfl (fun K hK=>?_)
     go_simp
     refine hK.out _ _ (fun h=>absurd h (by decide)) ?_
     clear hK K
     try simp only [zA]
     refine zM 18 (by kernel_rfl) rfl (fun K hK=>?_)
     go_simp
     refine hK.out _ _ (fun h=>absurd h (by decide)) ?_
     clear hK K
     try simp only [zA]
     have m2:((w1.setCell ⟨P,k*2,none⟩ (.bool xn)).setCell ⟨P,k*2+1,none⟩ (.slice xo xl xc)).cell? ⟨P,h*2,none⟩=some (.bool bn):=(World.cell?_setCell_other (h:=fun e=>by simp at e <;> omega) ..).trans ((World.cell?_setCell_other (h:=fun e=>by simp at e <;> omega) ..).trans d2)
     have m3:((w1.setCell ⟨P,k*2,none⟩ (.bool xn)).setCell ⟨P,k*2+1,none⟩ (.slice xo xl xc)).cell? ⟨P,h*2+1,none⟩=some (.slice bo bl bc):=(World.cell?_setCell_other (h:=fun e=>by simp at e <;> omega) ..).trans ((World.cell?_setCell_other (h:=fun e=>by simp at e <;> omega) ..).trans d3)
     have q2:=HI3.out.thaw (h*2)
     have q3:=HI3.out.thaw (h*2+1)
     refine zM 19 (by kernel_rfl) rfl (fun K hK=>?_)
     go_simp
     refine hK.out _ _ (fun h=>absurd h (by decide)) ?_
     clear hK K
     try simp only [zA]
     refine zbI (by kernel_rfl) ?_
     clear a0 a1 b0 b1 d0 d1 d2 d3 f0 f1 f2 f3 m2 m3 q2 q3 HI HI2 HI3 HN2 NA NB hHeld1
     go_wp2
     go_roundw
     case rel=>exact⟨i+1,_,by omega,by go_num,HI4,hide (by have:=HCN.out;rw [show h+1=k+1+(i+1) by have:=HH.out;omega] at this;exact this)⟩
     case measure=>simp [intOf];omega
    ·have g1:decide ((i:Int)<(r:Int)-(k:Int)-1)=false:=decide_eq_false (by omega)
     go_wp2
     go_roundw
     case rel=>exact⟨k+1,_,by omega,by go_num,HI,hide (HC.out.next (by omega))⟩
     case measure=>simp [intOf];omega
  ·obtain rfl:k=r:=by omega
   go_wp2
   go_ret
   exact⟨_,rfl,HI.out,HC.out⟩
structure TurnF (n:Nat)(hs fs:List (List Int)):Prop where
 len:fs.length=hs.length
 lens:∀ u∈fs,u.length=hs.length
 free:FreeM hs.length (ent fs)
 alike:Alikes hs.length (InL fs) (InL (colsL hs n))
def dgL (r:Nat)(f:Nat→Int):List (List Int):=(List.range r).map fun i=>(List.range r).map fun j=>dgM f i j
theorem zct (r:Nat)(f:Nat→Int):(dgL r f).length=r:=by simp [dgL]
theorem zhY (r:Nat)(f:Nat→Int):∀ u∈dgL r f,u.length=r:=fun u hu=>by
 obtain⟨i,-,rfl⟩:=List.mem_map.1 hu
 simp
theorem zeL (r:Nat)(f:Nat→Int)(i:Nat)(hi:i<r):(dgL r f).getD i []=(List.range r).map fun j=>dgM f i j:=by
 rw [zk (by rw [zct];exact hi)]
 simp [dgL]
theorem zdh (r:Nat)(f:Nat→Int):EqM r (ent (dgL r f)) (dgM f):=fun i j hi hj=>by
 show((dgL r f).getD i []).getD j 0=_
 rw [zeL r f i hi,zaE _ _ j hj]
theorem zg3{hs:List (List Int)}{p:Nat→Nat}(F:FormL n hs p)(h:aloneTo hs p n hs.length):∃ gs,TurnF n hs gs∧Equ hs.length (ent gs) (dgM fun i=>(pivL hs p).getD i 0):=by
 have h0:∀ i b,i<hs.length→b<n→b≠p i→ent hs i b=0:=fun i b hi hb hne=>by
  rcases Nat.lt_or_gt_of_ne hne with hl | hl
  ·exact F.form.zero i b hi hl
  ·exact h i hi b hl hb
 have hcol:∀ i,i<hs.length→(colsL hs n).getD (p i) []=(dgL hs.length (fun k=>ent hs k (p k))).getD i []:=fun i hi=>by
  have hp:=F.form.lt i hi
  rw [zaV hs n _ hp,zeL _ _ i hi]
  refine zat (by simp) fun k hk=>?_
  rw [List.length_map] at hk
  rw [zby _ _ _ hk,zaE _ _ k hk]
  show ent hs k (p i)=dgM (fun k=>ent hs k (p k)) i k
  unfold dgM
  by_cases e:i=k
  ·rw [if_pos e,e]
  ·rw [if_neg e]
   refine h0 k (p i) hk hp fun e2=>e ?_
   rcases Nat.lt_trichotomy i k with hlt | hlt | hlt
   ·have:=F.form.inc i k hlt hk;omega
   ·exact hlt
   ·have:=F.form.inc k i hlt hi;omega
 refine⟨dgL hs.length (fun k=>ent hs k (p k)),⟨zct _ _,zhY _ _,?_,?_⟩,.of ((zdh _ _).trans fun i j hi hj=>?_)⟩
 ·refine ze2 (fun i j hi hj hji=>?_) fun i hi=>?_
  ·rw [zdh _ _ i j hi hj,dgM,if_neg (by omega)]
  ·rw [zdh _ _ i i hi hi,dgM,if_pos rfl]
   have:0<ent hs i (p i):=F.form.pos i hi
   omega
 ·refine Alikes.of (fun v hv hl=>?_) fun v hv hl=>?_
  ·obtain⟨i,hi,e⟩:=List.getElem_of_mem hv
   have hi':i<hs.length:=by rw [zct] at hi;exact hi
   have hm:(colsL hs n).getD (p i) []∈colsL hs n:=zr (by rw [zZ];exact F.form.lt i hi')
   rw [hcol i hi',zk hi,e] at hm
   exact .base hm hl
  ·obtain⟨j,hj,e⟩:=List.getElem_of_mem hv
   have hj':j<n:=by rw [zZ] at hj;exact hj
   by_cases hp:∃ i,i<hs.length∧j=p i
   ·obtain⟨i,hi,rfl⟩:=hp
    have hm:(dgL hs.length (fun k=>ent hs k (p k))).getD i []∈dgL hs.length (fun k=>ent hs k (p k)):=zr (by rw [zct];exact hi)
    rw [← hcol i hi,zk hj,e] at hm
    exact .base hm hl
   ·have e2:v=List.replicate hs.length 0:=by
     rw [← e,← zk hj,zaV hs n j hj']
     refine zat (by simp) fun k hk=>?_
     rw [List.length_map] at hk
     rw [zby _ _ _ hk]
     have:=h0 k j hk hj' fun e3=>hp ⟨k,hk,e3⟩
     unfold ent at this
     rw [this]
     simp [List.getD_eq_getElem?_getD,hk]
    rw [e2]
    exact .zero
 ·unfold dgM
  split
  ·exact(zcb hs p i hi).symm
  ·rfl
theorem zii{r:Nat}{H:List (List Int)}{A:Nat→Nat→Int}(S:Sq r H)(al:∀ k,k<r→∀ b,k<b→b<r→ent H k b=0)(h:Equ r A (ent H)∨Equ r (trM A) (ent H)):Equ r A (dgM fun i=>(pivL H fun k=>k).getD i 0):=by
 have e:EqM r (ent H) (dgM fun i=>(pivL H fun k=>k).getD i 0):=fun i j hi hj=>by
  unfold dgM
  by_cases hij:i=j
  ·rw [if_pos hij]
   refine Eq.trans ?_ (zcb H _ i (by rw [S.len];exact hi)).symm
   rw [hij]
  ·rw [if_neg hij]
   rcases Nat.lt_or_gt_of_ne hij with hl | hl
   ·exact al i hi j hl hj
   ·exact S.low hi hl
 rcases h with h | h
 ·exact h.trans (.of e)
 ·have:=(h.trans (.of e)).tr
  rw [zlm] at this
  exact this
theorem zij{hs H fs:List (List Int)}(S:Sq hs.length H)(S':Sq hs.length fs)(a:Alikes hs.length (InL fs) (InL (colsL H hs.length)))(h:∃ gs,TurnF n hs gs∧(Equ hs.length (ent gs) (ent H)∨Equ hs.length (trM (ent gs)) (ent H))):
  ∃ gs,TurnF n hs gs∧(Equ hs.length (ent gs) (ent fs)∨Equ hs.length (trM (ent gs)) (ent fs)):=by
 obtain⟨gs,hg,h⟩:=h
 refine⟨gs,hg,?_⟩
 rcases h with h | h
 ·exact .inr (h.tr.trans (S.cols_equ S' a))
 ·exact .inl (h.tr.trans (S.cols_equ S' a))
end Go.Proofs.YtdedolkgcdlmeaaGreatDoor
