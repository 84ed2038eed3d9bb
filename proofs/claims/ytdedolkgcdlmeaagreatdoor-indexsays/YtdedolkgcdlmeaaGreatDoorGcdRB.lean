import Derived.Test.YtdedolkgcdlmeaaGreatDoorGcdRA
set_option maxRecDepth 100000
set_option maxHeartbeats 6400000
namespace Go.Proofs.YtdedolkgcdlmeaaGreatDoor
open Go.RowKit Limbs Digs
theorem ziA {w w1 w2:World}{ra rb rx rv:Rm}{a b:Int}{n:Nat}(hb1:Below (((((w.alloc (.cells #[.int .i64 ra.s,.slice ra.o ra.l ra.c] 40)).alloc (.cells #[.int .i64 rb.s,.slice rb.o rb.l rb.c] 40)).alloc (.cells #[.int .i64 0,.slice none 0 0] 40)).alloc (.cells #[.int .i64 0,.slice none 0 0] 40)).alloc (.cells #[.int .i64 0,.slice none 0 0] 40)).heap.size (((((w.alloc (.cells #[.int .i64 ra.s,.slice ra.o ra.l ra.c] 40)).alloc (.cells #[.int .i64 rb.s,.slice rb.o rb.l rb.c] 40)).alloc (.cells #[.int .i64 0,.slice none 0 0] 40)).alloc (.cells #[.int .i64 0,.slice none 0 0] 40)).alloc (.cells #[.int .i64 0,.slice none 0 0] 40)) w1)(ha:NumR w (.agg #[.int .i64 ra.s,.slice ra.o ra.l ra.c]) a n)(hb:NumR w (.agg #[.int .i64 rb.s,.slice rb.o rb.l rb.c]) b n)(hx:NumR w1 (.agg #[.int .i64 rx.s,.slice rx.o rx.l rx.c]) 1 n)
  (hb2:Below (w1.heap.size+1+1) ((w1.alloc (.cells #[.int .i64 rx.s,.slice rx.o rx.l rx.c] 40)).alloc (.cells #[.int .i64 0,.slice none 0 0] 40)) w2) (hv:NumR w2 (.agg #[.int .i64 rv.s,.slice rv.o rv.l rv.c]) 1 n):GR w ((w2.alloc (.cells #[.int .i64 0,.slice none 0 0] 40)).alloc (.cells #[.int .i64 rv.s,.slice rv.o rv.l rv.c] 40)) w1.heap.size w2.heap.size ra rb rx ⟨0,none,0,0⟩ ⟨0,none,0,0⟩ rv a b 1 0 0 1 n:=by
 have s1:=hb1.size
 have s2:=hb2.size
 simp at s1 s2
 have k:∀(m:Nat) (V:World) (o:Obj),V.heap.size=m→Below m V (V.alloc o):=fun m V o h=>(Below.refl _ _).alloc (by omega) _
 have c2:Below w2.heap.size w2 ((w2.alloc (.cells #[.int .i64 0,.slice none 0 0] 40)).alloc (.cells #[.int .i64 rv.s,.slice rv.o rv.l rv.c] 40)):=(k _ w2 _ rfl).trans ((k (w2.heap.size+1) _ _ (by simp)).mono (by omega))
 have c1:Below w1.heap.size w1 ((w2.alloc (.cells #[.int .i64 0,.slice none 0 0] 40)).alloc (.cells #[.int .i64 rv.s,.slice rv.o rv.l rv.c] 40)):=(((k _ w1 _ rfl).trans ((k (w1.heap.size+1) _ _ (by simp)).mono (by omega))).trans (hb2.mono (by omega))).trans (c2.mono (by omega))
 have c5:Below (w.heap.size+5) (((((w.alloc (.cells #[.int .i64 ra.s,.slice ra.o ra.l ra.c] 40)).alloc (.cells #[.int .i64 rb.s,.slice rb.o rb.l rb.c] 40)).alloc (.cells #[.int .i64 0,.slice none 0 0] 40)).alloc (.cells #[.int .i64 0,.slice none 0 0] 40)).alloc (.cells #[.int .i64 0,.slice none 0 0] 40)) ((w2.alloc (.cells #[.int .i64 0,.slice none 0 0] 40)).alloc (.cells #[.int .i64 rv.s,.slice rv.o rv.l rv.c] 40)):=(hb1.mono (by simp)).trans (c1.mono (by omega))
 have c0:Below w.heap.size w ((w2.alloc (.cells #[.int .i64 0,.slice none 0 0] 40)).alloc (.cells #[.int .i64 rv.s,.slice rv.o rv.l rv.c] 40)):=((((((k _ w _ rfl).trans ((k (w.heap.size+1) _ _ (by simp)).mono (by omega))).trans ((k (w.heap.size+1+1) _ _ (by simp)).mono (by omega))).trans ((k (w.heap.size+1+1+1) _ _ (by simp)).mono (by omega))).trans ((k (w.heap.size+1+1+1+1) _ _ (by simp)).mono (by omega))).trans (c5.mono (by omega)))
 have b0:BoxR (((((w.alloc (.cells #[.int .i64 ra.s,.slice ra.o ra.l ra.c] 40)).alloc (.cells #[.int .i64 rb.s,.slice rb.o rb.l rb.c] 40)).alloc (.cells #[.int .i64 0,.slice none 0 0] 40)).alloc (.cells #[.int .i64 0,.slice none 0 0] 40)).alloc (.cells #[.int .i64 0,.slice none 0 0] 40)) w.heap.size (.int .i64 ra.s) (.slice ra.o ra.l ra.c):=((((zp w _ _ _ rfl).later (k (w.heap.size+1) _ _ (by simp)) (by omega)).later (k (w.heap.size+1+1) _ _ (by simp)) (by omega)).later (k (w.heap.size+1+1+1) _ _ (by simp)) (by omega)).later (k (w.heap.size+1+1+1+1) _ _ (by simp)) (by omega)
 have b1:BoxR (((((w.alloc (.cells #[.int .i64 ra.s,.slice ra.o ra.l ra.c] 40)).alloc (.cells #[.int .i64 rb.s,.slice rb.o rb.l rb.c] 40)).alloc (.cells #[.int .i64 0,.slice none 0 0] 40)).alloc (.cells #[.int .i64 0,.slice none 0 0] 40)).alloc (.cells #[.int .i64 0,.slice none 0 0] 40)) (w.heap.size+1) (.int .i64 rb.s) (.slice rb.o rb.l rb.c):=(((zp (w.alloc _) _ _ _ (by simp)).later (k (w.heap.size+1+1) _ _ (by simp)) (by omega)).later (k (w.heap.size+1+1+1) _ _ (by simp)) (by omega)).later (k (w.heap.size+1+1+1+1) _ _ (by simp)) (by omega)
 have b2:BoxR (((((w.alloc (.cells #[.int .i64 ra.s,.slice ra.o ra.l ra.c] 40)).alloc (.cells #[.int .i64 rb.s,.slice rb.o rb.l rb.c] 40)).alloc (.cells #[.int .i64 0,.slice none 0 0] 40)).alloc (.cells #[.int .i64 0,.slice none 0 0] 40)).alloc (.cells #[.int .i64 0,.slice none 0 0] 40)) (w.heap.size+1+1) (.int .i64 0) (.slice none 0 0):=((zp ((w.alloc _).alloc _) _ _ _ (by simp)).later (k (w.heap.size+1+1+1) _ _ (by simp)) (by omega)).later (k (w.heap.size+1+1+1+1) _ _ (by simp)) (by omega)
 have b3:BoxR (((((w.alloc (.cells #[.int .i64 ra.s,.slice ra.o ra.l ra.c] 40)).alloc (.cells #[.int .i64 rb.s,.slice rb.o rb.l rb.c] 40)).alloc (.cells #[.int .i64 0,.slice none 0 0] 40)).alloc (.cells #[.int .i64 0,.slice none 0 0] 40)).alloc (.cells #[.int .i64 0,.slice none 0 0] 40)) (w.heap.size+1+1+1) (.int .i64 0) (.slice none 0 0):=(zp (((w.alloc _).alloc _).alloc _) _ _ _ (by simp)).later (k (w.heap.size+1+1+1+1) _ _ (by simp)) (by omega)
 have b4:BoxR (((((w.alloc (.cells #[.int .i64 ra.s,.slice ra.o ra.l ra.c] 40)).alloc (.cells #[.int .i64 rb.s,.slice rb.o rb.l rb.c] 40)).alloc (.cells #[.int .i64 0,.slice none 0 0] 40)).alloc (.cells #[.int .i64 0,.slice none 0 0] 40)).alloc (.cells #[.int .i64 0,.slice none 0 0] 40)) (w.heap.size+1+1+1+1) (.int .i64 0) (.slice none 0 0):=zp ((((w.alloc _).alloc _).alloc _).alloc _) _ _ _ (by simp)
 have bx:BoxR ((w1.alloc (.cells #[.int .i64 rx.s,.slice rx.o rx.l rx.c] 40)).alloc (.cells #[.int .i64 0,.slice none 0 0] 40)) w1.heap.size (.int .i64 rx.s) (.slice rx.o rx.l rx.c):=(zp w1 _ _ _ rfl).later (k (w1.heap.size+1) _ _ (by simp)) (by omega)
 have by':BoxR ((w1.alloc (.cells #[.int .i64 rx.s,.slice rx.o rx.l rx.c] 40)).alloc (.cells #[.int .i64 0,.slice none 0 0] 40)) (w1.heap.size+1) (.int .i64 0) (.slice none 0 0):=zp (w1.alloc _) _ _ _ (by simp)
 have bu:BoxR ((w2.alloc (.cells #[.int .i64 0,.slice none 0 0] 40)).alloc (.cells #[.int .i64 rv.s,.slice rv.o rv.l rv.c] 40)) w2.heap.size (.int .i64 0) (.slice none 0 0):=(zp w2 _ _ _ rfl).later (k (w2.heap.size+1) _ _ (by simp)) (by omega)
 exact⟨⟨b0.later c5 (by omega),ha.below c0 zL⟩,⟨b1.later c5 (by omega),hb.below c0 zL⟩,b2.later c5 (by omega),b3.later c5 (by omega),b4.later c5 (by omega),⟨(bx.later hb2 (by omega)).later c2 (by omega),hx.below c1 zL⟩,⟨(by'.later hb2 (by omega)).later c2 (by omega),NumR.zero _ _⟩,⟨bu,NumR.zero _ _⟩,⟨zp (w2.alloc _) _ _ _ (by simp),hv.below c2 zL⟩,c0,by omega,by omega⟩
theorem ze3 (w:World)(va vb:Value)(a b:Int)(n:Nat)(ha:NumR w va a n)(hb:NumR w vb b n)(hn:n≤50000000000):
  Calls Tryz.prog 69 #[va,vb] w fun e w'=>GcdRPost w a b (n+1) e w':=by
 have HA:=hide (ha.mono (show n≤n+1 by omega));have HB:=hide (hb.mono (show n≤n+1 by omega))
 have HK:=hide (show 1≤dp (n+1)-1∧ab a+2*ab b≤dp (n+1)-1 by have h1:=zfJ ha;have h2:=zfJ hb;have h3:=zaB n;simp only [dp];omega)
 have HP:=hide (show -dp (n+1)<1∧1<dp (n+1) by have h3:=zaB n;simp only [dp];omega)
 obtain⟨⟨gs,go,gl,gc⟩,rfl⟩:=ha.rm
 obtain⟨⟨hs,ho,hl,hc⟩,rfl⟩:=hb.rm
 dsimp only at *
 clear ha hb
 go_enter Tryz.func69,Tryz.ntmps69
 go_wp2_with fail
 refine(z8 _ 1 (by decide) (by decide)).mono ?_
 rintro e w1 ⟨r1,rfl,hr1,hb1⟩
 obtain⟨⟨xs,xo,xl,xc⟩,rfl⟩:=hr1.rm
 have HR1:=hide (hr1.fits HP.out.1 HP.out.2)
 have HB1:=hide hb1
 clear hr1 hb1
 go_wp2_with fail
 refine(z8 _ 1 (by decide) (by decide)).mono ?_
 rintro e w2 ⟨r2,rfl,hr2,hb2⟩
 obtain⟨⟨vs,vo,vl,vc⟩,rfl⟩:=hr2.rm
 have HG:=hide (ziA (ra:=⟨gs,go,gl,gc⟩) (rb:=⟨hs,ho,hl,hc⟩) (rx:=⟨xs,xo,xl,xc⟩) (rv:=⟨vs,vo,vl,vc⟩) HB1.out HA.out HB.out HR1.out (by simpa using hb2) (hr2.fits HP.out.1 HP.out.2))
 have HBZ:=hide (BezR.start (a:=a) (b:=b) HK.out.1 HK.out.2)
 clear HR1 HB1 hr2 hb2 HA HB HP
 dsimp only at HG
 go_wp2
 generalize (w2.alloc (.cells #[.int .i64 0,.slice none 0 0] 40)).alloc (.cells #[.int .i64 vs,.slice vo vl vc] 40)=W at *
 generalize w1.heap.size=X at *
 generalize w2.heap.size=U at *
 go_loopw [] (fun wr=>∃(ra rb rx ry ru rv:Rm) (g h x y u v:Int),GR w wr X U ra rb rx ry ru rv g h x y u v (n+1)∧Hid (BezR (dp (n+1)-1) a b g h x u y v)) (fun wr=>(ab (numRAt wr (w.heap.size+1))).toNat)
 case atStart=>exact⟨_,_,_,_,_,_,_,_,_,_,_,_,HG.out,HBZ⟩
 case round=>
  clear HG HBZ
  obtain⟨⟨gs,go,gl,gc⟩,⟨hs,ho,hl,hc⟩,⟨xs,xo,xl,xc⟩,⟨ys,yo,yl,yc⟩,⟨us,uo,ul,uc⟩,⟨vs,vo,vl,vc⟩,g,h,x,y,u,v,HS,HBZ⟩:=hrel
  have HS0:=hide HS
  have HNA:=hide (zfI HS.b.box HS.b.num)
  have hsg:=HS.b.num.sign
  dsimp only at hsg
  have hX:=HS.hX
  have hU:=HS.hU
  obtain⟨e0,e1,-,-⟩:=HS.b.box.box
  dsimp only at e0 e1
  clear HS
  by_cases h0:h=0
  ·obtain rfl:hs=0:=by omega
   have hga:=HS0.out.a.num.sign
   dsimp only at hga
   obtain⟨g0,g1,-,-⟩:=HS0.out.a.box.box
   obtain⟨x0,x1,-,-⟩:=HS0.out.x.box.box
   obtain⟨y0,y1,-,-⟩:=HS0.out.y.box.box
   obtain⟨r0,r1,r2,r3⟩:=HS0.out.r1.box
   obtain⟨s0,s1,s2,s3⟩:=HS0.out.r2.box
   obtain⟨t0,t1,t2,t3⟩:=HS0.out.r3.box
   dsimp only at *
   have n1:¬(w.heap.size+1+1=w.heap.size+1+1+1):=by omega
   have n2:¬(w.heap.size+1+1+1=w.heap.size+1+1):=by omega
   have n3:¬(w.heap.size+1+1=w.heap.size+1+1+1+1):=by omega
   have n4:¬(w.heap.size+1+1+1+1=w.heap.size+1+1):=by omega
   have n5:¬(w.heap.size+1+1+1=w.heap.size+1+1+1+1):=by omega
   have n6:¬(w.heap.size+1+1+1+1=w.heap.size+1+1+1):=by omega
   have HE:=hide (show g=x*a+y*b∧(∃ p,a=p*g)∧(∃ p,b=p*g) by
    obtain⟨p,q,e⟩:=HBZ.out.spa
    obtain⟨p',q',e'⟩:=HBZ.out.spb
    rw [h0] at e e'
    exact⟨HBZ.out.eg,⟨p,by omega⟩,⟨p',by omega⟩⟩)
   clear HBZ
   by_cases hg0:g<0
   ·have hgl:gs<0:=by omega
    go_wp2_with fail
    refine zw (S:=(fun w'=>w'.cell? ⟨w.heap.size,0,none⟩=some (.int .i64 gs)∧w'.cell? ⟨w.heap.size,1,none⟩=some (.slice go gl gc)∧w'.cell? ⟨X,0,none⟩=some (.int .i64 xs)∧w'.cell? ⟨X,1,none⟩=some (.slice xo xl xc)∧w'.cell? ⟨X+1,0,none⟩=some (.int .i64 ys)∧w'.cell? ⟨X+1,1,none⟩=some (.slice yo yl yc))) (k:=6) (by kernel_rfl) (by(try dsimp only);go_keep) (fun hHeld=>?_)
    refine zf 0 43 [1,3,5,6,7,8] ?_
    try simp only [zA]
    refine zf 2 45 [3,5,6,7,8] ?_
    try simp only [zA]
    refine zf 4 47 [5,6,7,8] ?_
    try simp only [zA]
    refine zg 1 (by kernel_rfl) rfl (fun K hK=>?_)
    go_simp
    (refine(zaC _ _ g (n+1) (by exact HS0.out.drew.a.num)).mono ?_;rintro e w3 ⟨r3,rfl,hr,hb⟩;have h3:=hide (HS0.out.drew.later hb);clear hb;obtain⟨⟨ps,po,pl,pc⟩,rfl⟩:=hr.rm;have HN3:=hide hr;clear hr;obtain⟨g30,g31,-,-⟩:=h3.out.a.box.box;obtain⟨x30,x31,-,-⟩:=h3.out.x.box.box;obtain⟨y30,y31,-,-⟩:=h3.out.y.box.box;dsimp only at *)
    go_wp2_with fail
    refine hK.out _ _ (fun _=>by(try dsimp only);go_keep) ?_
    clear hK K
    try simp only [zA]
    refine zg 3 (by kernel_rfl) rfl (fun K hK=>?_)
    go_simp
    (refine(zaC _ _ x (n+1) (by exact h3.out.x.num)).mono ?_;rintro e w4 ⟨r4,rfl,hr,hb⟩;have h4:=hide (h3.out.later hb);replace HN3:=hide (HN3.out.below hb zL);clear hb;obtain⟨⟨ks,ko,kl,kc⟩,rfl⟩:=hr.rm;have HN4:=hide hr;clear hr;obtain⟨g40,g41,-,-⟩:=h4.out.a.box.box;obtain⟨x40,x41,-,-⟩:=h4.out.x.box.box;obtain⟨y40,y41,-,-⟩:=h4.out.y.box.box;dsimp only at *)
    go_wp2_with fail
    refine hK.out _ _ (fun _=>by(try dsimp only);go_keep) ?_
    clear hK K
    try simp only [zA]
    refine zg 5 (by kernel_rfl) rfl (fun K hK=>?_)
    go_simp
    (refine(zaC _ _ y (n+1) (by exact h4.out.y.num)).mono ?_;rintro e w5 ⟨r5,rfl,hr,hb⟩;have h5:=hide (h4.out.later hb);replace HN3:=hide (HN3.out.below hb zL);replace HN4:=hide (HN4.out.below hb zL);clear hb;obtain⟨⟨is,io,il,ic⟩,rfl⟩:=hr.rm;have HN5:=hide hr;clear hr;obtain⟨g50,g51,-,-⟩:=h5.out.a.box.box;obtain⟨x50,x51,-,-⟩:=h5.out.x.box.box;obtain⟨y50,y51,-,-⟩:=h5.out.y.box.box;dsimp only at *)
    go_wp2_with fail
    refine hK.out _ _ (fun _=>by(try dsimp only);go_keep) ?_
    clear hK K
    try simp only [zA]
    obtain⟨r0,r1,r2,r3⟩:=h5.out.r1.box
    obtain⟨s0,s1,s2,s3⟩:=h5.out.r2.box
    obtain⟨t0,t1,t2,t3⟩:=h5.out.r3.box
    refine zg 6 (by kernel_rfl) rfl (fun K hK=>?_)
    go_simp
    refine hK.out _ _ (fun h=>absurd h (by decide)) ?_
    clear hK K
    try simp only [zA]
    refine zg 7 (by kernel_rfl) rfl (fun K hK=>?_)
    go_simp
    refine hK.out _ _ (fun h=>absurd h (by decide)) ?_
    clear hK K
    try simp only [zA]
    refine zg 8 (by kernel_rfl) rfl (fun K hK=>?_)
    go_simp
    refine hK.out _ _ (fun h=>absurd h (by decide)) ?_
    clear hK K
    try simp only [zA]
    refine zt (by kernel_rfl) ?_
    have HE':=hide (h5.out.give (q1:=⟨ps,po,pl,pc⟩) (q2:=⟨ks,ko,kl,kc⟩) (q3:=⟨is,io,il,ic⟩) HN3.out HN4.out HN5.out (by rw [HE.out.1,Int.neg_add,Int.neg_mul,Int.neg_mul]) (by omega) (by obtain⟨p,e⟩:=HE.out.2.1;exact⟨-p,by rw [Int.neg_mul_neg];exact e⟩) (by obtain⟨p,e⟩:=HE.out.2.2;exact⟨-p,by rw [Int.neg_mul_neg];exact e⟩))
    have q1:BoxR ((((((w5.setCell ⟨w.heap.size+1+1,0,none⟩ (.int .i64 ps)).setCell ⟨w.heap.size+1+1,1,none⟩ (.slice po pl pc)).setCell ⟨w.heap.size+1+1+1,0,none⟩ (.int .i64 ks)).setCell ⟨w.heap.size+1+1+1,1,none⟩ (.slice ko kl kc)).setCell ⟨w.heap.size+1+1+1+1,0,none⟩ (.int .i64 is)).setCell ⟨w.heap.size+1+1+1+1,1,none⟩ (.slice io il ic)) (w.heap.size+1+1) (.int .i64 ps) (.slice po pl pc):=((h5.out.r1.set _ _).others (by omega) _ _).others (by omega) _ _
    have q2:BoxR ((((((w5.setCell ⟨w.heap.size+1+1,0,none⟩ (.int .i64 ps)).setCell ⟨w.heap.size+1+1,1,none⟩ (.slice po pl pc)).setCell ⟨w.heap.size+1+1+1,0,none⟩ (.int .i64 ks)).setCell ⟨w.heap.size+1+1+1,1,none⟩ (.slice ko kl kc)).setCell ⟨w.heap.size+1+1+1+1,0,none⟩ (.int .i64 is)).setCell ⟨w.heap.size+1+1+1+1,1,none⟩ (.slice io il ic)) (w.heap.size+1+1+1) (.int .i64 ks) (.slice ko kl kc):=((h5.out.r2.others (by omega) _ _).set _ _).others (by omega) _ _
    have q3:BoxR ((((((w5.setCell ⟨w.heap.size+1+1,0,none⟩ (.int .i64 ps)).setCell ⟨w.heap.size+1+1,1,none⟩ (.slice po pl pc)).setCell ⟨w.heap.size+1+1+1,0,none⟩ (.int .i64 ks)).setCell ⟨w.heap.size+1+1+1,1,none⟩ (.slice ko kl kc)).setCell ⟨w.heap.size+1+1+1+1,0,none⟩ (.int .i64 is)).setCell ⟨w.heap.size+1+1+1+1,1,none⟩ (.slice io il ic)) (w.heap.size+1+1+1+1) (.int .i64 is) (.slice io il ic):=((h5.out.r3.others (by omega) _ _).others (by omega) _ _).set _ _
    obtain⟨q10,q11,-,-⟩:=q1.box
    obtain⟨q20,q21,-,-⟩:=q2.box
    obtain⟨q30,q31,-,-⟩:=q3.box
    clear q1 q2 q3
    go_wp2
    exact bodyPost_ret (v:=.tuple #[.agg #[.int .i64 ps,.slice po pl pc],.agg #[.int .i64 ks,.slice ko kl kc],.agg #[.int .i64 is,.slice io il ic]]) (by simp [results,Tryz.results69,go_sem,q10,q11,q20,q21,q30,q31]) rfl HE'.out
   ·have hgs:¬(gs<0):=by omega
    have hg1:0≤g:=by omega
    go_wp2_with fail
    have V1g:=hide (HS0.out.a.other HS0.out.r1 (show w.heap.size≠w.heap.size+1+1 by omega) (.int .i64 gs) (.slice go gl gc))
    have V2g:=hide (V1g.out.other (HS0.out.r2.others (show w.heap.size+1+1+1≠w.heap.size+1+1 by omega) _ _) (show w.heap.size≠w.heap.size+1+1+1 by omega) (.int .i64 xs) (.slice xo xl xc))
    have V1x:=hide (HS0.out.x.other HS0.out.r1 (show X≠w.heap.size+1+1 by omega) (.int .i64 gs) (.slice go gl gc))
    have V2x:=hide (V1x.out.other (HS0.out.r2.others (show w.heap.size+1+1+1≠w.heap.size+1+1 by omega) _ _) (show X≠w.heap.size+1+1+1 by omega) (.int .i64 xs) (.slice xo xl xc))
    have V1y:=hide (HS0.out.y.other HS0.out.r1 (show X+1≠w.heap.size+1+1 by omega) (.int .i64 gs) (.slice go gl gc))
    have V2y:=hide (V1y.out.other (HS0.out.r2.others (show w.heap.size+1+1+1≠w.heap.size+1+1 by omega) _ _) (show X+1≠w.heap.size+1+1+1 by omega) (.int .i64 xs) (.slice xo xl xc))
    try dsimp only at *
    refine zw (S:=(fun w'=>w'.cell? ⟨w.heap.size,0,none⟩=some (.int .i64 gs)∧w'.cell? ⟨w.heap.size,1,none⟩=some (.slice go gl gc)∧w'.cell? ⟨X,0,none⟩=some (.int .i64 xs)∧w'.cell? ⟨X,1,none⟩=some (.slice xo xl xc)∧w'.cell? ⟨X+1,0,none⟩=some (.int .i64 ys)∧w'.cell? ⟨X+1,1,none⟩=some (.slice yo yl yc))) (k:=5) (by kernel_rfl) (by(try dsimp only);go_keep) (fun hHeld=>?_)
    refine zf 0 49 [5] ?_
    try simp only [zA]
    refine zf 1 50 [5] ?_
    try simp only [zA]
    refine zf 2 51 [5] ?_
    try simp only [zA]
    refine zg 3 (by kernel_rfl) rfl (fun K hK=>?_)
    go_simp
    refine hK.out _ _ (fun _=>by exact⟨V1g.out.box.box.1,V1g.out.box.box.2.1,V1x.out.box.box.1,V1x.out.box.box.2.1,V1y.out.box.box.1,V1y.out.box.box.2.1⟩) ?_
    clear hK K
    try simp only [zA]
    refine zg 4 (by kernel_rfl) rfl (fun K hK=>?_)
    go_simp
    refine hK.out _ _ (fun _=>by exact⟨V2g.out.box.box.1,V2g.out.box.box.2.1,V2x.out.box.box.1,V2x.out.box.box.2.1,V2y.out.box.box.1,V2y.out.box.box.2.1⟩) ?_
    clear hK K
    try simp only [zA]
    refine zg 5 (by kernel_rfl) rfl (fun K hK=>?_)
    go_simp
    refine hK.out _ _ (fun h=>absurd h (by decide)) ?_
    clear hK K
    try simp only [zA]
    refine zt (by kernel_rfl) ?_
    clear V1g V1x V1y V2g V2x V2y
    have HE':=hide (HS0.out.give (q1:=⟨gs,go,gl,gc⟩) (q2:=⟨xs,xo,xl,xc⟩) (q3:=⟨ys,yo,yl,yc⟩) HS0.out.a.num HS0.out.x.num HS0.out.y.num HE.out.1 hg1 HE.out.2.1 HE.out.2.2)
    have q1:BoxR ((((((wr.setCell ⟨w.heap.size+1+1,0,none⟩ (.int .i64 gs)).setCell ⟨w.heap.size+1+1,1,none⟩ (.slice go gl gc)).setCell ⟨w.heap.size+1+1+1,0,none⟩ (.int .i64 xs)).setCell ⟨w.heap.size+1+1+1,1,none⟩ (.slice xo xl xc)).setCell ⟨w.heap.size+1+1+1+1,0,none⟩ (.int .i64 ys)).setCell ⟨w.heap.size+1+1+1+1,1,none⟩ (.slice yo yl yc)) (w.heap.size+1+1) (.int .i64 gs) (.slice go gl gc):=((HS0.out.r1.set _ _).others (by omega) _ _).others (by omega) _ _
    have q2:BoxR ((((((wr.setCell ⟨w.heap.size+1+1,0,none⟩ (.int .i64 gs)).setCell ⟨w.heap.size+1+1,1,none⟩ (.slice go gl gc)).setCell ⟨w.heap.size+1+1+1,0,none⟩ (.int .i64 xs)).setCell ⟨w.heap.size+1+1+1,1,none⟩ (.slice xo xl xc)).setCell ⟨w.heap.size+1+1+1+1,0,none⟩ (.int .i64 ys)).setCell ⟨w.heap.size+1+1+1+1,1,none⟩ (.slice yo yl yc)) (w.heap.size+1+1+1) (.int .i64 xs) (.slice xo xl xc):=((HS0.out.r2.others (by omega) _ _).set _ _).others (by omega) _ _
    have q3:BoxR ((((((wr.setCell ⟨w.heap.size+1+1,0,none⟩ (.int .i64 gs)).setCell ⟨w.heap.size+1+1,1,none⟩ (.slice go gl gc)).setCell ⟨w.heap.size+1+1+1,0,none⟩ (.int .i64 xs)).setCell ⟨w.heap.size+1+1+1,1,none⟩ (.slice xo xl xc)).setCell ⟨w.heap.size+1+1+1+1,0,none⟩ (.int .i64 ys)).setCell ⟨w.heap.size+1+1+1+1,1,none⟩ (.slice yo yl yc)) (w.heap.size+1+1+1+1) (.int .i64 ys) (.slice yo yl yc):=((HS0.out.r3.others (by omega) _ _).others (by omega) _ _).set _ _
    obtain⟨q10,q11,-,-⟩:=q1.box
    obtain⟨q20,q21,-,-⟩:=q2.box
    obtain⟨q30,q31,-,-⟩:=q3.box
    clear q1 q2 q3
    go_wp2
    exact bodyPost_ret (v:=.tuple #[.agg #[.int .i64 gs,.slice go gl gc],.agg #[.int .i64 xs,.slice xo xl xc],.agg #[.int .i64 ys,.slice yo yl yc]]) (by simp [results,Tryz.results69,go_sem,q10,q11,q20,q21,q30,q31]) rfl HE'.out.drew
  ·have hx1:(hs==0)=false:=by rw [beq_eq_false_iff_ne];omega
   have hx3:(hs != 0)=true:=by rw [bne_iff_ne];omega
   obtain⟨g0,g1,-,-⟩:=HS0.out.a.box.box
   dsimp only at g0 g1
   go_wp2_with fail
   refine(zaP wr _ _ g h (n+1) (n+1) HS0.out.a.num HS0.out.b.num h0 (by omega) (by omega)).mono ?_
   rintro e w2 ⟨vq,vl,q,l,rfl,hq,hl',hgq,hle,hb2⟩
   have HS2:=hide (HS0.out.later hb2)
   have HBZ':=hide (HBZ.out.step h0 hgq hle)
   have HLT:=hide (zfl hle h0).2
   clear HBZ hle hgq h0 e0 e1 g0 g1 HS0 hb2 hx1 hx3 hsg
   obtain⟨⟨qs,qo,ql,qc⟩,rfl⟩:=hq.rm
   obtain⟨⟨ms,mo,ml,mc⟩,rfl⟩:=hl'.rm
   try dsimp only at hq hl'
   have hba:Below w2.heap.size w2 ((w2.alloc (.cells #[.int .i64 qs,.slice qo ql qc] 40)).alloc (.cells #[.int .i64 ms,.slice mo ml mc] 40)):=((Below.refl _ _).alloc zL _).alloc (by simp) _
   have HS3:=hide (HS2.out.later hba)
   have VQ:=hide (show RVar ((w2.alloc (.cells #[.int .i64 qs,.slice qo ql qc] 40)).alloc (.cells #[.int .i64 ms,.slice mo ml mc] 40)) w2.heap.size ⟨qs,qo,ql,qc⟩ q (n+1+6) from⟨(zp w2 _ _ _ rfl).later ((Below.refl _ _).alloc (by simp) _:Below (w2.heap.size+1) _ _) (by omega),hq.below hba zL⟩)
   have BL:BoxR ((w2.alloc (.cells #[.int .i64 qs,.slice qo ql qc] 40)).alloc (.cells #[.int .i64 ms,.slice mo ml mc] 40)) (w2.heap.size+1) (.int .i64 ms) (.slice mo ml mc):=zp (w2.alloc _) _ _ _ (by simp)
   have HL:=hide (hl'.below hba zL)
   have hD:U+1<w2.heap.size:=HS2.out.v.box.lt
   clear hq hl' hba HS2
   go_wp2_with fail
   generalize (w2.alloc (.cells #[.int .i64 qs,.slice qo ql qc] 40)).alloc (.cells #[.int .i64 ms,.slice mo ml mc] 40)=w3 at *
   generalize w2.heap.size=D at *
   obtain⟨t0,t1,-,-⟩:=BL.box
   obtain⟨e0,e1,e2,e3⟩:=HS3.out.b.box.box
   obtain⟨g0,g1,g2,g3⟩:=HS3.out.a.box.box
   dsimp only at e0 e1 e2 e3 g0 g1 g2 g3
   have a3:¬(w.heap.size=D+1):=by omega
   have a4:¬(D+1=w.heap.size):=by omega
   have a5:¬(w.heap.size+1=D+1):=by omega
   have a6:¬(D+1=w.heap.size+1):=by omega
   refine zw (S:=(fun w'=>w'.cell? ⟨w.heap.size+1,0,none⟩=some (.int .i64 hs)∧w'.cell? ⟨w.heap.size+1,1,none⟩=some (.slice ho hl hc)∧w'.cell? ⟨D+1,0,none⟩=some (.int .i64 ms)∧w'.cell? ⟨D+1,1,none⟩=some (.slice mo ml mc))) (k:=3) (by kernel_rfl) (by(try dsimp only);go_keep) (fun hHeld=>?_)
   refine zf 0 26 [3] ?_
   try simp only [zA]
   refine zf 1 27 [3] ?_
   try simp only [zA]
   refine zg 2 (by kernel_rfl) rfl (fun K hK=>?_)
   go_simp
   refine hK.out _ _ (fun _=>by(try dsimp only);go_keep) ?_
   clear hK K
   try simp only [zA]
   refine zg 3 (by kernel_rfl) rfl (fun K hK=>?_)
   go_simp
   refine hK.out _ _ (fun h=>absurd h (by decide)) ?_
   clear hK K
   try simp only [zA]
   refine zt (by kernel_rfl) ?_
   have HS4:=hide (HS3.out.gh (r:=⟨hs,ho,hl,hc⟩) (r':=⟨ms,mo,ml,mc⟩) HS3.out.b.num HL.out)
   have VQ4:=hide ((VQ.out.other HS3.out.a.box (show D≠w.heap.size by omega) (.int .i64 hs) (.slice ho hl hc)).other (HS3.out.b.box.others (show w.heap.size+1≠w.heap.size by omega) _ _) (show D≠w.heap.size+1 by omega) (.int .i64 ms) (.slice mo ml mc))
   clear HS3 VQ HL BL t0 t1 e0 e1 e2 e3 g0 g1 g2 g3 hHeld a3 a4 a5 a6
   dsimp only at HS4 VQ4
   go_wp2_with fail
   generalize (((w3.setCell ⟨w.heap.size,0,none⟩ (.int .i64 hs)).setCell ⟨w.heap.size,1,none⟩ (.slice ho hl hc)).setCell ⟨w.heap.size+1,0,none⟩ (.int .i64 ms)).setCell ⟨w.heap.size+1,1,none⟩ (.slice mo ml mc)=w4 at *
   obtain⟨u0,u1,-,-⟩:=HS4.out.u.box.box
   obtain⟨x0,x1,-,-⟩:=HS4.out.x.box.box
   obtain⟨z0,z1,-,-⟩:=VQ4.out.box.box
   dsimp only at u0 u1 x0 x1 z0 z1
   have a1:¬(X=U):=by omega
   have a2:¬(U=X):=by omega
   refine zw (S:=(fun w'=>w'.cell? ⟨U,0,none⟩=some (.int .i64 us)∧w'.cell? ⟨U,1,none⟩=some (.slice uo ul uc)∧w'.cell? ⟨X,0,none⟩=some (.int .i64 xs)∧w'.cell? ⟨X,1,none⟩=some (.slice xo xl xc)∧w'.cell? ⟨D,0,none⟩=some (.int .i64 qs)∧w'.cell? ⟨D,1,none⟩=some (.slice qo ql qc))) (k:=6) (by kernel_rfl) (by(try dsimp only);go_keep) (fun hHeld=>?_)
   refine zf 0 28 [6,7] ?_
   try simp only [zA]
   refine zf 1 29 [6,7] ?_
   try simp only [zA]
   refine zf 2 30 [4,5,6,7] ?_
   try simp only [zA]
   refine zf 3 31 [4,5,6,7] ?_
   try simp only [zA]
   refine zg 4 (by kernel_rfl) rfl (fun K hK=>?_)
   go_simp
   (refine(zaI _ _ _ q u (n+1+6) (n+1) (by exact VQ4.out.num) (by exact HS4.out.u.num) (by omega) (by omega)).mono ?_;rintro e w5 ⟨r,rfl,hr,hb⟩;have HS5:=hide (HS4.out.drew.drew.later hb);have VQ5:=hide (VQ4.out.drew.drew.later hb);have HR:=hide hr;clear hr hb;obtain⟨u0',u1',-,-⟩:=HS5.out.u.box.box;obtain⟨x0',x1',-,-⟩:=HS5.out.x.box.box;obtain⟨z0',z1',-,-⟩:=VQ5.out.box.box;dsimp only at u0' u1' x0' x1' z0' z1')
   go_wp2_with fail
   refine hK.out _ _ (fun _=>by(try dsimp only);go_keep) ?_
   clear hK K
   try simp only [zA]
   refine zg 5 (by kernel_rfl) rfl (fun K hK=>?_)
   go_simp
   (refine(zcD _ _ _ x (q*u) (n+1+6+(n+1)+1) (HS5.out.x.num.mono (by omega)) HR.out (by omega)).mono ?_;rintro e w6 ⟨r',rfl,hr,hb⟩;have HS6:=hide (HS5.out.later hb);have VQ6:=hide (VQ5.out.later hb);have HR':=hide (hr.fits (m:=n+1) (zco HBZ'.out.ku (by omega)).1 (zco HBZ'.out.ku (by omega)).2);clear hb;obtain⟨⟨ps,po,pl,pc⟩,rfl⟩:=hr.rm;clear hr;obtain⟨u0'',u1'',u2'',u3''⟩:=HS6.out.u.box.box;obtain⟨x0'',x1'',x2'',x3''⟩:=HS6.out.x.box.box;obtain⟨z0'',z1'',-,-⟩:=VQ6.out.box.box;dsimp only at u0'' u1'' u2'' u3'' x0'' x1'' x2'' x3'' z0'' z1'' HR')
   go_wp2_with fail
   refine hK.out _ _ (fun _=>by(try dsimp only);go_keep) ?_
   clear hK K
   try simp only [zA]
   refine zg 6 (by kernel_rfl) rfl (fun K hK=>?_)
   go_simp
   refine hK.out _ _ (fun h=>absurd h (by decide)) ?_
   clear hK K
   try simp only [zA]
   refine zg 7 (by kernel_rfl) rfl (fun K hK=>?_)
   go_simp
   refine hK.out _ _ (fun h=>absurd h (by decide)) ?_
   clear hK K
   try simp only [zA]
   refine zt (by kernel_rfl) ?_
   have HS7:=hide (HS6.out.xu (r:=⟨us,uo,ul,uc⟩) (r':=⟨ps,po,pl,pc⟩) HS6.out.u.num HR'.out)
   have VQ7:=hide ((VQ6.out.other HS6.out.x.box (show D≠X by omega) (.int .i64 us) (.slice uo ul uc)).other (HS6.out.u.box.others (show U≠X by omega) _ _) (show D≠U by omega) (.int .i64 ps) (.slice po pl pc))
   clear HS4 HS5 HS6 VQ4 VQ5 VQ6 HR HR' u0 u1 x0 x1 z0 z1 u0' u1' x0' x1' z0' z1' u0'' u1'' u2'' u3'' x0'' x1'' x2'' x3'' z0'' z1'' a1 a2 hHeld
   dsimp only at HS7 VQ7
   go_wp2_with fail
   generalize (((w6.setCell ⟨X,0,none⟩ (.int .i64 us)).setCell ⟨X,1,none⟩ (.slice uo ul uc)).setCell ⟨U,0,none⟩ (.int .i64 ps)).setCell ⟨U,1,none⟩ (.slice po pl pc)=w7 at *
   obtain⟨u0,u1,-,-⟩:=HS7.out.v.box.box
   obtain⟨x0,x1,-,-⟩:=HS7.out.y.box.box
   obtain⟨z0,z1,-,-⟩:=VQ7.out.box.box
   dsimp only at u0 u1 x0 x1 z0 z1
   have a1:¬(X+1=U+1):=by omega
   have a2:¬(U+1=X+1):=by omega
   refine zw (S:=(fun w'=>w'.cell? ⟨U+1,0,none⟩=some (.int .i64 vs)∧w'.cell? ⟨U+1,1,none⟩=some (.slice vo vl vc)∧w'.cell? ⟨X+1,0,none⟩=some (.int .i64 ys)∧w'.cell? ⟨X+1,1,none⟩=some (.slice yo yl yc)∧w'.cell? ⟨D,0,none⟩=some (.int .i64 qs)∧w'.cell? ⟨D,1,none⟩=some (.slice qo ql qc))) (k:=6) (by kernel_rfl) (by(try dsimp only);go_keep) (fun hHeld=>?_)
   refine zf 0 34 [6,7] ?_
   try simp only [zA]
   refine zf 1 35 [6,7] ?_
   try simp only [zA]
   refine zf 2 36 [4,5,6,7] ?_
   try simp only [zA]
   refine zf 3 37 [4,5,6,7] ?_
   try simp only [zA]
   refine zg 4 (by kernel_rfl) rfl (fun K hK=>?_)
   go_simp
   (refine(zaI _ _ _ q v (n+1+6) (n+1) (by exact VQ7.out.num) (by exact HS7.out.v.num) (by omega) (by omega)).mono ?_;rintro e w8 ⟨r,rfl,hr,hb⟩;have HS8:=hide (HS7.out.drew.later hb);have VQ8:=hide (VQ7.out.drew.later hb);have HR:=hide hr;clear hr hb;obtain⟨u0',u1',-,-⟩:=HS8.out.v.box.box;obtain⟨x0',x1',-,-⟩:=HS8.out.y.box.box;obtain⟨z0',z1',-,-⟩:=VQ8.out.box.box;dsimp only at u0' u1' x0' x1' z0' z1')
   go_wp2_with fail
   refine hK.out _ _ (fun _=>by(try dsimp only);go_keep) ?_
   clear hK K
   try simp only [zA]
   refine zg 5 (by kernel_rfl) rfl (fun K hK=>?_)
   go_simp
   (refine(zcD _ _ _ y (q*v) (n+1+6+(n+1)+1) (HS8.out.y.num.mono (by omega)) HR.out (by omega)).mono ?_;rintro e w9 ⟨r',rfl,hr,hb⟩;have HS9:=hide (HS8.out.later hb);have VQ9:=hide (VQ8.out.later hb);have HR':=hide (hr.fits (m:=n+1) (zco HBZ'.out.kv (by omega)).1 (zco HBZ'.out.kv (by omega)).2);clear hb;obtain⟨⟨ks,ko,kl,kc⟩,rfl⟩:=hr.rm;clear hr;obtain⟨u0'',u1'',u2'',u3''⟩:=HS9.out.v.box.box;obtain⟨x0'',x1'',x2'',x3''⟩:=HS9.out.y.box.box;obtain⟨z0'',z1'',-,-⟩:=VQ9.out.box.box;dsimp only at u0'' u1'' u2'' u3'' x0'' x1'' x2'' x3'' z0'' z1'' HR')
   go_wp2_with fail
   refine hK.out _ _ (fun _=>by(try dsimp only);go_keep) ?_
   clear hK K
   try simp only [zA]
   refine zg 6 (by kernel_rfl) rfl (fun K hK=>?_)
   go_simp
   refine hK.out _ _ (fun h=>absurd h (by decide)) ?_
   clear hK K
   try simp only [zA]
   refine zg 7 (by kernel_rfl) rfl (fun K hK=>?_)
   go_simp
   refine hK.out _ _ (fun h=>absurd h (by decide)) ?_
   clear hK K
   try simp only [zA]
   refine zt (by kernel_rfl) ?_
   have HS10:=hide (HS9.out.yv (r:=⟨vs,vo,vl,vc⟩) (r':=⟨ks,ko,kl,kc⟩) HS9.out.v.num HR'.out)
   have VQ10:=hide ((VQ9.out.other HS9.out.y.box (show D≠X+1 by omega) (.int .i64 vs) (.slice vo vl vc)).other (HS9.out.v.box.others (show U+1≠X+1 by omega) _ _) (show D≠U+1 by omega) (.int .i64 ks) (.slice ko kl kc))
   clear HS7 HS8 HS9 VQ7 VQ8 VQ9 HR HR' u0 u1 x0 x1 z0 z1 u0' u1' x0' x1' z0' z1' u0'' u1'' u2'' u3'' x0'' x1'' x2'' x3'' z0'' z1'' a1 a2 hHeld
   dsimp only at HS10 VQ10
   have HM:=hide (zfI HS10.out.b.box HS10.out.b.num)
   go_wp2
   go_roundw
   case rel=>exact⟨_,_,_,_,_,_,_,_,_,_,_,_,HS10.out,HBZ'⟩
   case measure=>rw [HM.out,HNA.out];have:=HLT.out;have:=zG l;omega
end Go.Proofs.YtdedolkgcdlmeaaGreatDoor
