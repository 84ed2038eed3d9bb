import Derived.Test.YtncamilanceahaaGreatGKB
set_option maxRecDepth 100000
set_option maxHeartbeats 4000000
namespace Go.Proofs.YtncamilanceahaaGreat.GK
open Go.RowKit Limbs
variable {KB:Nat}
theorem zgv {n:Nat}(h:2≤n):1≤bp n-1:=by
 have h2:=zad (show 1≤n by omega);have h1:2≤bp 1:=by decide
 omega
theorem gcd_any (w:World)(va vb:Value)(a b:Int)(ha:NumL w va a KB)(hb:NumL w vb b KB)(hKB:KB≤190000)(hKB2:2≤KB):
  Calls Tryz.prog 82 #[va,vb] w fun e w'=>GcdPost KB w a b e w':=by
 have HA:=hide ha;have HB:=hide hb;obtain⟨⟨an,ao,al,ac⟩,rfl⟩:=ha.nm;obtain⟨⟨bn,bo,bl,bc⟩,rfl⟩:=hb.nm;dsimp only at *;clear ha hb;go_enter Tryz.func82,Tryz.ntmps82;go_wp2_with fail;have hP:=ze9 (KB:=KB) w (.bool an) (.slice ao al ac) (.bool bn) (.slice bo bl bc) 90;generalize ((((w.alloc (.cells #[.bool an,.slice ao al ac] 90)).alloc (.cells #[.bool bn,.slice bo bl bc] 90)).alloc (.cells #[.bool false,.slice none 0 0] 90)).alloc (.cells #[.bool false,.slice none 0 0] 90)).alloc (.cells #[.bool false,.slice none 0 0] 90)=W at *;have HP0:=hide hP;obtain⟨p0,p1,-,-⟩:=hP.a;clear hP;have tok1:True:=trivial;have tok2:True:=trivial;have hn2:¬(w.heap.size+1+1=w.heap.size):=by omega
 have hn3:¬(w.heap.size+1+1+1=w.heap.size):=by omega
 have hn4:¬(w.heap.size+1+1+1+1=w.heap.size):=by omega
 go_region_held3 (fun w'=>w'.cell? ⟨w.heap.size,0,none⟩=some (.bool an)∧w'.cell? ⟨w.heap.size,1,none⟩=some (.slice ao al ac)) (go_keep)
  (first
   |(go_at_call 89;refine(zdN _ _ _ KB (HA.out.below HP0.out.drew.below zL) (by omega)).mono ?_;rintro e w1 ⟨r1,rfl,hr1,hb1⟩;have HP1:=hide (HP0.out.drew.later hb1);obtain⟨⟨kn,ko,kl,kc⟩,rfl⟩:=hr1.nm;have HR1:=hide hr1;clear hr1 hb1;obtain⟨p0',p1',-,-⟩:=HP1.out.a)
   |(go_at_call 90;refine(zfv _ _ a KB (HA.out.below HP1.out.below zL)).mono ?_;rintro e w2 ⟨rfl,hb2⟩;have HP2:=hide (HP1.out.later hb2);have HR1':=hide (HR1.out.below hb2 zL);clear hb2;obtain⟨p0'',p1'',-,-⟩:=HP2.out.a)
   |(go_at_call 38;have _t:=tok1;refine(zaQ _ (sgn a) (zbR a).1 (zbR a).2).mono ?_;rintro e w3 ⟨r3,rfl,hr3,hb3⟩;have HP3:=hide (HP2.out.later hb3);have HR1'':=hide (HR1'.out.below hb3 zL);obtain⟨⟨ln,lo,ll,lc⟩,rfl⟩:=hr3.nm;have HR3:=hide hr3;clear hr3 hb3 tok1;obtain⟨p0''',p1''',-,-⟩:=HP3.out.a)
   |(go_at_call 38;have _t:=tok2;refine(zaQ _ 0 (by decide) (by decide)).mono ?_;rintro e w4 ⟨r4,rfl,hr4,hb4⟩;have HP4:=hide (HP3.out.later hb4);have HR1''':=hide (HR1''.out.below hb4 zL);have HR3':=hide (HR3.out.below hb4 zL);obtain⟨⟨mn,mo,ml,mc⟩,rfl⟩:=hr4.nm;have HR4:=hide hr4;clear hr4 hb4 tok2;obtain⟨p0'''',p1'''',-,-⟩:=HP4.out.a;obtain⟨e0,e1,e2,e3⟩:=HP4.out.g.box;obtain⟨f0,f1,f2,f3⟩:=HP4.out.x.box;obtain⟨g0,g1,g2,g3⟩:=HP4.out.y.box))
 have HP5:=hide (HP4.out.write (r:=⟨kn,ko,kl,kc⟩) (r':=⟨ln,lo,ll,lc⟩) (r'':=⟨mn,mo,ml,mc⟩) HR1'''.out (HR3'.out.mono (by omega)) (HR4.out.mono (by omega)));clear HP0 HP1 HP2 HP3 HP4 HR1 HR1' HR1'' HR1''' HR3 HR3' HR4 hn2 hn3 hn4;clear p0 p1 p0' p1' p0'' p1'' p0''' p1''' p0'''' p1'''' e0 e1 e2 e3 f0 f1 f2 f3 g0 g1 g2 g3;dsimp only at HP5;generalize (((((w4.setCell ⟨w.heap.size+1+1,0,none⟩ (.bool kn)).setCell ⟨w.heap.size+1+1,1,none⟩ (.slice ko kl kc)).setCell ⟨w.heap.size+1+1+1,0,none⟩ (.bool ln)).setCell ⟨w.heap.size+1+1+1,1,none⟩ (.slice lo ll lc)).setCell ⟨w.heap.size+1+1+1+1,0,none⟩ (.bool mn)).setCell ⟨w.heap.size+1+1+1+1,1,none⟩ (.slice mo ml mc)=W5 at *;obtain⟨p0,p1,-,-⟩:=HP5.out.b;go_wp2_with fail;refine zZ (by kernel_rfl) (by kernel_rfl) (fun L a' w'=>∃ c7 c8 c9 c19 c20 c21 c22 c23 c24:Value,a'=(⟨#[.agg #[.bool an,.slice ao al ac],.agg #[.bool bn,.slice bo bl bc],ptr w.heap.size,ptr (w.heap.size+1),ptr (w.heap.size+1+1),ptr (w.heap.size+1+1+1),ptr (w.heap.size+1+1+1+1),c7,c8,c9,undef,undef,undef,.agg #[.bool an,.slice ao al ac],.agg #[.bool kn,.slice ko kl kc],.agg #[.bool an,.slice ao al ac],.int .i64 (sgn a),.agg #[.bool ln,.slice lo ll lc],.agg #[.bool mn,.slice mo ml mc],c19,c20,c21,c22,c23,c24,undef,undef,undef,undef,undef,undef,undef,undef,undef,undef,undef,undef,undef,undef,undef,undef,undef,undef,undef,undef,undef,undef,undef,undef,undef,undef,undef],[]⟩:Act)∧R2 KB w w' L (.bool an) (.slice ao al ac) (.bool bn) (.slice bo bl bc) ⟨kn,ko,kl,kc⟩ ⟨ln,lo,ll,lc⟩ ⟨mn,mo,ml,mc⟩ (ab a) (sgn a) 0 (.agg #[.bool bn,.slice bo bl bc]) b c7 c8 c9 c19 c20 c21 c22 c23 c24) ⟨_,_,_,_,_,_,_,_,_,rfl,⟨HP5.out.drew,fun h=>by simp at h,fun h=>by simp at h,fun h=>by simp at h,fun h=>by simp at h,fun h=>by simp at h,fun h=>by simp at h,fun h=>by simp at h,fun h=>by simp at h,fun h=>by simp at h,fun h=>by simp at h,fun h=>by simp at h,fun h=>by simp at h,fun h=>by simp at h,fun h=>by simp at h,fun h=>by simp at h⟩⟩ ?_ ?_
 ·rintro L a' w' i o ⟨c7,c8,c9,c19,c20,c21,c22,c23,c24,rfl,R⟩ ho hn hdep K hK;have hi:i<12:=(Array.getElem?_eq_some_iff.1 ho).1;rcases(by omega:i=0∨i=1∨i=2∨i=3∨i=4∨i=5∨i=6∨i=7∨i=8∨i=9∨i=10∨i=11) with rfl | rfl | rfl | rfl | rfl | rfl | rfl | rfl | rfl | rfl | rfl | rfl
  ·obtain rfl:=zI ho;obtain⟨p0,p1,-,-⟩:=R.pre.b;go_simp;exact hK.out _ _ ⟨_,_,_,_,_,_,_,_,_,rfl,R.at0 rfl⟩
  ·obtain rfl:=zI ho;obtain rfl:=R.f19 (hdep ⟨0,.data⟩ (by simp) rfl);go_simp;refine(zdN w' _ b KB (HB.out.below R.pre.below zL) (by omega)).mono ?_;rintro e w1 ⟨r1,rfl,hr1,hb1⟩;obtain⟨r,rfl⟩:=hr1.nm;have R':=(R.later hb1).at1 ⟨r,rfl,hr1⟩;clear R hr1 hb1;go_wp2_with fail;exact hK.out _ _ ⟨_,_,_,_,_,_,_,_,_,rfl,R'⟩
  ·obtain rfl:=zI ho;go_simp;refine(zaQ w' 0 (by decide) (by decide)).mono ?_;rintro e w1 ⟨r1,rfl,hr1,hb1⟩;obtain⟨r,rfl⟩:=hr1.nm;have R':=(R.later hb1).at2 ⟨r,rfl,hr1.mono (by omega)⟩;clear R hr1 hb1;go_wp2_with fail;exact hK.out _ _ ⟨_,_,_,_,_,_,_,_,_,rfl,R'⟩
  ·obtain rfl:=zI ho;obtain⟨p0,p1,-,-⟩:=R.pre.b;go_simp;exact hK.out _ _ ⟨_,_,_,_,_,_,_,_,_,rfl,R.at3 rfl⟩
  ·obtain rfl:=zI ho;obtain rfl:=R.f22 (hdep ⟨3,.data⟩ (by simp) rfl);go_simp;refine(zfv w' _ b KB (HB.out.below R.pre.below zL)).mono ?_;rintro e w1 ⟨rfl,hb1⟩;have R':=(R.later hb1).at4 rfl;clear R hb1;go_wp2_with fail;exact hK.out _ _ ⟨_,_,_,_,_,_,_,_,_,rfl,R'⟩
  ·obtain rfl:=zI ho;obtain rfl:=R.f23 (hdep ⟨4,.data⟩ (by simp) rfl);go_simp;refine(zaQ w' (sgn b) (zbR b).1 (zbR b).2).mono ?_;rintro e w1 ⟨r1,rfl,hr1,hb1⟩;obtain⟨r,rfl⟩:=hr1.nm;have R':=(R.later hb1).at5 ⟨r,rfl,hr1.mono (by omega)⟩;clear R hr1 hb1;go_wp2_with fail;exact hK.out _ _ ⟨_,_,_,_,_,_,_,_,_,rfl,R'⟩
  ·obtain rfl:=zI ho;have R':=R.at6 90 hn;clear R;go_simp;exact hK.out _ _ ⟨_,_,_,_,_,_,_,_,_,rfl,R'⟩
  ·obtain rfl:=zI ho;have R':=R.at7 90 hn;clear R;go_simp;exact hK.out _ _ ⟨_,_,_,_,_,_,_,_,_,rfl,R'⟩
  ·obtain rfl:=zI ho;have R':=R.at8 90 hn;clear R;go_simp;exact hK.out _ _ ⟨_,_,_,_,_,_,_,_,_,rfl,R'⟩
  ·obtain rfl:=zI ho;have h6:=(hdep ⟨6,.data⟩ (by simp) rfl);obtain⟨B,sv,z,rfl,hB,hv,-⟩:=R.f7 h6;obtain⟨r,rfl,hnum⟩:=R.f20 (hdep ⟨1,.data⟩ (by simp) rfl);have R':=R.at9 h6 rfl hB hv hnum;obtain⟨rn,ro,rl,rc⟩:=r;obtain⟨v0,v1,v2,v3⟩:=hv.box;dsimp only at *;clear R hv hnum;go_simp;exact hK.out _ _ ⟨_,_,_,_,_,_,_,_,_,rfl,R'⟩
  ·obtain rfl:=zI ho;have h6:=(hdep ⟨7,.data⟩ (by simp) rfl);obtain⟨B,sv,z,rfl,hB,hv,-⟩:=R.f8 h6;obtain⟨r,rfl,hnum⟩:=R.f21 (hdep ⟨2,.data⟩ (by simp) rfl);have R':=R.at10 h6 rfl hB hv hnum;obtain⟨rn,ro,rl,rc⟩:=r;obtain⟨v0,v1,v2,v3⟩:=hv.box;dsimp only at *;clear R hv hnum;go_simp;exact hK.out _ _ ⟨_,_,_,_,_,_,_,_,_,rfl,R'⟩
  ·obtain rfl:=zI ho;have h6:=(hdep ⟨8,.data⟩ (by simp) rfl);obtain⟨B,sv,z,rfl,hB,hv,-⟩:=R.f9 h6;obtain⟨r,rfl,hnum⟩:=R.f24 (hdep ⟨5,.data⟩ (by simp) rfl);have R':=R.at11 h6 rfl hB hv hnum;obtain⟨rn,ro,rl,rc⟩:=r;obtain⟨v0,v1,v2,v3⟩:=hv.box;dsimp only at *;clear R hv hnum;go_simp;exact hK.out _ _ ⟨_,_,_,_,_,_,_,_,_,rfl,R'⟩
 ·rintro L a' w' ⟨c7,c8,c9,c19,c20,c21,c22,c23,c24,rfl,R⟩ hall;obtain⟨H,⟨hn,ho,hl,hc⟩,zh,rfl,hH,vH,zH⟩:=R.f7 (hall 6 (by decide));obtain⟨U,⟨un,uo,ul,uc⟩,zu,rfl,hU,vU,zU⟩:=R.f8 (hall 7 (by decide));obtain⟨V,⟨vn,vo,vl,vc⟩,zv,rfl,hV,vV,zV⟩:=R.f9 (hall 8 (by decide));obtain rfl:=zH (hall 9 (by decide));obtain rfl:=zU (hall 10 (by decide));obtain rfl:=zV (hall 11 (by decide));have hHU:=zK (R.d78 (hall 6 (by decide)) (hall 7 (by decide)));have hHV:=zK (R.d79 (hall 6 (by decide)) (hall 8 (by decide)));have hUV:=zK (R.d89 (hall 7 (by decide)) (hall 8 (by decide)));have HBL:=hide (show Blocks w (w.heap.size+1+1) (w.heap.size+1+1+1) (w.heap.size+1+1+1+1) H U V from⟨by omega,by omega,by omega,hH,hU,hV,hHU,hHV,hUV⟩);have HST:=hide (show GSt KB w w' (w.heap.size+1+1) (w.heap.size+1+1+1) (w.heap.size+1+1+1+1) H U V ⟨kn,ko,kl,kc⟩ ⟨ln,lo,ll,lc⟩ ⟨mn,mo,ml,mc⟩ ⟨hn,ho,hl,hc⟩ ⟨un,uo,ul,uc⟩ ⟨vn,vo,vl,vc⟩ (ab a) (ab b) (sgn a) 0 0 (sgn b) from⟨R.pre.g,R.pre.x,R.pre.y,vH,vU,vV,R.pre.below⟩);have HBZ:=hide (Bez.start (K:=bp KB-1) (a:=a) (b:=b) (zgv hKB2) (by have:=HA.out.ab_lt;omega) (by have:=HB.out.ab_lt;omega));clear R hall zH zU zV vH vU vV hHU hHV hUV hH hU hV HP5 p0 p1;go_wp2_with fail;generalize w.heap.size+1+1=G at *;go_loopw [] (fun wr=>∃(rg rx ry rh ru rv:Nm) (g h x u y v:Int),GSt KB w wr G (G+1) (G+1+1) H U V rg rx ry rh ru rv g h x u y v∧Hid (Bez (bp KB-1) a b g h x u y v)) (fun wr=>(numAt wr H).toNat)
  case atStart=>exact⟨_,_,_,_,_,_,_,_,_,_,_,_,HST.out,HBZ⟩
  case round=>
   obtain⟨⟨gn,go,gl,gc⟩,⟨xn,xo,xl,xc⟩,⟨yn,yo,yl,yc⟩,⟨hn,ho,hl,hc⟩,⟨un,uo,ul,uc⟩,⟨vn,vo,vl,vc⟩,g,h,x,u,y,v,HS,HBZ⟩:=hrel;obtain⟨e0,e1,-,-⟩:=HS.h.box;have HS0:=hide HS;have HNA:=hide (zeV HS.h.box HS.h.num);clear HS HST;have hGs:=HBL.out.g;have k1:=HBL.out.yh;have k2:=HBL.out.yu;have k3:=HBL.out.yv;have k4:=HBL.out.hu;have k5:=HBL.out.hv;have k6:=HBL.out.uv;go_wp2_with fail;refine(zaT wr _ h KB HS0.out.h.num).mono ?_;rintro e w1 ⟨rfl,hb1⟩;have HS1:=hide (HS0.out.later hb1);clear e0 e1 HS0 hb1;by_cases h0:h=0
   ·rw [decide_eq_true h0];obtain⟨g0,g1,g2,g3⟩:=HS1.out.g.box;obtain⟨x0,x1,x2,x3⟩:=HS1.out.x.box;obtain⟨y0,y1,y2,y3⟩:=HS1.out.y.box;have v1:=HS1.out.g.write HS1.out.g.num;have v2:=HS1.out.x.other HS1.out.g (show G+1≠G by omega) (.bool gn) (.slice go gl gc);have v3:=HS1.out.y.other HS1.out.g (show G+1+1≠G by omega) (.bool gn) (.slice go gl gc);have V1:=hide (v1.other v2 (show G≠G+1 by omega) (.bool xn) (.slice xo xl xc));have V2:=hide (v2.write v2.num);have V3:=hide (v3.other v2 (show G+1+1≠G+1 by omega) (.bool xn) (.slice xo xl xc));have T1:=V1.out.other V3.out (show G≠G+1+1 by omega) (.bool yn) (.slice yo yl yc);have T2:=V2.out.other V3.out (show G+1≠G+1+1 by omega) (.bool yn) (.slice yo yl yc);have T3:=V3.out.write V3.out.num;have v1':=hide v1;have v2':=hide v2;have v3':=hide v3;obtain⟨m0,m1,m2,m3⟩:=v2.box;obtain⟨n0,n1,n2,n3⟩:=V3.out.box;obtain⟨r0,r1,-,-⟩:=T1.box;obtain⟨s0,s1,-,-⟩:=T2.box;obtain⟨t0,t1,-,-⟩:=T3.box;have HBW:=hide ((((((HS1.out.below.setCell (p:=⟨G,0,none⟩) hGs (.bool gn)).setCell (p:=⟨G,1,none⟩) hGs (.slice go gl gc)).setCell (p:=⟨G+1,0,none⟩) (by simp;omega) (.bool xn)).setCell (p:=⟨G+1,1,none⟩) (by simp;omega) (.slice xo xl xc)).setCell (p:=⟨G+1+1,0,none⟩) (by simp;omega) (.bool yn)).setCell (p:=⟨G+1+1,1,none⟩) (by simp;omega) (.slice yo yl yc));have TN:=hide (show NumL _ _ g KB∧NumL _ _ x KB∧NumL _ _ y KB from⟨T1.num,T2.num,T3.num⟩);have HE:=hide (show g=x*a+y*b∧0≤g∧(∃ p,a=p*g)∧(∃ p,b=p*g) by
     obtain⟨p,q,e⟩:=HBZ.out.spa;obtain⟨p',q',e'⟩:=HBZ.out.spb;rw [h0] at e e';exact⟨HBZ.out.eg,HBZ.out.g0,⟨p,by omega⟩,⟨p',by omega⟩⟩)
    clear v1 v2 v3 T1 T2 T3 HBZ;dsimp only at *;go_wp2_with fail;refine zy (S:=(fun w'=>w'.cell? ⟨G,0,none⟩=some (.bool gn)∧w'.cell? ⟨G,1,none⟩=some (.slice go gl gc)∧w'.cell? ⟨G+1,0,none⟩=some (.bool xn)∧w'.cell? ⟨G+1,1,none⟩=some (.slice xo xl xc)∧w'.cell? ⟨G+1+1,0,none⟩=some (.bool yn)∧w'.cell? ⟨G+1+1,1,none⟩=some (.slice yo yl yc))) (k:=5) (by kernel_rfl) (by(try dsimp only);go_keep) (fun hHeld=>?_);refine zf 0 49 [5] ?_;try simp only [zA]
    refine zf 1 50 [5] ?_;try simp only [zA]
    refine zf 2 51 [5] ?_;try simp only [zA]
    refine zg 3 (by kernel_rfl) rfl (fun K hK=>?_);go_simp;refine hK.out _ _ (fun _=>by exact⟨v1'.out.box.1,v1'.out.box.2.1,v2'.out.box.1,v2'.out.box.2.1,v3'.out.box.1,v3'.out.box.2.1⟩) ?_;clear hK K;try simp only [zA]
    refine zg 4 (by kernel_rfl) rfl (fun K hK=>?_);go_simp;refine hK.out _ _ (fun _=>by exact⟨V1.out.box.1,V1.out.box.2.1,V2.out.box.1,V2.out.box.2.1,V3.out.box.1,V3.out.box.2.1⟩) ?_;clear hK K;try simp only [zA]
    refine zg 5 (by kernel_rfl) rfl (fun K hK=>?_);go_simp;refine hK.out _ _ (fun h=>absurd h (by decide)) ?_;clear hK K;try simp only [zA]
    refine zx (by kernel_rfl) ?_;go_wp2;exact bodyPost_ret (v:=.tuple #[.agg #[.bool gn,.slice go gl gc],.agg #[.bool xn,.slice xo xl xc],.agg #[.bool yn,.slice yo yl yc]]) (by simp [results,Tryz.results82,go_sem,r0,r1,s0,s1,t0,t1]) rfl ⟨_,_,_,g,x,y,rfl,TN.out.1.drewed,TN.out.2.1.drewed,TN.out.2.2.drewed,HE.out.1,HE.out.2.1,HE.out.2.2.1,HE.out.2.2.2,zgq HBW.out⟩
   ·rw [decide_eq_false h0];obtain⟨e0,e1,-,-⟩:=HS1.out.h.box;obtain⟨g0,g1,-,-⟩:=HS1.out.g.box;go_wp2_with fail;refine(zcd w1 _ _ g h KB KB HS1.out.g.num HS1.out.h.num h0 (by omega)).mono ?_;rintro e w2 ⟨vq,vl,q,l,rfl,hq,hl',hgq,hle,hb2⟩;have HS2:=hide (HS1.out.later hb2);clear e0 e1 g0 g1 HS1 hb2;have hle':=hle.1 (by have:=HBZ.out.h0;omega);have HBZ':=hide (HBZ.out.step hgq hle'.1 hle'.2);have HLT:=hide hle';have HH0:=hide HBZ.out.h0;clear HBZ hle hle' hgq h0;obtain⟨⟨qn,qo,ql,qc⟩,rfl⟩:=hq.nm;obtain⟨⟨mn,mo,ml,mc⟩,rfl⟩:=hl'.nm;try dsimp only at hq hl'
    have hba:Below w2.heap.size w2 ((w2.alloc (.cells #[.bool qn,.slice qo ql qc] 90)).alloc (.cells #[.bool mn,.slice mo ml mc] 90)):=((zB _ _).alloc zL _).alloc (by simp) _;have HS3:=hide (HS2.out.later hba);have HQ:=hide (hq.below hba zL);have HL:=hide (hl'.below hba zL);have bq:Box ((w2.alloc (.cells #[.bool qn,.slice qo ql qc] 90)).alloc (.cells #[.bool mn,.slice mo ml mc] 90)) w2.heap.size (.bool qn) (.slice qo ql qc):=(zl w2 _ _ _ _ rfl).later ((zB _ _).alloc (by simp) _:Below (w2.heap.size+1) _ _) (by omega);have bxl:Box ((w2.alloc (.cells #[.bool qn,.slice qo ql qc] 90)).alloc (.cells #[.bool mn,.slice mo ml mc] 90)) (w2.heap.size+1) (.bool mn) (.slice mo ml mc):=zl _ _ _ _ _ (by simp);have hsz:w2.heap.size<((w2.alloc (.cells #[.bool qn,.slice qo ql qc] 90)).alloc (.cells #[.bool mn,.slice mo ml mc] 90)).heap.size:=by simp;omega
    have n1:=HS2.out.g.lt;have n2:=HS2.out.x.lt;have n3:=HS2.out.y.lt;have n4:=HS2.out.h.lt;have n5:=HS2.out.u.lt;have n6:=HS2.out.v.lt;clear hq hl' hba HS2;go_wp2_with fail;generalize (w2.alloc (.cells #[.bool qn,.slice qo ql qc] 90)).alloc (.cells #[.bool mn,.slice mo ml mc] 90)=w3 at *;generalize w2.heap.size=D at *;obtain⟨t0,t1,-,-⟩:=bxl;have VQ:=hide (show VarQ KB w3 D ⟨qn,qo,ql,qc⟩ q from⟨bq,HQ.out,hsz⟩);clear bq HQ hsz;obtain⟨e0,e1,e2,e3⟩:=HS3.out.h.box;obtain⟨g0,g1,g2,g3⟩:=HS3.out.g.box;have a1:¬(G=H):=by omega
    have a2:¬(H=G):=by omega
    have a3:¬(G=D+1):=by omega
    have a4:¬(D+1=G):=by omega
    have a5:¬(H=D+1):=by omega
    have a6:¬(D+1=H):=by omega
    refine zy (S:=(fun w'=>w'.cell? ⟨H,0,none⟩=some (.bool hn)∧w'.cell? ⟨H,1,none⟩=some (.slice ho hl hc)∧w'.cell? ⟨D+1,0,none⟩=some (.bool mn)∧w'.cell? ⟨D+1,1,none⟩=some (.slice mo ml mc))) (k:=3) (by kernel_rfl) (by(try dsimp only);go_keep) (fun hHeld=>?_);refine zf 0 35 [3] ?_;try simp only [zA]
    refine zf 1 36 [3] ?_;try simp only [zA]
    refine zg 2 (by kernel_rfl) rfl (fun K hK=>?_);go_simp;refine hK.out _ _ (fun _=>by(try dsimp only);go_keep) ?_;clear hK K;try simp only [zA]
    refine zg 3 (by kernel_rfl) rfl (fun K hK=>?_);go_simp;refine hK.out _ _ (fun h=>absurd h (by decide)) ?_;clear hK K;try simp only [zA]
    refine zx (by kernel_rfl) ?_;have HS4:=hide (HS3.out.gh HBL.out (r:=⟨hn,ho,hl,hc⟩) (r':=⟨mn,mo,ml,mc⟩) HS3.out.h.num HL.out);have b1:D≠G:=by omega
    have b2:D≠H:=by omega
    have b3:D≠G+1:=by omega
    have b4:D≠U:=by omega
    have b5:D≠G+1+1:=by omega
    have b6:D≠V:=by omega
    have VQ4:=hide ((VQ.out.other HS3.out.g b1 (.bool hn) (.slice ho hl hc)).other (HS3.out.h.other HS3.out.g a2 _ _) b2 (.bool mn) (.slice mo ml mc));clear HS3 VQ HL t0 t1 e0 e1 e2 e3 g0 g1 g2 g3 hHeld a1 a2 a3 a4 a5 a6;dsimp only at HS4 VQ4;go_wp2_with fail;generalize ((((w3.setCell ⟨G,0,none⟩ (.bool hn)).setCell ⟨G,1,none⟩ (.slice ho hl hc)).setCell ⟨H,0,none⟩ (.bool mn)).setCell ⟨H,1,none⟩ (.slice mo ml mc))=w4 at *;obtain⟨u0,u1,-,-⟩:=HS4.out.u.box;obtain⟨x0,x1,-,-⟩:=HS4.out.x.box;obtain⟨z0,z1,-,-⟩:=VQ4.out.box;dsimp only at u0 u1 x0 x1 z0 z1;have a1:¬(G+1=U):=by omega
    have a2:¬(U=G+1):=by omega
    refine zy (S:=(fun w'=>w'.cell? ⟨U,0,none⟩=some (.bool un)∧w'.cell? ⟨U,1,none⟩=some (.slice uo ul uc)∧w'.cell? ⟨G+1,0,none⟩=some (.bool xn)∧w'.cell? ⟨G+1,1,none⟩=some (.slice xo xl xc)∧w'.cell? ⟨D,0,none⟩=some (.bool qn)∧w'.cell? ⟨D,1,none⟩=some (.slice qo ql qc))) (k:=6) (by kernel_rfl) (by(try dsimp only);go_keep) (fun hHeld=>?_);refine zf 0 37 [6,7] ?_;try simp only [zA]
    refine zf 1 38 [6,7] ?_;try simp only [zA]
    refine zf 2 39 [4,5,6,7] ?_;try simp only [zA]
    refine zf 3 40 [4,5,6,7] ?_;try simp only [zA]
    refine zg 4 (by kernel_rfl) rfl (fun K hK=>?_);go_simp
    (refine(zbK _ _ _ q u (KB+1) KB (by exact VQ4.out.num) (by exact HS4.out.u.num) (by omega) (by omega)).mono ?_;rintro e w5 ⟨r,rfl,hr,hb⟩;have HS5:=hide (HS4.out.drew.drew.later hb);have VQ5:=hide (VQ4.out.drew.drew.later hb);have HR:=hide hr;clear hr hb;obtain⟨u0',u1',-,-⟩:=HS5.out.u.box;obtain⟨x0',x1',-,-⟩:=HS5.out.x.box;obtain⟨z0',z1',-,-⟩:=VQ5.out.box;dsimp only at u0' u1' x0' x1' z0' z1')
    go_wp2_with fail;refine hK.out _ _ (fun _=>by(try dsimp only);go_keep) ?_;clear hK K;try simp only [zA]
    refine zg 5 (by kernel_rfl) rfl (fun K hK=>?_);go_simp
    (refine(zfB _ _ _ x (q*u) (KB+1+KB) (HS5.out.x.num.mono (by omega)) HR.out (by omega)).mono ?_;rintro e w6 ⟨r',rfl,hr,hb⟩;have HS6:=hide (HS5.out.later hb);have VQ6:=hide (VQ5.out.later hb);have HR':=hide (hr.tight (m:=KB) (by have:=HBZ'.out.ku;omega));clear hb;obtain⟨⟨pn,po,pl,pc⟩,rfl⟩:=hr.nm;clear hr;obtain⟨u0'',u1'',u2'',u3''⟩:=HS6.out.u.box;obtain⟨x0'',x1'',x2'',x3''⟩:=HS6.out.x.box;obtain⟨z0'',z1'',-,-⟩:=VQ6.out.box;dsimp only at u0'' u1'' u2'' u3'' x0'' x1'' x2'' x3'' z0'' z1'' HR')
    go_wp2_with fail;refine hK.out _ _ (fun _=>by(try dsimp only);go_keep) ?_;clear hK K;try simp only [zA]
    refine zg 6 (by kernel_rfl) rfl (fun K hK=>?_);go_simp;refine hK.out _ _ (fun h=>absurd h (by decide)) ?_;clear hK K;try simp only [zA]
    refine zg 7 (by kernel_rfl) rfl (fun K hK=>?_);go_simp;refine hK.out _ _ (fun h=>absurd h (by decide)) ?_;clear hK K;try simp only [zA]
    refine zx (by kernel_rfl) ?_;have HS7:=hide (HS6.out.xu HBL.out (r:=⟨un,uo,ul,uc⟩) (r':=⟨pn,po,pl,pc⟩) HS6.out.u.num HR'.out);have VQ7:=hide ((VQ6.out.other HS6.out.x b3 (.bool un) (.slice uo ul uc)).other (HS6.out.u.other HS6.out.x a2 _ _) b4 (.bool pn) (.slice po pl pc));clear HS4 HS5 HS6 VQ4 VQ5 VQ6 HR HR' u0 u1 x0 x1 z0 z1 u0' u1' x0' x1' z0' z1' u0'' u1'' u2'' u3'' x0'' x1'' x2'' x3'' z0'' z1'' a1 a2 hHeld;dsimp only at HS7 VQ7;go_wp2_with fail;generalize ((((w6.setCell ⟨G+1,0,none⟩ (.bool un)).setCell ⟨G+1,1,none⟩ (.slice uo ul uc)).setCell ⟨U,0,none⟩ (.bool pn)).setCell ⟨U,1,none⟩ (.slice po pl pc))=w7 at *;obtain⟨u0,u1,-,-⟩:=HS7.out.v.box;obtain⟨x0,x1,-,-⟩:=HS7.out.y.box;obtain⟨z0,z1,-,-⟩:=VQ7.out.box;dsimp only at u0 u1 x0 x1 z0 z1;have a1:¬(G+1+1=V):=by omega
    have a2:¬(V=G+1+1):=by omega
    refine zy (S:=(fun w'=>w'.cell? ⟨V,0,none⟩=some (.bool vn)∧w'.cell? ⟨V,1,none⟩=some (.slice vo vl vc)∧w'.cell? ⟨G+1+1,0,none⟩=some (.bool yn)∧w'.cell? ⟨G+1+1,1,none⟩=some (.slice yo yl yc)∧w'.cell? ⟨D,0,none⟩=some (.bool qn)∧w'.cell? ⟨D,1,none⟩=some (.slice qo ql qc))) (k:=6) (by kernel_rfl) (by(try dsimp only);go_keep) (fun hHeld=>?_);refine zf 0 43 [6,7] ?_;try simp only [zA]
    refine zf 1 44 [6,7] ?_;try simp only [zA]
    refine zf 2 45 [4,5,6,7] ?_;try simp only [zA]
    refine zf 3 46 [4,5,6,7] ?_;try simp only [zA]
    refine zg 4 (by kernel_rfl) rfl (fun K hK=>?_);go_simp
    (refine(zbK _ _ _ q v (KB+1) KB (by exact VQ7.out.num) (by exact HS7.out.v.num) (by omega) (by omega)).mono ?_;rintro e w8 ⟨r,rfl,hr,hb⟩;have HS8:=hide (HS7.out.drew.later hb);have VQ8:=hide (VQ7.out.drew.later hb);have HR:=hide hr;clear hr hb;obtain⟨u0',u1',-,-⟩:=HS8.out.v.box;obtain⟨x0',x1',-,-⟩:=HS8.out.y.box;obtain⟨z0',z1',-,-⟩:=VQ8.out.box;dsimp only at u0' u1' x0' x1' z0' z1')
    go_wp2_with fail;refine hK.out _ _ (fun _=>by(try dsimp only);go_keep) ?_;clear hK K;try simp only [zA]
    refine zg 5 (by kernel_rfl) rfl (fun K hK=>?_);go_simp
    (refine(zfB _ _ _ y (q*v) (KB+1+KB) (HS8.out.y.num.mono (by omega)) HR.out (by omega)).mono ?_;rintro e w9 ⟨r',rfl,hr,hb⟩;have HS9:=hide (HS8.out.later hb);have VQ9:=hide (VQ8.out.later hb);have HR':=hide (hr.tight (m:=KB) (by have:=HBZ'.out.kv;omega));clear hb;obtain⟨⟨sn,so,sl,sc⟩,rfl⟩:=hr.nm;clear hr;obtain⟨u0'',u1'',u2'',u3''⟩:=HS9.out.v.box;obtain⟨x0'',x1'',x2'',x3''⟩:=HS9.out.y.box;obtain⟨z0'',z1'',-,-⟩:=VQ9.out.box;dsimp only at u0'' u1'' u2'' u3'' x0'' x1'' x2'' x3'' z0'' z1'' HR')
    go_wp2_with fail;refine hK.out _ _ (fun _=>by(try dsimp only);go_keep) ?_;clear hK K;try simp only [zA]
    refine zg 6 (by kernel_rfl) rfl (fun K hK=>?_);go_simp;refine hK.out _ _ (fun h=>absurd h (by decide)) ?_;clear hK K;try simp only [zA]
    refine zg 7 (by kernel_rfl) rfl (fun K hK=>?_);go_simp;refine hK.out _ _ (fun h=>absurd h (by decide)) ?_;clear hK K;try simp only [zA]
    refine zx (by kernel_rfl) ?_;have HS10:=hide (HS9.out.yv HBL.out (r:=⟨vn,vo,vl,vc⟩) (r':=⟨sn,so,sl,sc⟩) HS9.out.v.num HR'.out);have VQ10:=hide ((VQ9.out.other HS9.out.y b5 (.bool vn) (.slice vo vl vc)).other (HS9.out.v.other HS9.out.y a2 _ _) b6 (.bool sn) (.slice so sl sc));clear HS7 HS8 HS9 VQ7 VQ8 VQ9 HR HR' u0 u1 x0 x1 z0 z1 u0' u1' x0' x1' z0' z1' u0'' u1'' u2'' u3'' x0'' x1'' x2'' x3'' z0'' z1'' a1 a2 hHeld;dsimp only at HS10 VQ10;have HM:=hide (zeV HS10.out.h.box HS10.out.h.num);go_wp2;go_roundw
    case rel=>exact⟨_,_,_,_,_,_,_,_,_,_,_,_,HS10.out,HBZ'⟩
    case measure=>rw [HM.out,HNA.out];have:=HLT.out;omega
end Go.Proofs.YtncamilanceahaaGreat.GK
/- Vectors as they come in; what is wrong with one. -/
namespace Go.Proofs.YtncamilanceahaaGreat
open Go.RowKit Limbs
def VecL (w:World)(v:Value)(rs:List Raw):Prop:=
 ∃ ao cap,v=.slice ao rs.length cap∧rs.length≤cap ∧
  (0<rs.length→∃ b off,ao=some ⟨b,off,none⟩∧b<w.heap.size∧∀ i r,rs[i]?=some r→w.cell? ⟨b,off+i*2,none⟩=some (.bool r.neg)∧w.cell? ⟨b,off+i*2+1,none⟩=some r.s∧Lim w r.s r.zs)
theorem VecL.below {C:Nat}{w w':World}{v:Value}{rs:List Raw}(h:VecL w v rs)(hb:Below C w w')(hC:w.heap.size≤C):VecL w' v rs:=by
 obtain⟨ao,cap,hv,h1,h2⟩:=h;refine⟨ao,cap,hv,h1,fun h0=>?_⟩;obtain⟨b,off,e,hlt,hc⟩:=h2 h0;refine⟨b,off,e,zT hlt hb.size,fun i r hi=>?_⟩;obtain⟨h3,h4,h5⟩:=hc i r hi;exact⟨(hb.cell (p:=⟨b,off+i*2,none⟩) (zT hlt hC)).trans h3,(hb.cell (p:=⟨b,off+i*2+1,none⟩) (zT hlt hC)).trans h4,h5.below hb hC⟩
def Raw.num (r:Raw):Bool:=isNum r.neg r.zs
def checkedV (rs:List Raw):Value:=if rs.length<1∨8<rs.length then .iface 66 (.int .i64 6) else checked (rs.all Raw.num)
theorem zgC (w:World)(v:Value)(rs:List Raw)(hv:VecL w v rs):
  Calls Tryz.prog 58 #[v] w fun e w'=>e=.returned (checkedV rs)∧Below w.heap.size w w':=by
 have HV:=hide hv;obtain⟨ao,cap,rfl,-,hc⟩:=hv;by_cases h1:rs.length<1
 ·have e:checkedV rs=.iface 66 (.int .i64 6):=if_pos (.inl h1);rw [e];have hl:(rs.length:Int)<1:=by omega
  clear hc e;go_enter Tryz.func58,Tryz.ntmps58;go_wp2;go_ret;exact⟨rfl,zB _ _⟩
 ·have hl:¬((rs.length:Int)<1):=by omega
  by_cases h2:8<rs.length
  ·have e:checkedV rs=.iface 66 (.int .i64 6):=if_pos (.inr h2);rw [e];have hl2:(8:Int)<(rs.length:Int):=by omega
   clear hc e;go_enter Tryz.func58,Tryz.ntmps58;go_wp2;go_ret;exact⟨rfl,zB _ _⟩
  ·have e:checkedV rs=checked (rs.all Raw.num):=if_neg (by omega);rw [e];have hl2:¬((8:Int)<(rs.length:Int)):=by omega
   obtain⟨b,off,rfl,hlt,-⟩:=hc (by omega);clear e;go_enter Tryz.func58,Tryz.ntmps58;go_wp2;go_loopw [16] (fun i wr=>∃ k:Nat,k≤rs.length∧i=.int .i64 k∧Hid ((rs.take k).all Raw.num=true)∧Below w.heap.size w wr) (fun i _=>rs.length-(intOf i).toNat)
   case atStart=>exact⟨0,Nat.zero_le _,rfl,by show _=_;simp,zB _ _⟩
   case round=>
    obtain⟨k,hk,rfl,HG,hbe⟩:=hrel;by_cases hkl:k<rs.length
    ·obtain⟨_,_,e,-,hc⟩:=HV.out.below hbe zL;simp only [Value.slice.injEq,true_and] at e;obtain⟨rfl,rfl⟩:=e;obtain⟨_,_,e,hb2,hc⟩:=hc (by omega);simp only [Option.some.injEq,Addr.mk.injEq,and_true] at e;obtain⟨rfl,rfl⟩:=e;obtain⟨c0,c1,hL⟩:=hc k rs[k] (by simp [hkl]);clear hc;have HT:Hid ((rs.take (k+1)).all Raw.num=rs[k].num):=by
      show _=_;rw [List.take_succ_eq_append_getElem hkl,List.all_append,HG.out];simp
     have HE:Hid (rs[k].num=false→rs.all Raw.num=false):=fun h=>by
      rw [List.all_eq_false];exact⟨rs[k],List.getElem_mem hkl,by simp [h]⟩
     generalize rs[k]=r at *;obtain⟨rn,rsl,rz⟩:=r;have HL:=hide hL;have HBE:=hide hbe;obtain⟨ro,rcap,e,-⟩:=hL;simp only at e c0 c1;subst e;clear hbe;go_wp2_with fail;refine(zgD _ _ _ _ HL.out).mono ?_;rintro e w1 ⟨rfl,hb1⟩;have HB1:=hide (HBE.out.trans (hb1.mono HBE.out.size));clear hb1;cases hn:isNum rn rz
     ·have HA:=hide (HE.out hn);have e:checked false=.iface 66 (.int .i64 3):=rfl;rw [e];clear HT HE e;go_wp2;go_ret;exact⟨by rw [HA.out];rfl,HB1.out⟩
     ·have e:checked true=.nilIface:=rfl;rw [e];have HG':=hide (HT.out.trans hn);clear HT HE HG e;go_wp2;go_roundw
      case rel=>exact⟨k+1,by omega,by go_num,HG',HB1.out⟩
      case measure=>simp [intOf];omega
    ·obtain rfl:k=rs.length:=by omega
     have HA:Hid (rs.all Raw.num=true):=by have:=HG.out;rwa [List.take_length] at this
     have HBE:=hide hbe;clear hbe HG;go_wp2;go_ret;exact⟨by rw [HA.out];rfl,HBE.out⟩
end Go.Proofs.YtncamilanceahaaGreat
