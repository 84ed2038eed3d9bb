import Derived.Test.YtncamilanceahaaGreatStaQ
set_option maxRecDepth 100000
set_option maxHeartbeats 6400000
namespace Go.Proofs.YtncamilanceahaaGreat
open Go.RowKit Limbs Digs
variable{w W W':World}{m E H k D n k':Nat}{b0 b1 n0 n1 r0 r1 l0 l1 d0 d1 u0 u1 a0 a1 vq:Value}{y r q left B x:Int}{qs:List Int}
theorem Dig.setBox{v:Value}{ds:List Int}(h:Dig w v ds){B:Nat}(hB:BoxR w B u0 u1)(v0 v1:Value):Dig ((w.setCell ⟨B,0,none⟩ v0).setCell ⟨B,1,none⟩ v1) v ds:=
 (h.setCell hB (by decide) 0 v0).setCell (heap_setCell_same w B 0 _ _ v0 hB) (by decide) 1 v1
theorem ziS{b d:Int}(hb:b<dp m)(h0:0≤left)(h1:left<b)(hd:0≤d∧d<10000):-dp (m+1)<left*10000+d∧left*10000+d<dp (m+1):=by
 have:=zap m;simp only [dp];omega
structure OIn (w W:World)(D:Nat)(a0 a1 b0 b1:Value)(m:Nat)(vq:Value)(qs:List Int)(left B:Int)(l0 l1 d0 d1:Value):Prop where
 st:OSt w W D a0 a1 b0 b1 l0 l1 d0 d1
 num:NumR W (.agg #[l0,l1]) left (m+1)
 siz:NumR W (.agg #[d0,d1]) B m
 q:Dig W vq qs
theorem OIn.later(h:OIn w W D a0 a1 b0 b1 m vq qs left B l0 l1 d0 d1)(hb:Below W.heap.size W W'):OIn w W' D a0 a1 b0 b1 m vq qs left B l0 l1 d0 d1:=
 ⟨h.st.later hb,h.num.below hb zL,h.siz.below hb zL,h.q.below hb zL⟩
theorem OIn.drew(h:OIn w W D a0 a1 b0 b1 m vq qs left B l0 l1 d0 d1):OIn w W.drew D a0 a1 b0 b1 m vq qs left B l0 l1 d0 d1:=
 ⟨h.st.drew,h.num,h.siz,h.q⟩
theorem zeZ{a b:List Int}{p:Nat}{left' dg lo:Int}(hp:p<a.length)(hql:qs.length=a.length-(p+1))(hsum:dv qs*dv b+left=dv (a.drop (p+1)))(hl:left*10000+dg=left')(hdr:dv (a.drop p)=dg+10000*dv (a.drop (p+1)))
  (hq:Dig W vq (lo::qs)) (hrm:0≤left'-dv b*lo∧left'-dv b*lo<dv b) (hn:NumR W (.agg #[l0,l1]) (left'-dv b*lo) m) (hz:NumR W (.agg #[d0,d1]) (dv b) m):OInv w W D a b m p vq (lo::qs) (left'-dv b*lo) l0 l1 d0 d1:=
 ⟨hq,by rw [List.length_cons];omega,fun h=>by simp at h,by simp only [dv];rw [ziU hsum hl.symm,hdr],hrm.1,hrm.2,hn,hz⟩
theorem NumR.mag{s z:Int}{sl:Value}(h:NumR w (.agg #[.int .i64 s,sl]) z n)(h0:0≤z):∃ ds,Dig w sl ds∧dv ds=z∧ds.length≤n:=by
 have hsg:=h.sign;obtain⟨s',sl',ds,e,hd,hn,hz,hs,hl⟩:=h;simp only [Value.agg.injEq,Array.mk.injEq,List.cons.injEq,Value.int.injEq,and_true,true_and] at e;obtain⟨rfl,rfl⟩:=e;refine⟨ds,hd,?_,hl⟩;rcases hs with⟨h1,-⟩ |⟨-,h | h⟩
 ·have:ds=[]:=List.eq_nil_of_length_eq_zero h1;subst this;rw [hz];simp [dv]
 ·subst h;omega
 ·omega
theorem zfH{Q L:Int}(h:0=Q*B+L)(hQ:0≤Q)(hB:0<B)(hL:0≤L):Q=0:=by
 have h1:Q*1≤Q*B:=Int.mul_le_mul_of_nonneg_left (by omega) hQ;omega
theorem zjv{sa sr sb:Int}(hs:(sa*left=0∧sr=0)∨(0<sa*left∧sr=1)∨(sa*left<0∧sr=-1))(hsa:sa=0∨sa=1∨sa=-1)(hl:0≤left)(hsb:sb=1∨sb=-1):
  ((sr=0∨sr=sb)→(sa*left=0∨sa=sb))∧(sr≠0→sr≠sb→sa*left≠0∧sa≠sb):=by
 rcases hsa with rfl | rfl | rfl <;> rcases hsb with rfl | rfl <;> omega
theorem zh4{D:Int}(h:Left r y)(hy:y≠0)(hd:-D<y∧y<D):-D<r∧r<D:=by
 unfold Left at h;rcases(by omega:0<y∨y<0) with h1 | h1
 ·have:=h.1 h1;omega
 ·have:=h.2 h1;omega
theorem OverPost.drew{e:Ending}(h:OverPost w x y n m e W):OverPost w x y n m e W.drew:=by
 obtain⟨vq,vr,q,r,h1,h2,h3,h4,h5,h6⟩:=h;exact⟨vq,vr,q,r,h1,h2,h3,h4,h5,h6.drew⟩
structure OFin (w W:World)(E H:Nat)(b0 b1:Value)(k m:Nat)(y q r:Int)(n0 n1 r0 r1:Value):Prop where
 b:BoxR W (w.heap.size+1) b0 b1
 br:BoxR W (w.heap.size+1+1) (.int .i64 0) (.slice none 0 0)
 bs:BoxR W (w.heap.size+1+1+1) (.int .i64 0) (.slice none 0 0)
 e:BoxR W E n0 n1
 h:BoxR W H r0 r1
 below:Below w.heap.size w W
 hE:w.heap.size+1+1+1+1<E
 hH:E<H
 ny:NumR W (.agg #[b0,b1]) y m
 nq:NumR W (.agg #[n0,n1]) q k
 nr:NumR W (.agg #[r0,r1]) r m
theorem OFin.later(f:OFin w W E H b0 b1 k m y q r n0 n1 r0 r1)(hb:Below W.heap.size W W'):OFin w W' E H b0 b1 k m y q r n0 n1 r0 r1:=
 ⟨f.b.later hb f.b.lt,f.br.later hb f.br.lt,f.bs.later hb f.bs.lt,f.e.later hb f.e.lt,f.h.later hb f.h.lt,f.below.trans (hb.mono f.below.size),f.hE,f.hH,f.ny.below hb zL,f.nq.below hb zL,f.nr.below hb zL⟩
theorem OFin.drew(f:OFin w W E H b0 b1 k m y q r n0 n1 r0 r1):OFin w W.drew E H b0 b1 k m y q r n0 n1 r0 r1:=
 ⟨f.b,f.br,f.bs,f.e,f.h,f.below.drew,f.hE,f.hH,f.ny,f.nq,f.nr⟩
theorem OFin.setE{q':Int}(f:OFin w W E H b0 b1 k m y q r n0 n1 r0 r1)(hn:NumR W (.agg #[u0,u1]) q' k'):OFin w ((W.setCell ⟨E,0,none⟩ u0).setCell ⟨E,1,none⟩ u1) E H b0 b1 k' m y q' r u0 u1 r0 r1:=by
 have h1:=f.hE;have h2:=f.hH;exact⟨(f.b.other (by omega) _ _).other (by omega) _ _,(f.br.other (by omega) _ _).other (by omega) _ _,(f.bs.other (by omega) _ _).other (by omega) _ _,f.e.set _ _,(f.h.other (by omega) _ _).other (by omega) _ _,(f.below.setCell (by simp;omega) _).setCell (by simp;omega) _,h1,h2,f.ny.setCell f.e _ _,hn.setCell f.e _ _,f.nr.setCell f.e _ _⟩
theorem OFin.setH{r':Int}(f:OFin w W E H b0 b1 k m y q r n0 n1 r0 r1)(hn:NumR W (.agg #[u0,u1]) r' m):OFin w ((W.setCell ⟨H,0,none⟩ u0).setCell ⟨H,1,none⟩ u1) E H b0 b1 k m y q r' n0 n1 u0 u1:=by
 have h1:=f.hE;have h2:=f.hH;exact⟨(f.b.other (by omega) _ _).other (by omega) _ _,(f.br.other (by omega) _ _).other (by omega) _ _,(f.bs.other (by omega) _ _).other (by omega) _ _,(f.e.other (by omega) _ _).other (by omega) _ _,f.h.set _ _,(f.below.setCell (by simp;omega) _).setCell (by simp;omega) _,h1,h2,f.ny.setCell f.h _ _,f.nq.setCell f.h _ _,hn.setCell f.h _ _⟩
theorem OFin.mono(f:OFin w W E H b0 b1 k m y q r n0 n1 r0 r1)(hk:k≤k'):OFin w W E H b0 b1 k' m y q r n0 n1 r0 r1:=
 ⟨f.b,f.br,f.bs,f.e,f.h,f.below,f.hE,f.hH,f.ny,f.nq.mono hk,f.nr⟩
theorem ziy{wr w1 w2:World}(h:OSt w wr D a0 a1 b0 b1 l0 l1 d0 d1)(hb1:Below wr.heap.size wr w1)(hE:E=w1.heap.size)(hb2:Below (w1.heap.size+1) (w1.alloc (.cells #[n0,n1] 76)) w2)(hH:H=w2.heap.size)
  (hy:NumR w (.agg #[b0,b1]) y m) (hq:NumR w1 (.agg #[n0,n1]) q k) (hr:NumR w2 (.agg #[r0,r1]) r m):OFin w (w2.alloc (.cells #[r0,r1] 76)) E H b0 b1 k m y q r n0 n1 r0 r1:=by
 subst hE hH;have s1:=hb1.size;have s2:=hb2.size;simp at s2;have k1:Below w1.heap.size w1 (w1.alloc (.cells #[n0,n1] 76)):=(zB _ _).alloc zL _;have k2:Below w2.heap.size w2 (w2.alloc (.cells #[r0,r1] 76)):=(zB _ _).alloc zL _;have c1:Below w1.heap.size w1 (w2.alloc (.cells #[r0,r1] 76)):=(k1.trans (hb2.mono (by omega))).trans (k2.mono (by omega));have c0:Below wr.heap.size wr (w2.alloc (.cells #[r0,r1] 76)):=hb1.trans (c1.mono s1);have hl:=h.l.lt;have hd:=h.d.lt;refine⟨h.b.later c0 h.b.lt,h.r.later c0 h.r.lt,h.s.later c0 h.s.lt,?_,zn w2 _ _ _ rfl,h.below.trans (c0.mono h.below.size),by omega,by omega,hy.below (h.below.trans (c0.mono h.below.size)) zL,hq.below c1 zL,hr.below k2 zL⟩;exact((zn w1 _ _ _ rfl).later hb2 (by omega)).later k2 (by omega)
theorem OFin.give(f:OFin w W E H b0 b1 (k+6) m y q r n0 n1 r0 r1)(hx:x=q*y+r)(hl:Left r y):
  OverPost w x y k m (.returned (.tuple #[.agg #[n0,n1],.agg #[r0,r1]])) ((((W.setCell ⟨w.heap.size+1+1,0,none⟩ n0).setCell ⟨w.heap.size+1+1,1,none⟩ n1).setCell ⟨w.heap.size+1+1+1,0,none⟩ r0).setCell ⟨w.heap.size+1+1+1,1,none⟩ r1):=by
 have hs:=(f.bs.other (show w.heap.size+1+1+1≠w.heap.size+1+1 by omega) 0 n0).other (show w.heap.size+1+1+1≠w.heap.size+1+1 by omega) 1 n1;exact⟨_,_,q,r,rfl,(f.nq.setCell f.br _ _).setCell hs _ _,(f.nr.setCell f.br _ _).setCell hs _ _,hx,hl,(((f.below.setCell (by simp;omega) _).setCell (by simp;omega) _).setCell (by simp;omega) _).setCell (by simp;omega) _⟩
theorem zbO (w:World)(va vb:Value)(x y:Int)(n m:Nat)(ha:NumR w va x n)(hb:NumR w vb y m)(hy:y≠0)(hn:n≤100000000000)(hm:m≤100000000000):
  Calls Tryz.prog 45 #[va,vb] w fun e w'=>OverPost w x y n m e w':=by
 obtain⟨i0,hi,hz0,hz1,hz2⟩:=info_parts Tryz.infoInt;have HNB:=hide hb;obtain⟨sa,la,a,rfl,hla,nra,hx,hsa,hna⟩:=ha;obtain⟨sb,lb,b,rfl,hlb,nrb,hyy,hsb,hnb⟩:=hb;have HA:=hide hla;have HB:=hide hlb;have hbl:b.length≤m:=hnb;obtain⟨ao,acap,rfl,-,-,adb,hac⟩:=hla;obtain⟨bo,bcap,rfl,-,-,bdb,-⟩:=hlb;have hs1:=zbl adb nra hsa;have hs2:=zbl bdb nrb hsb;have hB:0<dv b∧(sb=1∨sb=-1):=by
  rcases hs2 with⟨h1,h2⟩ | h
  ·exact absurd (by rw [hyy,h2];simp) hy
  ·exact h
 have hsb1:=hB.2;have hBp:=hB.1;have HBM:=hide (show dv b<dp m by have:=za9 bdb;have:=zbD hbl;omega);have hsa3:sa=0∨sa=1∨sa=-1:=by omega
 have HSG:=hide (fun(Q L:Int) (h:dv a=Q*dv b+L) (h0:0≤L) (h1:L<dv b)=>ziT h h0 h1 hx hyy hsa3 hsb1);have HS1:=hide hs1;have HC:=hide (fun(i:Nat) (h:i<a.length)=>show ∃ b off,ao=some ⟨b,off,none⟩∧b<w.heap.size∧w.cell? ⟨b,off+i,none⟩=some (.int .i64 (a.getD i 0)) by
  obtain⟨b,off,cur,fz,e,hb,hc⟩:=hac (by omega);exact⟨b,off,e,zm hb,hc i h⟩)
 clear hsa hsb hs1 hs2 hB hac hx hyy;go_enter Tryz.func45,Tryz.ntmps45;go_wp2_with fail;refine(zao _ 1 _ b (HB.out.below ((((((zB _ _).alloc zL _).alloc (by simp) _).alloc (by simp;omega) _).alloc (by simp;omega) _).alloc (by simp;omega) _) zL) (.inl rfl)).mono ?_;rintro e w1 ⟨r,rfl,hr,hb1⟩;rw [Int.one_mul] at hr;obtain⟨sd,od,dl,dc,rfl,-⟩:=hr.form;have HO:=hide (ziz (d0:=.int .i64 sd) (d1:=.slice od dl dc) hb1);have HSZ:=hide ((hr.below ((zB _ _).alloc zL (.cells #[.int .i64 sd,.slice od dl dc] 76):Below w1.heap.size _ _) zL).mono hbl);clear hr hb1;obtain⟨a0,a1,-,-⟩:=HO.out.a.box;have hal:a.length≤100000000000:=by omega
 go_wp2;generalize w1.alloc (.cells #[.int .i64 sd,.slice od dl dc] 76)=W at *;generalize w1.heap.size=D at *;have HI:Hid (OInv w W D a b m a.length (.slice none 0 0) [] 0 (.int .i64 0) (.slice none 0 0) (.int .i64 sd) (.slice od dl dc)):=
  ⟨Dig.nil _,by simp,fun _=>rfl,by simp [dv],by omega,hBp,NumR.zero _ _,HSZ.out⟩
 clear HSZ a0 a1;go_loopw [6,9] (fun q i wr=>∃(p:Nat) (qs:List Int) (left sl:Int) (lo:Option Addr) (ll lc:Nat),p≤a.length∧i=.int .i64 ((p:Int)-1)∧OSt w wr D (.int .i64 sa) (.slice ao a.length acap) (.int .i64 sb) (.slice bo b.length bcap) (.int .i64 sl) (.slice lo ll lc) (.int .i64 sd) (.slice od dl dc)∧OInv w wr D a b m p q qs left (.int .i64 sl) (.slice lo ll lc) (.int .i64 sd) (.slice od dl dc)) (fun _ i _=>(intOf i+1).toNat)
 case atStart=>exact⟨a.length,[],0,0,none,0,0,Nat.le_refl _,rfl,HO.out,HI.out⟩
 case round=>
  clear HO HI;obtain⟨p,qs,left,sl,lo,ll,lc,hp,rfl,HO,HI⟩:=hrel;have HO:=hide HO;have HI:=hide HI
  match p,hp,HI with
  | 0,_,HI=>
   have hsum:=HI.out.sum;rw [List.drop_zero] at hsum;have HSG':=hide (HSG.out (dv qs) left hsum.symm HI.out.le0 HI.out.le1);have hle0:=HI.out.le0;have hqdb:DB qs:=by obtain⟨_,_,_,_,_,h,_⟩:=HI.out.q;exact h
   have HZ:=hide (show sa*sb=1∨sa*sb=-1∨dv qs=0 by
    rcases HS1.out with⟨h1,h2⟩ |⟨-,h | h⟩
    ·exact .inr (.inr (zfH (by rw [← hsum] at h1;exact h1.symm) (zaK hqdb) hBp hle0))
    ·subst h;omega
    ·subst h;omega)
   have HZ':=hide (show sa=1∨sa=-1∨left=0 by
    rcases HS1.out with⟨h1,h2⟩ |⟨-,h | h⟩
    ·have h3:=zfH (by rw [← hsum] at h1;exact h1.symm) (zaK hqdb) hBp hle0;rw [h3] at hsum;exact .inr (.inr (by omega))
    ·exact .inl h
    ·exact .inr (.inl h))
   have hqlen:=HI.out.ql;have hmul:IntKind.i64.wrap (sa*sb)=sa*sb:=by rcases hsa3 with h | h | h <;> subst h <;> rcases hsb1 with h | h <;> subst h <;> decide
   obtain⟨a0,a1,-,-⟩:=HO.out.a.box;obtain⟨b0,b1,-,-⟩:=HO.out.b.box;clear hsum;go_wp2_with fail;try rw [hmul]
   refine(zao wr (sa*sb) _ qs HI.out.q HZ.out).mono ?_;rintro e w1 ⟨r1,rfl,hr1,hb1⟩;obtain⟨sq,oq,lq,cq,rfl,-⟩:=hr1.form;have HR1:=hide (hr1.mono (show qs.length≤n+5 by omega));have HB1:=hide hb1;have HBA:Hid (Below w1.heap.size w1 (w1.alloc (.cells #[.int .i64 sq,.slice oq lq cq] 76))):=(zB _ _).alloc zL _;have H2:=hide ((HO.out.later hb1).later HBA.out);obtain⟨ds,hds,hdv,hdl⟩:=HI.out.num.mag hle0;have HDS:=hide ((hds.below hb1 zL).below HBA.out zL);clear hr1 hb1 a0 a1 b0 b1 hds;obtain⟨a0,a1,-,-⟩:=H2.out.a.box;obtain⟨l0,l1,-,-⟩:=H2.out.l.box;go_wp2_with fail;refine(zao _ sa _ ds HDS.out (by rw [hdv];exact HZ'.out)).mono ?_;rintro e w2 ⟨r2,rfl,hr2,hb2⟩;rw [hdv] at hr2;obtain⟨sr,or,lr,cr,rfl,-⟩:=hr2.form;have hf:=ziy HO.out HB1.out rfl (by simpa using hb2) rfl HNB.out HR1.out (hr2.mono hdl);have hsg:=hf.nr.sign;have hsm:=zjv hsg hsa3 hle0 hsb1;have hsr:sr=0∨sr=1∨sr=-1:=by omega
   have HF:=hide hf;have HSM:=hide hsm;obtain⟨e0,e1,-,-⟩:=hf.e.box;obtain⟨f0,f1,-,-⟩:=hf.h.box;obtain⟨b0,b1,-,-⟩:=hf.b.box;clear hr2 hb2 HB1 HBA H2 HDS HR1 a0 a1 l0 l1 hf hsg hsm;by_cases hfix:sr≠0∧sr≠sb
   ·have hx1:(sr==0)=false:=by simp [hfix.1]
    have hx2:(sr==sb)=false:=by simp [hfix.2]
    have hx3:(sr != 0)=true:=by simp [hfix.1]
    have hx4:(sr != sb)=true:=by simp [hfix.2]
    have hg:=HSM.out.2 hfix.1 hfix.2;have hR:=HSG'.out.2.2 hg.1 hg.2;have HRX:=hide hR;have HFT:=hide (zh4 hR.2 hy (zeY HNB.out));clear HSG' HSM hg hR hfix;go_wp2_with fail;generalize w2.alloc (.cells #[.int .i64 sr,.slice or lr cr] 76)=W2 at *;generalize w1.heap.size=E at *;generalize w2.heap.size=H at *;refine zy (S:=(fun w'=>w'.cell? ⟨E,0,none⟩=some (.int .i64 sq)∧w'.cell? ⟨E,1,none⟩=some (.slice oq lq cq))) (k:=3) (by kernel_rfl) (by(try dsimp only);go_keep) (fun hHeld=>?_);refine zf 0 87 [2,3] ?_;try simp only [zA]
    refine zg 1 (by kernel_rfl) rfl (fun K hK=>?_);go_simp
    (refine(zaj _ 1 (by omega) (by omega)).mono ?_;rintro e w3 ⟨r2,rfl,hr2,hb⟩;have HR2:=hide hr2;clear hr2;have h3:=hide (HF.out.drew.later hb);clear hb;obtain⟨k30,k31,k32,k33⟩:=h3.out.e.box)
    go_wp2_with fail;refine hK.out _ _ (fun _=>by(try dsimp only);go_keep) ?_;clear hK K;try simp only [zA]
    refine zg 2 (by kernel_rfl) rfl (fun K hK=>?_);go_simp
    (refine(zcl _ _ _ (sa*sb*dv qs) 1 (n+5) h3.out.nq (HR2.out.mono (by omega)) (by omega)).mono ?_;rintro e w4 ⟨r3,rfl,hr3,hb⟩;have HR3:=hide hr3;obtain⟨s3,o3,l3,c3,rfl,-⟩:=hr3.form;clear hr3;have h4:=hide (h3.out.later hb);clear hb;obtain⟨k40,k41,k42,k43⟩:=h4.out.e.box)
    go_wp2_with fail;refine hK.out _ _ (fun _=>by(try dsimp only);go_keep) ?_;clear hK K;try simp only [zA]
    refine zg 3 (by kernel_rfl) rfl (fun K hK=>?_);go_simp;refine hK.out _ _ (fun h=>absurd h (by decide)) ?_;clear hK K;try simp only [zA]
    refine zx (by kernel_rfl) ?_;have HF4:=hide (h4.out.setE HR3.out);clear h3 h4 HR2 HR3 e0 e1 f0 f1 b0 b1 hHeld k30 k31 k32 k33 k40 k41 k42 k43 HF;generalize (w4.setCell ⟨E,0,none⟩ (.int .i64 s3)).setCell ⟨E,1,none⟩ (.slice o3 l3 c3)=W4 at *;obtain⟨f0,f1,-,-⟩:=HF4.out.h.box;obtain⟨b0,b1,-,-⟩:=HF4.out.b.box;go_wp2_with fail;refine(zcy W4 _ _ (sa*left) y m HF4.out.nr HF4.out.ny (by omega)).mono ?_;rintro e w5 ⟨r5,rfl,hr5,hb5⟩;have h5:=hide (HF4.out.later hb5);replace hr5:=hr5.fits (m:=m) HFT.out.1 HFT.out.2;obtain⟨s5,o5,l5,c5,rfl,-⟩:=hr5.form;have HF6:=hide (h5.out.setH hr5);obtain⟨f2,f3,f4,f5⟩:=h5.out.h.box;clear hr5 hb5 f0 f1 b0 b1 h5 HF4;obtain⟨e0,e1,-,-⟩:=HF6.out.e.box;obtain⟨f0,f1,-,-⟩:=HF6.out.h.box;obtain⟨g0,g1,g2,g3⟩:=HF6.out.br.box;obtain⟨t0,t1,t2,t3⟩:=HF6.out.bs.box;go_wp2_with fail;generalize (w5.setCell ⟨H,0,none⟩ (.int .i64 s5)).setCell ⟨H,1,none⟩ (.slice o5 l5 c5)=W6 at *;have n1:¬(w.heap.size+1+1=w.heap.size+1+1+1):=by omega
    have n2:¬(w.heap.size+1+1+1=w.heap.size+1+1):=by omega
    have ne1:E≠w.heap.size+1+1:=by have:=HF6.out.hE;omega
    have ne2:H≠w.heap.size+1+1:=by have:=HF6.out.hE;have:=HF6.out.hH;omega
    refine zy (S:=(fun w'=>w'.cell? ⟨E,0,none⟩=some (.int .i64 s3)∧w'.cell? ⟨E,1,none⟩=some (.slice o3 l3 c3)∧w'.cell? ⟨H,0,none⟩=some (.int .i64 s5)∧w'.cell? ⟨H,1,none⟩=some (.slice o5 l5 c5))) (k:=3) (by kernel_rfl) (by(try dsimp only);go_keep) (fun hHeld=>?_);refine zf 0 93 [3] ?_;try simp only [zA]
    refine zf 1 94 [3] ?_;try simp only [zA]
    refine zg 2 (by kernel_rfl) rfl (fun K hK=>?_);go_simp;refine hK.out _ _ (fun _=>by exact⟨((HF6.out.e.other ne1 0 _).other ne1 1 _).box.1,((HF6.out.e.other ne1 0 _).other ne1 1 _).box.2.1,((HF6.out.h.other ne2 0 _).other ne2 1 _).box.1,((HF6.out.h.other ne2 0 _).other ne2 1 _).box.2.1⟩) ?_;clear hK K;try simp only [zA]
    refine zg 3 (by kernel_rfl) rfl (fun K hK=>?_);go_simp;refine hK.out _ _ (fun h=>absurd h (by decide)) ?_;clear hK K;try simp only [zA]
    refine zx (by kernel_rfl) ?_;have HE:=hide (HF6.out.give HRX.out.1 HRX.out.2);have q0:BoxR ((((W6.setCell ⟨w.heap.size+1+1,0,none⟩ (.int .i64 s3)).setCell ⟨w.heap.size+1+1,1,none⟩ (.slice o3 l3 c3)).setCell ⟨w.heap.size+1+1+1,0,none⟩ (.int .i64 s5)).setCell ⟨w.heap.size+1+1+1,1,none⟩ (.slice o5 l5 c5)) (w.heap.size+1+1) (.int .i64 s3) (.slice o3 l3 c3):=((HF6.out.br.set _ _).other (by omega) _ _).other (by omega) _ _;have q1:BoxR ((((W6.setCell ⟨w.heap.size+1+1,0,none⟩ (.int .i64 s3)).setCell ⟨w.heap.size+1+1,1,none⟩ (.slice o3 l3 c3)).setCell ⟨w.heap.size+1+1+1,0,none⟩ (.int .i64 s5)).setCell ⟨w.heap.size+1+1+1,1,none⟩ (.slice o5 l5 c5)) (w.heap.size+1+1+1) (.int .i64 s5) (.slice o5 l5 c5):=((HF6.out.bs.other (by omega) _ _).other (by omega) _ _).set _ _;obtain⟨q00,q01,-,-⟩:=q0.box;obtain⟨q10,q11,-,-⟩:=q1.box;clear q0 q1 HF6;go_wp2;exact bodyPost_ret (v:=.tuple #[.agg #[.int .i64 s3,.slice o3 l3 c3],.agg #[.int .i64 s5,.slice o5 l5 c5]]) (by simp [results,Tryz.results45,go_sem,q00,q01,q10,q11]) rfl HE.out.drew
   ·have hR:=HSG'.out.2.1 (HSM.out.1 (by omega));have HRX:=hide (show x=sa*sb*dv qs*y+sa*left∧Left (sa*left) y from⟨HSG'.out.1,hR⟩);have hx:sr=0∨(sr≠0∧sr=sb):=by omega
    clear HSG' HSM hR hfix;obtain⟨g0,g1,g2,g3⟩:=HF.out.br.box;obtain⟨t0,t1,t2,t3⟩:=HF.out.bs.box;have n1:¬(w.heap.size+1+1=w.heap.size+1+1+1):=by omega
    have n2:¬(w.heap.size+1+1+1=w.heap.size+1+1):=by omega
    rcases hx with hx |⟨hx,hx'⟩
    ·subst hx;go_wp2_with fail;generalize w2.alloc (.cells #[.int .i64 0,.slice or lr cr] 76)=W6 at *;generalize w1.heap.size=E at *;generalize w2.heap.size=H at *;have ne1:E≠w.heap.size+1+1:=by have:=HF.out.hE;omega
     have ne2:H≠w.heap.size+1+1:=by have:=HF.out.hE;have:=HF.out.hH;omega
     refine zy (S:=(fun w'=>w'.cell? ⟨E,0,none⟩=some (.int .i64 sq)∧w'.cell? ⟨E,1,none⟩=some (.slice oq lq cq)∧w'.cell? ⟨H,0,none⟩=some (.int .i64 0)∧w'.cell? ⟨H,1,none⟩=some (.slice or lr cr))) (k:=3) (by kernel_rfl) (by(try dsimp only);go_keep) (fun hHeld=>?_);refine zf 0 93 [3] ?_;try simp only [zA]
     refine zf 1 94 [3] ?_;try simp only [zA]
     refine zg 2 (by kernel_rfl) rfl (fun K hK=>?_);go_simp;refine hK.out _ _ (fun _=>by exact⟨((HF.out.e.other ne1 0 _).other ne1 1 _).box.1,((HF.out.e.other ne1 0 _).other ne1 1 _).box.2.1,((HF.out.h.other ne2 0 _).other ne2 1 _).box.1,((HF.out.h.other ne2 0 _).other ne2 1 _).box.2.1⟩) ?_;clear hK K;try simp only [zA]
     refine zg 3 (by kernel_rfl) rfl (fun K hK=>?_);go_simp;refine hK.out _ _ (fun h=>absurd h (by decide)) ?_;clear hK K;try simp only [zA]
     refine zx (by kernel_rfl) ?_;have HE:=hide ((HF.out.mono (show n+5≤n+6 by omega)).give HRX.out.1 HRX.out.2);have q0:BoxR ((((W6.setCell ⟨w.heap.size+1+1,0,none⟩ (.int .i64 sq)).setCell ⟨w.heap.size+1+1,1,none⟩ (.slice oq lq cq)).setCell ⟨w.heap.size+1+1+1,0,none⟩ (.int .i64 0)).setCell ⟨w.heap.size+1+1+1,1,none⟩ (.slice or lr cr)) (w.heap.size+1+1) (.int .i64 sq) (.slice oq lq cq):=((HF.out.br.set _ _).other (by omega) _ _).other (by omega) _ _;have q1:BoxR ((((W6.setCell ⟨w.heap.size+1+1,0,none⟩ (.int .i64 sq)).setCell ⟨w.heap.size+1+1,1,none⟩ (.slice oq lq cq)).setCell ⟨w.heap.size+1+1+1,0,none⟩ (.int .i64 0)).setCell ⟨w.heap.size+1+1+1,1,none⟩ (.slice or lr cr)) (w.heap.size+1+1+1) (.int .i64 0) (.slice or lr cr):=((HF.out.bs.other (by omega) _ _).other (by omega) _ _).set _ _;obtain⟨q00,q01,-,-⟩:=q0.box;obtain⟨q10,q11,-,-⟩:=q1.box;clear q0 q1 HF;go_wp2;exact bodyPost_ret (v:=.tuple #[.agg #[.int .i64 sq,.slice oq lq cq],.agg #[.int .i64 0,.slice or lr cr]]) (by simp [results,Tryz.results45,go_sem,q00,q01,q10,q11]) rfl HE.out.drew
    ·subst hx';have hx1:(sr==0)=false:=by simp [hx]
     have hx3:(sr != 0)=true:=by simp [hx]
     go_wp2_with fail;generalize w2.alloc (.cells #[.int .i64 sr,.slice or lr cr] 76)=W6 at *;generalize w1.heap.size=E at *;generalize w2.heap.size=H at *;have ne1:E≠w.heap.size+1+1:=by have:=HF.out.hE;omega
     have ne2:H≠w.heap.size+1+1:=by have:=HF.out.hE;have:=HF.out.hH;omega
     refine zy (S:=(fun w'=>w'.cell? ⟨E,0,none⟩=some (.int .i64 sq)∧w'.cell? ⟨E,1,none⟩=some (.slice oq lq cq)∧w'.cell? ⟨H,0,none⟩=some (.int .i64 sr)∧w'.cell? ⟨H,1,none⟩=some (.slice or lr cr))) (k:=3) (by kernel_rfl) (by(try dsimp only);go_keep) (fun hHeld=>?_);refine zf 0 93 [3] ?_;try simp only [zA]
     refine zf 1 94 [3] ?_;try simp only [zA]
     refine zg 2 (by kernel_rfl) rfl (fun K hK=>?_);go_simp;refine hK.out _ _ (fun _=>by exact⟨((HF.out.e.other ne1 0 _).other ne1 1 _).box.1,((HF.out.e.other ne1 0 _).other ne1 1 _).box.2.1,((HF.out.h.other ne2 0 _).other ne2 1 _).box.1,((HF.out.h.other ne2 0 _).other ne2 1 _).box.2.1⟩) ?_;clear hK K;try simp only [zA]
     refine zg 3 (by kernel_rfl) rfl (fun K hK=>?_);go_simp;refine hK.out _ _ (fun h=>absurd h (by decide)) ?_;clear hK K;try simp only [zA]
     refine zx (by kernel_rfl) ?_;have HE:=hide ((HF.out.mono (show n+5≤n+6 by omega)).give HRX.out.1 HRX.out.2);have q0:BoxR ((((W6.setCell ⟨w.heap.size+1+1,0,none⟩ (.int .i64 sq)).setCell ⟨w.heap.size+1+1,1,none⟩ (.slice oq lq cq)).setCell ⟨w.heap.size+1+1+1,0,none⟩ (.int .i64 sr)).setCell ⟨w.heap.size+1+1+1,1,none⟩ (.slice or lr cr)) (w.heap.size+1+1) (.int .i64 sq) (.slice oq lq cq):=((HF.out.br.set _ _).other (by omega) _ _).other (by omega) _ _;have q1:BoxR ((((W6.setCell ⟨w.heap.size+1+1,0,none⟩ (.int .i64 sq)).setCell ⟨w.heap.size+1+1,1,none⟩ (.slice oq lq cq)).setCell ⟨w.heap.size+1+1+1,0,none⟩ (.int .i64 sr)).setCell ⟨w.heap.size+1+1+1,1,none⟩ (.slice or lr cr)) (w.heap.size+1+1+1) (.int .i64 sr) (.slice or lr cr):=((HF.out.bs.other (by omega) _ _).other (by omega) _ _).set _ _;obtain⟨q00,q01,-,-⟩:=q0.box;obtain⟨q10,q11,-,-⟩:=q1.box;clear q0 q1 HF;go_wp2;exact bodyPost_ret (v:=.tuple #[.agg #[.int .i64 sq,.slice oq lq cq],.agg #[.int .i64 sr,.slice or lr cr]]) (by simp [results,Tryz.results45,go_sem,q00,q01,q10,q11]) rfl HE.out.drew
  | p+1,hp,HI=>
   have hpa:p<a.length:=by omega
   obtain⟨ab,aoff,rfl,hbw,hcell⟩:=HC.out p hpa;have hdg:=adb p;have HDR:=hide (show dv (a.drop p)=a.getD p 0+10000*dv (a.drop (p+1)) by rw [zE a p hpa];rfl);generalize a.getD p 0=dg at *;have hcw:=(HO.out.below.cell (p:=⟨ab,aoff+p,none⟩) hbw).trans hcell;obtain⟨l0,l1,-,-⟩:=HO.out.l.box;obtain⟨a0,a1,-,-⟩:=HO.out.a.box;have hi1:((p+1:Nat):Int)-1=(p:Int):=by omega
   rw [hi1];clear hi1;have HNM:=hide HI.out.num;have HSZ:=hide HI.out.siz;have HQ:=hide HI.out.q;have HQL:=hide HI.out.ql;have HE0:=hide HI.out.e0;have HSUM:=hide HI.out.sum;have hle0:=HI.out.le0;have hle1:=HI.out.le1;have HFT:=hide (ziS HBM.out hle0 hle1 hdg);have HB1:Hid (Below wr.heap.size wr (wr.drew.alloc (.cells #[.int .i64 0,.int .i64 1] 3))):=((zB wr.heap.size wr).drew).alloc zL _;have HT4:=hide (ten4 (heap_alloc_new wr.drew (.cells #[.int .i64 0,.int .i64 1] 3)));have H1:=hide (HO.out.later HB1.out);clear HI;go_wp2_with fail;refine zy (S:=(fun w'=>w'.cell? ⟨w.heap.size+1+1+1+1,0,none⟩=some (.int .i64 sl)∧w'.cell? ⟨w.heap.size+1+1+1+1,1,none⟩=some (.slice lo ll lc)∧w'.cell? ⟨w.heap.size,0,none⟩=some (.int .i64 sa)∧w'.cell? ⟨w.heap.size,1,none⟩=some (.slice (some ⟨ab,aoff,none⟩) a.length acap)∧w'.cell? ⟨ab,aoff+p,none⟩=some (.int .i64 dg))) (k:=11) (by kernel_rfl) (by(try dsimp only);go_keep) (fun hHeld=>?_);refine zf 0 27 [3,10,11] ?_;try simp only [zA]
   refine zf 4 31 [5,7,8,9,10,11] ?_;try simp only [zA]
   refine zf 5 32 [7,8,9,10,11] ?_;try simp only [zA]
   refine zf 6 33 [7,8,9,10,11] ?_;try simp only [zA]
   refine zf 7 34 [8,9,10,11] ?_;try simp only [zA]
   refine zf 8 35 [9,10,11] ?_;try simp only [zA]
   refine zg 1 (by kernel_rfl) rfl (fun K hK=>?_);go_simp;refine hK.out _ _ (fun _=>by(try dsimp only);go_keep) ?_;clear hK K;try simp only [zA]
   have hHeld1:(fun w'=>w'.cell? ⟨w.heap.size+1+1+1+1,0,none⟩=some (.int .i64 sl)∧w'.cell? ⟨w.heap.size+1+1+1+1,1,none⟩=some (.slice lo ll lc)∧w'.cell? ⟨w.heap.size,0,none⟩=some (.int .i64 sa)∧w'.cell? ⟨w.heap.size,1,none⟩=some (.slice (some ⟨ab,aoff,none⟩) a.length acap)∧w'.cell? ⟨ab,aoff+p,none⟩=some (.int .i64 dg)) (wr.drew.alloc (.cells #[.int .i64 0,.int .i64 1] 3)):=⟨H1.out.l.box.1,H1.out.l.box.2.1,H1.out.a.box.1,H1.out.a.box.2.1,(H1.out.below.cell (p:=⟨ab,aoff+p,none⟩) hbw).trans hcell⟩;refine zf 2 29 [3,10,11] ?_;try simp only [zA]
   refine zg 3 (by kernel_rfl) rfl (fun K hK=>?_);go_simp
   (refine(zaS _ _ _ left 10000 m 2 (HNM.out.below HB1.out zL) HT4.out (by omega) (by omega)).mono ?_;rintro e w2 ⟨r2,rfl,hr2,hb⟩;have HR2:=hide hr2;clear hr2;replace HSZ:=hide ((HSZ.out.below HB1.out zL).below hb zL);replace HQ:=hide ((HQ.out.below HB1.out zL).below hb zL);have h2:=hide (H1.out.later hb);clear hb;obtain⟨k20,k21,k22,k23⟩:=h2.out.l.box;obtain⟨m20,m21,-,-⟩:=h2.out.a.box;have c2:=(h2.out.below.cell (p:=⟨ab,aoff+p,none⟩) hbw).trans hcell)
   go_wp2_with fail;refine hK.out _ _ (fun _=>by(try dsimp only);go_keep) ?_;clear hK K;try simp only [zA]
   refine zg 9 (by kernel_rfl) rfl (fun K hK=>?_);go_simp
   (refine(zaj _ dg (by omega) (by omega)).mono ?_;rintro e w3 ⟨r3,rfl,hr3,hb⟩;have HR3:=hide hr3;clear hr3;replace HR2:=hide (HR2.out.below hb zL);replace HSZ:=hide (HSZ.out.below hb zL);replace HQ:=hide (HQ.out.below hb zL);have h3:=hide (h2.out.later hb);clear hb;obtain⟨k30,k31,k32,k33⟩:=h3.out.l.box;obtain⟨m30,m31,-,-⟩:=h3.out.a.box;have c3:=(h3.out.below.cell (p:=⟨ab,aoff+p,none⟩) hbw).trans hcell)
   go_wp2_with fail;refine hK.out _ _ (fun _=>by(try dsimp only);go_keep) ?_;clear hK K;try simp only [zA]
   refine zg 10 (by kernel_rfl) rfl (fun K hK=>?_);go_simp
   (refine(zcy _ _ _ _ _ (m+5) (HR2.out.mono (by omega)) (HR3.out.mono (by omega)) (by omega)).mono ?_;rintro e w4 ⟨r4,rfl,hr4,hb⟩;replace hr4:=hr4.fits (m:=m+1) HFT.out.1 HFT.out.2;have HR4:=hide hr4;obtain⟨s',lo',ll',lc',rfl,-⟩:=hr4.form;clear hr4;replace HSZ:=hide (HSZ.out.below hb zL);replace HQ:=hide (HQ.out.below hb zL);have h4:=hide (h3.out.later hb);clear hb;obtain⟨k40,k41,k42,k43⟩:=h4.out.l.box;obtain⟨m40,m41,-,-⟩:=h4.out.a.box;have c4:=(h4.out.below.cell (p:=⟨ab,aoff+p,none⟩) hbw).trans hcell)
   go_wp2_with fail;refine hK.out _ _ (fun _=>by(try dsimp only);go_keep) ?_;clear hK K;try simp only [zA]
   refine zg 11 (by kernel_rfl) rfl (fun K hK=>?_);go_simp;refine hK.out _ _ (fun h=>absurd h (by decide)) ?_;clear hK K;try simp only [zA]
   refine zx (by kernel_rfl) ?_;have h5:=hide (h4.out.setL (.int .i64 s') (.slice lo' ll' lc'));have HIN:Hid (OIn w _ D (.int .i64 sa) (.slice (some ⟨ab,aoff,none⟩) a.length acap) (.int .i64 sb) (.slice bo b.length bcap) m u6 qs (left*10000+dg) (dv b) (.int .i64 s') (.slice lo' ll' lc') (.int .i64 sd) (.slice od dl dc)):=
    ⟨h5.out,HR4.out.setCell h4.out.l _ _,HSZ.out.setCell h4.out.l _ _,HQ.out.setBox h4.out.l _ _⟩
   clear HNM HSZ HQ HT4 HB1 H1 h2 h3 h4 h5 HR2 HR3 HR4 HFT l0 l1 a0 a1 hcw hHeld hHeld1 HO;clear k20 k21 k22 k23 k30 k31 k32 k33 k40 k41 k42 k43 m20 m21 m30 m31 m40 m41 c2 c3 c4;go_wp2_with fail;generalize (w4.setCell ⟨w.heap.size+1+1+1+1,0,none⟩ (.int .i64 s')).setCell ⟨w.heap.size+1+1+1+1,1,none⟩ (.slice lo' ll' lc')=W5 at *;have HL0:=hide (show dv b*0≤left*10000+dg by simp;omega);have HL1:=hide (show left*10000+dg<dv b*10000 by omega);generalize hle:left*10000+dg=left' at HIN HL0 HL1;have HLE:=hide hle;clear hle;go_loopw [10,11] (fun vlo vhi w1=>∃(lo up:Int),vlo=.int .i64 lo∧vhi=.int .i64 up∧0≤lo∧lo<up∧up≤10000∧Hid (dv b*lo≤left')∧Hid (left'<dv b*up)∧Hid (OIn w w1 D (.int .i64 sa) (.slice (some ⟨ab,aoff,none⟩) a.length acap) (.int .i64 sb) (.slice bo b.length bcap) m u6 qs left' (dv b) (.int .i64 s') (.slice lo' ll' lc') (.int .i64 sd) (.slice od dl dc))) (fun vlo vhi _=>(intOf vhi-intOf vlo).toNat)
   case atStart=>exact⟨0,10000,rfl,rfl,by omega,by omega,by omega,HL0,HL1,HIN⟩
   case round=>
    clear HIN HL0 HL1;obtain⟨lo,up,rfl,rfl,hlo0,hlh,hhi,HL0,HL1,HIN⟩:=hrel;by_cases hgt:1<up-lo
    ·have hm4:(lo+up).tdiv 2=(lo+up)/2:=Int.tdiv_eq_ediv_of_nonneg (by omega);have hmid0:lo<(lo+up)/2:=by omega
     have hmid1:(lo+up)/2<up:=by omega
     obtain⟨l0,l1,-,-⟩:=HIN.out.st.l.box;obtain⟨d0,d1,-,-⟩:=HIN.out.st.d.box;go_wp2_with fail;generalize (lo+up)/2=mid at *
     go_region_held3 (fun w'=>w'.cell? ⟨w.heap.size+1+1+1+1,0,none⟩=some (.int .i64 s')∧w'.cell? ⟨w.heap.size+1+1+1+1,1,none⟩=some (.slice lo' ll' lc')∧w'.cell? ⟨D,0,none⟩=some (.int .i64 sd)∧w'.cell? ⟨D,1,none⟩=some (.slice od dl dc)) (go_keep)
      (first
       |(go_at_call 27;refine(zaj _ mid (by omega) (by omega)).mono ?_;rintro e w2 ⟨r2,rfl,hr2,hb⟩;have h2:=hide (HIN.out.drew.later hb);have HR2:=hide hr2;clear hr2 hb;obtain⟨k20,k21,-,-⟩:=h2.out.st.l.box;obtain⟨m20,m21,-,-⟩:=h2.out.st.d.box)
       |(go_at_call 63;refine(zaS _ _ _ (dv b) mid m 5 h2.out.siz HR2.out (by omega) (by omega)).mono ?_;rintro e w3 ⟨r3,rfl,hr3,hb⟩;have h3:=hide (h2.out.later hb);have HR3:=hide hr3;clear hr3 hb;obtain⟨k30,k31,-,-⟩:=h3.out.st.l.box;obtain⟨m30,m31,-,-⟩:=h3.out.st.d.box)
       |(go_at_call 65;refine(zgK _ _ _ (dv b*mid) left' _ _ HR3.out h3.out.num).mono ?_;rintro e w4 ⟨rfl,hb⟩;have h4:=hide (h3.out.later hb);clear hb;obtain⟨k40,k41,-,-⟩:=h4.out.st.l.box;obtain⟨m40,m41,-,-⟩:=h4.out.st.d.box))
     by_cases hc:dv b*mid≤left'
     ·have hcd:cmpI (dv b*mid) left'≤0:=(by unfold cmpI;repeat' split;all_goals omega);have HC1:=hide hc;clear HR2 HR3 h2 h3 hc;generalize cmpI (dv b*mid) left'=z at *;go_wp2;go_roundw
      case rel=>exact⟨mid,up,rfl,rfl,by omega,by omega,hhi,HC1,HL1,h4⟩
      case measure=>simp [intOf];omega
     ·have hcd:¬(cmpI (dv b*mid) left'≤0):=(by unfold cmpI;repeat' split;all_goals omega);have HC1:=hide (show left'<dv b*mid by omega);clear HR2 HR3 h2 h3 hc;generalize cmpI (dv b*mid) left'=z at *;go_wp2;go_roundw
      case rel=>exact⟨lo,mid,rfl,rfl,hlo0,by omega,by omega,HL0,HC1,h4⟩
      case measure=>simp [intOf];omega
    ·have hup:up=lo+1:=by omega
     subst hup;have HRM:=hide (show 0≤left'-dv b*lo∧left'-dv b*lo<dv b by have h1:=HL0.out;have h2:=HL1.out;rw [Int.mul_add,Int.mul_one] at h2;omega);have HFT:=hide (show -dp m<left'-dv b*lo∧left'-dv b*lo<dp m by have h1:=HRM.out;have h2:=HBM.out;omega);obtain⟨l0,l1,-,-⟩:=HIN.out.st.l.box;obtain⟨d0,d1,-,-⟩:=HIN.out.st.d.box;have hlw:lo+1-lo=1:=by omega
     go_wp2_with fail;refine zy (S:=(fun w'=>w'.cell? ⟨w.heap.size+1+1+1+1,0,none⟩=some (.int .i64 s')∧w'.cell? ⟨w.heap.size+1+1+1+1,1,none⟩=some (.slice lo' ll' lc')∧w'.cell? ⟨D,0,none⟩=some (.int .i64 sd)∧w'.cell? ⟨D,1,none⟩=some (.slice od dl dc))) (k:=6) (by kernel_rfl) (by(try dsimp only);go_keep) (fun hHeld=>?_);refine zf 0 55 [5,6] ?_;try simp only [zA]
     refine zf 1 56 [4,5,6] ?_;try simp only [zA]
     refine zf 2 57 [3,4,5,6] ?_;try simp only [zA]
     refine zg 3 (by kernel_rfl) rfl (fun K hK=>?_);go_simp
     (refine(zaj _ lo (by omega) (by omega)).mono ?_;rintro e w2 ⟨r2,rfl,hr2,hb⟩;have HR2:=hide hr2;clear hr2;have h2:=hide (HIN.out.drew.later hb);clear hb;obtain⟨k20,k21,k22,k23⟩:=h2.out.st.l.box;obtain⟨m20,m21,-,-⟩:=h2.out.st.d.box)
     go_wp2_with fail;refine hK.out _ _ (fun _=>by(try dsimp only);go_keep) ?_;clear hK K;try simp only [zA]
     refine zg 4 (by kernel_rfl) rfl (fun K hK=>?_);go_simp
     (refine(zaS _ _ _ (dv b) lo m 5 h2.out.siz HR2.out (by omega) (by omega)).mono ?_;rintro e w3 ⟨r3,rfl,hr3,hb⟩;have HR3:=hide hr3;clear hr3;have h3:=hide (h2.out.later hb);clear hb;obtain⟨k30,k31,k32,k33⟩:=h3.out.st.l.box;obtain⟨m30,m31,-,-⟩:=h3.out.st.d.box)
     go_wp2_with fail;refine hK.out _ _ (fun _=>by(try dsimp only);go_keep) ?_;clear hK K;try simp only [zA]
     refine zg 5 (by kernel_rfl) rfl (fun K hK=>?_);go_simp
     (refine(zcl _ _ _ left' (dv b*lo) (m+6) (h3.out.num.mono (by omega)) (HR3.out.mono (by omega)) (by omega)).mono ?_;rintro e w4 ⟨r4,rfl,hr4,hb⟩;replace hr4:=hr4.fits (m:=m) HFT.out.1 HFT.out.2;have HR4:=hide hr4;obtain⟨s'',lo'',ll'',lc'',rfl,-⟩:=hr4.form;clear hr4;have h4:=hide (h3.out.later hb);clear hb;obtain⟨k40,k41,k42,k43⟩:=h4.out.st.l.box;obtain⟨m40,m41,-,-⟩:=h4.out.st.d.box)
     go_wp2_with fail;refine hK.out _ _ (fun _=>by(try dsimp only);go_keep) ?_;clear hK K;try simp only [zA]
     refine zg 6 (by kernel_rfl) rfl (fun K hK=>?_);go_simp;refine hK.out _ _ (fun h=>absurd h (by decide)) ?_;clear hK K;try simp only [zA]
     refine zx (by kernel_rfl) ?_;have HO9:=hide (h4.out.st.setL (.int .i64 s'') (.slice lo'' ll'' lc''));have HL9:=hide (HR4.out.setCell h4.out.st.l (.int .i64 s'') (.slice lo'' ll'' lc''));have HZ9:=hide (h4.out.siz.setCell h4.out.st.l (.int .i64 s'') (.slice lo'' ll'' lc''));have HQ9:=hide (h4.out.q.setBox h4.out.st.l (.int .i64 s'') (.slice lo'' ll'' lc''));clear h2 h3 h4 HR2 HR3 HR4 HIN l0 l1 d0 d1 hHeld k20 k21 k22 k23 k30 k31 k32 k33 k40 k41 k42 k43 m20 m21 m30 m31 m40 m41;generalize (w4.setCell ⟨w.heap.size+1+1+1+1,0,none⟩ (.int .i64 s'')).setCell ⟨w.heap.size+1+1+1+1,1,none⟩ (.slice lo'' ll'' lc'')=W9 at *;have HOW:Hid ((W9.alloc (.cells #[.int .i64 lo] 3)).ownsRow W9.heap.size 3 1 (.slice (some ⟨W9.heap.size,0,none⟩) 1 1) 1 [.int .i64 lo]):=World.ownsRow_lit W9 #[.int .i64 lo] 1 zL (by decide) (by simp);have hbA:Hid (Below W9.heap.size W9 (W9.alloc (.cells #[.int .i64 lo] 3))):=(zB _ _).alloc zL _;have hqlen:=HQL.out;have HDB:=hide (show DB (lo::qs) from zbX (by omega) (by obtain⟨_,_,_,_,_,h,_⟩:=HQ9.out;exact h));by_cases hq0:qs.length=0
     ·obtain rfl:=HE0.out hq0;obtain rfl:qs=[]:=List.eq_nil_of_length_eq_zero hq0;have HN:=hide (zeZ (w:=w) (D:=D) hpa HQL.out HSUM.out HLE.out HDR.out (Dig.owns HOW.out HDB.out (by simp)) HRM.out (HL9.out.below hbA.out zL) (HZ9.out.below hbA.out zL));have HO':=hide (HO9.out.later hbA.out);clear HL9 HZ9 HQ9 HO9;go_wp2_with (at_builtin;refine wpList_append_own_none rfl _ _ 28 rfl W9.heap.size 3 i0 1 Tryz.underlying28 hi (.slice (some ⟨W9.heap.size,0,none⟩) 1 1) 1 [.int .i64 lo] rfl HOW.out rfl ?_);go_wp2;go_roundw
      case rel=>exact⟨p,_,_,_,_,_,_,by omega,by go_num,HO'.out,HN.out⟩
      case measure=>simp [intOf]
     ·obtain⟨qb,qoff,qcap,rfl⟩:=HQ9.out.form (by omega);have HNW:=hide ((HQ9.out.below hbA.out zL).news (by omega));have hq1:0<qs.length:=by omega
      go_wp2_with (at_builtin;refine wpList_append_lies _ rfl _ _ 28 rfl W9.heap.size 3 i0 (.int .i64 0) 1 8 Tryz.underlying28 hi hz0 hz1 hz2 rfl (by decide) (.slice (some ⟨W9.heap.size,0,none⟩) 1 1) 1 [.int .i64 lo] rfl HOW.out ⟨qb,qoff,none⟩ qs.length qcap (qs.map (Value.int .i64)) rfl (by simp) HNW.out (fun u hu=>by obtain⟨z,-,rfl⟩:=List.mem_map.1 hu;rfl) hq1 (by unfold maxLen;omega) (by omega) (by simp) (W9.heap.size+1) (by simp) ?_);intro g cap' w3 hown3 hgrow3 hat3 hlt3;have hb3:Below W9.heap.size W9 w3:=hbA.out.grown hgrow3 (by simp) (fun k hk=>(HOW.out.lt k hk).1);have HN:=hide (zeZ (w:=w) (D:=D) hpa HQL.out HSUM.out HLE.out HDR.out (Dig.owns (ds:=lo::qs) (by simpa using hown3) HDB.out (by simp;omega)) HRM.out (HL9.out.below hb3 zL) (HZ9.out.below hb3 zL));have HO':=hide (HO9.out.later hb3);clear HL9 HZ9 HQ9 HO9 hown3 hgrow3 hat3 hlt3 hb3 HNW HOW;go_wp2;go_roundw
      case rel=>exact⟨p,_,_,_,_,_,_,by omega,by go_num,HO'.out,HN.out⟩
      case measure=>simp [intOf]
end Go.Proofs.YtncamilanceahaaGreat
