import Derived.Test.YtncamilanceahaaGreatVecX
set_option maxRecDepth 100000
set_option maxHeartbeats 4000000
namespace Go.Proofs.YtncamilanceahaaGreat
open Go.RowKit Limbs
variable{w:World}
theorem NumL.sgn{neg:Bool}{s:Value}{z:Int}{n:Nat}(h:NumL w (.agg #[.bool neg,s]) z n):(neg=true→z<0)∧(neg=false→0≤z):=by
 obtain⟨neg',s',zs,e,hl,hn,h0,hz,-⟩:=h;simp only [Value.agg.injEq,Array.mk.injEq,List.cons.injEq,Value.bool.injEq,and_true] at e;obtain⟨rfl,rfl⟩:=e;have hlb:LB zs:=by obtain⟨_,_,_,_,_,h,_⟩:=hl;exact h
 have hp:=zF hlb;have hz0:=zbe hlb hn;constructor
 ·intro e;subst e;have:zs.length≠0:=fun h=>by simpa using h0 h
  have:lv zs≠0:=fun h=>this (hz0.1 h);simp at hz;omega
 ·intro e;subst e;simp at hz;omega
theorem zjT{W:World}{a0 a1 b0 b1:Value}(h:Two w W a0 a1 b0 b1)(k:Nat)(v0 v1:Value):Two w ((W.setCell ⟨w.heap.size+2,k*2,none⟩ v0).setCell ⟨w.heap.size+2,k*2+1,none⟩ v1) a0 a1 b0 b1:=
 ⟨(h.fst.other (by omega) _ _).other (by omega) _ _,(h.res.other (by omega) _ _).other (by omega) _ _,(h.below.setCell (by simp) _).setCell (by simp) _,by simpa using h.size⟩
theorem zdc (w:World)(vx va vy vb:Value)(x y:Int)(us vs:List Int)(nx na ny nb m:Nat)(hx:NumL w vx x nx)(ha:VecN w va us na)(hy:NumL w vy y ny)(hb:VecN w vb vs nb)(hl:us.length=vs.length)(h8:us.length≤1000)
  (h1:nx+na≤m) (h2:ny+nb≤m) (hm:m≤400000):
  Calls Tryz.prog 79 #[vx,va,vy,vb] w fun e w'=>VecPost w (List.zipWith (fun p q=>x*p+y*q) us vs) (m+1) e w':=by
 have HA:=hide ha;have HB:=hide hb;have HX:=hide hx;have HY:=hide hy;have hlt:=zz (fun p q=>x*p+y*q) us vs hl;have HZ:=hide (zp (fun p q=>x*p+y*q) us vs hl);obtain⟨⟨xn,xo,xl,xc⟩,rfl⟩:=hx.nm;obtain⟨⟨yn,yo,yl,yc⟩,rfl⟩:=hy.nm;obtain⟨ao,acap,rfl,-,-⟩:=ha;obtain⟨bo,bcap,rfl,-,-⟩:=hb;clear hx hy;have HL:=hide hl;clear hl;have hmk:=zds us.length (by omega);have hT:=two w (.bool xn) (.slice xo xl xc) (.bool yn) (.slice yo yl yc) 90 90;have HI:Hid (VecO w (((w.alloc (.cells #[.bool xn,.slice xo xl xc] 90)).alloc (.cells #[.bool yn,.slice yo yl yc] 90)).alloc (.cells (madeCells #[.bool false,.slice none 0 0] (us.length*2)) 90)) (w.heap.size+2) (List.replicate (List.zipWith (fun p q=>x*p+y*q) us vs).length 0) (m+1)):=by
  rw [hlt];have:=VecO.made w ((w.alloc (.cells #[.bool xn,.slice xo xl xc] 90)).alloc (.cells #[.bool yn,.slice yo yl yc] 90)) hT.below us.length (m+1)
  rwa [World.size_alloc,World.size_alloc] at this
 have HTW:=hide (hT.later ((zB _ _).alloc zL (.cells (madeCells #[.bool false,.slice none 0 0] (us.length*2)) 90)));have HPOST:Hid (∀ W,VecO w W (w.heap.size+2) (List.zipWith (fun p q=>x*p+y*q) us vs) (m+1)→VecPost w (List.zipWith (fun p q=>x*p+y*q) us vs) (m+1) (.returned (.slice (some ⟨w.heap.size+2,0,none⟩) us.length us.length)) W):=fun W h=>⟨_,by rw [hlt],h⟩;clear hT;generalize List.zipWith (fun p q=>x*p+y*q) us vs=ts at *;go_enter Tryz.func79,Tryz.ntmps79;go_wp2;clear hmk;go_loopw [16] (fun i wr=>∃ k:Nat,k≤us.length∧i=.int .i64 k∧VecO w wr (w.heap.size+2) (ts.take k++List.replicate (ts.length-k) 0) (m+1)∧Hid (Two w wr (.bool xn) (.slice xo xl xc) (.bool yn) (.slice yo yl yc))) (fun i _=>us.length-(intOf i).toNat)
 case atStart=>exact⟨0,Nat.zero_le _,rfl,HI.out,HTW⟩
 case round=>
  clear HI HTW;obtain⟨k,hk,rfl,hinv,HTW⟩:=hrel;have HI:=hide hinv;clear hinv;by_cases hkl:k<us.length
  ·obtain⟨ab,aoff,_,e⟩:=HA.out.form (by omega);simp only [zV,true_and] at e;obtain⟨rfl,rfl⟩:=e;obtain⟨bb,boff,_,e⟩:=HB.out.form (by have:=HL.out;omega);simp only [zV,true_and] at e;obtain⟨rfl,rfl⟩:=e;have hky:k<vs.length:=by have:=HL.out;omega
   obtain⟨la,an,ao,al,ac,a2,a3,na'⟩:=(HA.out.below HI.out.below zL).at k hkl;obtain⟨lb,bn,bo,bl,bc,a6,a7,nb'⟩:=(HB.out.below HI.out.below zL).at k hky;have NA:=hide na';have NB:=hide nb';obtain⟨a0,a1,-,-⟩:=HTW.out.fst;obtain⟨a4,a5,-,-⟩:=HTW.out.res;have lx:w.heap.size<wr.heap.size:=by have:=HTW.out.size;omega
   have ly:w.heap.size+1<wr.heap.size:=HTW.out.size;have NX:NumL wr (.agg #[.bool xn,.slice xo xl xc]) x nx:=HX.out.below HI.out.below zL;have NY:NumL wr (.agg #[.bool yn,.slice yo yl yc]) y ny:=HY.out.below HI.out.below zL;have HFS:=hide (zcV ts k (by omega));rw [HZ.out k hkl] at HFS;have hfl:=zcU ts k (by omega);clear na' nb';generalize us.getD k 0=p at *;generalize vs.getD k 0=q at *;go_wp2_with fail;refine zy (S:=(fun w'=>w'.cell? ⟨w.heap.size,0,none⟩=some (.bool xn)∧w'.cell? ⟨w.heap.size,1,none⟩=some (.slice xo xl xc)∧w'.cell? ⟨ab,aoff+k*2,none⟩=some (.bool an)∧w'.cell? ⟨ab,aoff+k*2+1,none⟩=some (.slice ao al ac)∧w'.cell? ⟨w.heap.size+1,0,none⟩=some (.bool yn)∧w'.cell? ⟨w.heap.size+1,1,none⟩=some (.slice yo yl yc)∧w'.cell? ⟨bb,boff+k*2,none⟩=some (.bool bn)∧w'.cell? ⟨bb,boff+k*2+1,none⟩=some (.slice bo bl bc))) (k:=16) (by kernel_rfl) (by(try dsimp only);go_keep) (fun hHeld=>?_);refine zf 0 19 [15,16] ?_;try simp only [zA]
   refine zf 1 20 [15,16] ?_;try simp only [zA]
   refine zf 2 21 [7,14,16] ?_;try simp only [zA]
   refine zf 3 22 [5,6,7,14,16] ?_;try simp only [zA]
   refine zf 4 23 [5,6,7,14,16] ?_;try simp only [zA]
   refine zf 5 24 [6,7,14,16] ?_;try simp only [zA]
   refine zf 6 25 [7,14,16] ?_;try simp only [zA]
   refine zf 8 27 [13,14,16] ?_;try simp only [zA]
   refine zf 9 28 [11,12,13,14,16] ?_;try simp only [zA]
   refine zf 10 29 [11,12,13,14,16] ?_;try simp only [zA]
   refine zf 11 30 [12,13,14,16] ?_;try simp only [zA]
   refine zf 12 31 [13,14,16] ?_;try simp only [zA]
   refine zg 7 (by kernel_rfl) rfl (fun K hK=>?_);go_simp
   (refine(zbK _ _ _ x p nx na (by exact NX) (by exact NA.out) (by omega) (by omega)).mono ?_;rintro e w2 ⟨r2,rfl,hr2,hb⟩;have b0:=(hb.cell (p:=⟨w.heap.size,0,none⟩) lx).trans a0;have b1:=(hb.cell (p:=⟨w.heap.size,1,none⟩) lx).trans a1;have b2:=(hb.cell (p:=⟨ab,aoff+k*2,none⟩) la).trans a2;have b3:=(hb.cell (p:=⟨ab,aoff+k*2+1,none⟩) la).trans a3;have b4:=(hb.cell (p:=⟨w.heap.size+1,0,none⟩) ly).trans a4;have b5:=(hb.cell (p:=⟨w.heap.size+1,1,none⟩) ly).trans a5;have b6:=(hb.cell (p:=⟨bb,boff+k*2,none⟩) lb).trans a6;have b7:=(hb.cell (p:=⟨bb,boff+k*2+1,none⟩) lb).trans a7;have HR2:=hide hr2;have HI2:=hide (HI.out.drew.later hb);have HTW2:=hide (HTW.out.drew.later hb);have NY2:=hide (NY.below (drewed hb) zL);have NB2:=hide (NB.out.below (drewed hb) zL);have hs2:=hb.size;clear hr2 hb)
   go_wp2_with fail;refine hK.out _ _ (fun _=>by(try dsimp only);go_keep) ?_;clear hK K;try simp only [zA]
   refine zg 13 (by kernel_rfl) rfl (fun K hK=>?_);go_simp
   (refine(zbK _ _ _ y q ny nb (by exact NY2.out) (by exact NB2.out) (by omega) (by omega)).mono ?_;rintro e w3 ⟨r3,rfl,hr3,hb⟩;have c0:=(hb.cell (p:=⟨w.heap.size,0,none⟩) (zT lx hs2)).trans b0;have c1:=(hb.cell (p:=⟨w.heap.size,1,none⟩) (zT lx hs2)).trans b1;have c2:=(hb.cell (p:=⟨ab,aoff+k*2,none⟩) (zT la hs2)).trans b2;have c3:=(hb.cell (p:=⟨ab,aoff+k*2+1,none⟩) (zT la hs2)).trans b3;have c4:=(hb.cell (p:=⟨w.heap.size+1,0,none⟩) (zT ly hs2)).trans b4;have c5:=(hb.cell (p:=⟨w.heap.size+1,1,none⟩) (zT ly hs2)).trans b5;have c6:=(hb.cell (p:=⟨bb,boff+k*2,none⟩) (zT lb hs2)).trans b6;have c7:=(hb.cell (p:=⟨bb,boff+k*2+1,none⟩) (zT lb hs2)).trans b7;have HR3:=hide hr3;have HR2':=hide (HR2.out.below hb zL);have HI3:=hide (HI2.out.later hb);have HTW3:=hide (HTW2.out.later hb);have hs3:=Nat.le_trans hs2 hb.size;clear hr3 hb)
   go_wp2_with fail;refine hK.out _ _ (fun _=>by(try dsimp only);go_keep) ?_;clear hK K;try simp only [zA]
   refine zg 14 (by kernel_rfl) rfl (fun K hK=>?_);go_simp
   (refine(zfS _ _ _ (x*p) (y*q) m (HR2'.out.mono (by omega)) (HR3.out.mono (by omega)) (by omega)).mono ?_;rintro e w4 ⟨r4,rfl,hr4,hb⟩;obtain⟨⟨rn,ro,rl,rc⟩,rfl⟩:=hr4.nm;have d0:=(hb.cell (p:=⟨w.heap.size,0,none⟩) (zT lx hs3)).trans c0;have d1:=(hb.cell (p:=⟨w.heap.size,1,none⟩) (zT lx hs3)).trans c1;have d2:=(hb.cell (p:=⟨ab,aoff+k*2,none⟩) (zT la hs3)).trans c2;have d3:=(hb.cell (p:=⟨ab,aoff+k*2+1,none⟩) (zT la hs3)).trans c3;have d4:=(hb.cell (p:=⟨w.heap.size+1,0,none⟩) (zT ly hs3)).trans c4;have d5:=(hb.cell (p:=⟨w.heap.size+1,1,none⟩) (zT ly hs3)).trans c5;have d6:=(hb.cell (p:=⟨bb,boff+k*2,none⟩) (zT lb hs3)).trans c6;have d7:=(hb.cell (p:=⟨bb,boff+k*2+1,none⟩) (zT lb hs3)).trans c7;have HI4:=hide (HI3.out.later hb);have HTW4:=hide (HTW3.out.later hb);obtain⟨neg0,o0,l0,c0',k0,k1,-⟩:=HI4.out.at k (by omega);have f0:=HI4.out.thaw (k*2);have f1:=HI4.out.thaw (k*2+1);have hP:=HI4.out.lt;have HN:=hide (HI4.out.set (k:=k) (by omega) hr4);have HTN:=hide (zjT HTW4.out k (.bool rn) (.slice ro rl rc));rw [HFS.out] at HN;clear hb hr4 HI HI2 HI3 HI4 HFS)
   go_wp2_with fail;refine hK.out _ _ (fun _=>by(try dsimp only);go_keep) ?_;clear hK K;try simp only [zA]
   refine zg 15 (by kernel_rfl) rfl (fun K hK=>?_);go_simp;refine hK.out _ _ (fun _=>by(try dsimp only);go_keep) ?_;clear hK K;try simp only [zA]
   refine zg 16 (by kernel_rfl) rfl (fun K hK=>?_);go_simp;refine hK.out _ _ (fun h=>absurd h (by decide)) ?_;clear hK K;try simp only [zA]
   refine zx (by kernel_rfl) ?_;clear a0 a1 a2 a3 a4 a5 a6 a7 b0 b1 b2 b3 b4 b5 b6 b7 c0 c1 c2 c3 c4 c5 c6 c7 d0 d1 d2 d3 d4 d5 d6 d7 k0 k1 f0 f1 NX NY NA NB;go_wp2;go_roundw
   case rel=>exact⟨k+1,by omega,by go_num,HN.out,HTN⟩
   case measure=>simp [intOf];omega
  ·obtain rfl:k=us.length:=by omega
   have HF:Hid (VecO w wr (w.heap.size+2) ts (m+1)):=by
    have:=HI.out;rw [← hlt] at this;exact this.full
   have HQ:=hide (HPOST.out wr HF.out);clear HI HF HPOST HTW;go_wp2;go_ret;exact HQ.out
theorem zj0 (w:World)(v:Value)(zs:List Int)(n j:Nat)(hv:VecN w v zs n)(hj:j<zs.length)(h8:zs.length≤1000)(hn:n≤200000):
  Calls Tryz.prog 73 #[v,.int .i64 (j:Int)] w fun e w'=>VecPost w (zs.map ((if zs.getD j 0<0 then -1 else 1)*·)) (2+n) e w':=by
 have HV:=hide hv;obtain⟨b,off,cap,rfl⟩:=hv.form (by omega);obtain⟨lb,bn,bo,bl,bc,c0,c1,nb⟩:=hv.at j hj;have hsg:=nb.sgn;have HSC:=hide (fun(w':World) (z:Int) (vk:Value) (hk:NumL w' vk z 2) (hb:Below w.heap.size w w')=>zjj w' vk (.slice (some ⟨b,off,none⟩) zs.length cap) z zs 2 n hk (HV.out.below hb zL) h8 (by decide) hn);clear nb hv;cases bn
 ·rw [if_neg (by have:=hsg.2 rfl;omega)];clear hsg;go_enter Tryz.func73,Tryz.ntmps73;go_wp2_with fail;refine(zaQ w 1 (by decide) (by decide)).mono ?_;rintro e w1 ⟨r1,rfl,hr1,hb1⟩;have HR:=hide hr1;have HB1:=hide hb1;clear hr1 hb1;go_wp2_with fail;refine(HSC.out w1 1 r1 HR.out HB1.out).mono ?_;rintro e w2 ⟨P,rfl,hp⟩;have HP:=hide hp;clear hp;go_wp2;go_ret;exact⟨P,by rw [zM];rfl,HP.out.vec,by have:=HP.out.low;have:=HB1.out.size;omega,HB1.out.trans (HP.out.below.mono HB1.out.size),HP.out.blk⟩
 ·rw [if_pos (hsg.1 rfl)];clear hsg;go_enter Tryz.func73,Tryz.ntmps73;go_wp2_with fail;refine(zaQ w (-1) (by decide) (by decide)).mono ?_;rintro e w1 ⟨r1,rfl,hr1,hb1⟩;have HR:=hide hr1;have HB1:=hide hb1;clear hr1 hb1;go_wp2_with fail;refine(HSC.out w1 (-1) r1 HR.out HB1.out).mono ?_;rintro e w2 ⟨P,rfl,hp⟩;have HP:=hide hp;clear hp;go_wp2;go_ret;exact⟨P,by rw [zM];rfl,HP.out.vec,by have:=HP.out.low;have:=HB1.out.size;omega,HB1.out.trans (HP.out.below.mono HB1.out.size),HP.out.blk⟩
end Go.Proofs.YtncamilanceahaaGreat
