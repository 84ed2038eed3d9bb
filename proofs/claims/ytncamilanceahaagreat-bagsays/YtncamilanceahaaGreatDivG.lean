import Derived.Test.YtncamilanceahaaGreatStep
import Derived.Shelf.Small.Bits
import Derived.Shelf.Small.Wraps
import Derived.Shelf.Strings.BuilderK
import Derived.Shelf.Strconv.Itoa3
import Derived.Test.YtncamilanceahaaGreatProg
set_option maxRecDepth 100000
set_option maxHeartbeats 1600000
namespace Go.Proofs.YtncamilanceahaaGreat
open Go.RowKit Limbs
variable{w w':World}{G A V S:Int}{g n:Nat}{zs:List Int}
def StepPost (w:World)(g:Nat)(zs:List Int)(off:Nat)(b:List Int)(e:Ending)(w':World):Prop:=
 ∃(q:Int) (ys:List Int),e=.returned (.int .u32 q)∧0≤q∧q<4294967296∧Part w w' g zs ys off (b.length+1) ∧
  seg zs off (b.length+1)=q*lv b+seg ys off (b.length+1)∧seg ys off (b.length+1)<lv b
theorem ziZ{nx:Int}(hG:0≤G∧G<4294967296)(hn:0≤nx∧nx<4294967296):0≤G*nx∧G*nx<18446744073709551616:=by
 have:=zdd hG hn;omega
theorem Part.of_drewN{ys:List Int}{off k:Nat}(h:Part (w.drewN n) w' g zs ys off k):Part w w' g zs ys off k:=
 ⟨h.row,(zcX (World.grownBy.refl w (some g)) n).trans h.grown,h.only⟩
theorem zfz(hv:S+G*V=A)(hu:A<(G+1)*V):A=G*V+S∧S<V:=by
 rw [Int.add_mul,Int.one_mul] at hu;omega
theorem zfy{P S2 c:Int}(hv:S+G*V=A+P)(hS:S<P)(hx:G*V<A+V)(hv2:S2+P*c=S+V)(hS2:S2<P)(hc0:0≤c)(hc1:c≤1)(hA:0≤A)(hV:0<V∧V<P):
  1≤G∧A=(G-1)*V+S2∧S2<V:=by
 have hg:1≤G:=by
  rcases Int.lt_or_le G 1 with h | h
  ·have:G*V≤0*V:=Int.mul_le_mul_of_nonneg_right (by omega) (by omega);omega
  ·exact h
 rw [Int.sub_mul,Int.one_mul];rcases(by omega:c=0∨c=1) with rfl | rfl
 ·omega
 ·rw [Int.mul_one] at hv2;exact⟨hg,by omega,by omega⟩
theorem zg9 (w:World)(g h cap bcap off m:Nat)(zs b:List Int)(hr:Row w g zs)(hb:Row w h b)(hbc:b.length≤bcap)(hne:h≠g)(hoff:off+b.length+1≤zs.length)(hl:zs.length≤1000000)
  (hm:b.length=m+2) (ht:b.getD (m+1) 0≠0) (hlt:seg zs off (b.length+1)<lv b*4294967296):
  Calls Tryz.prog 96 #[.slice (some ⟨g,off,none⟩) (b.length+1) cap,.slice (some ⟨h,0,none⟩) b.length bcap] w fun e w'=>StepPost w g zs off b e w':=by
 have HB:=hide hb;have HR:=hide hr;have hlb:=hr.2.1;have hT:=zjQ (off:=off) hr.2.1 hb.2.1 hm ht;obtain⟨c0,-⟩:=hr.2.2 (off+(m+2)) (by omega);obtain⟨c1,-⟩:=hr.2.2 (off+(m+1)) (by omega);obtain⟨c2,-⟩:=hr.2.2 (off+m) (by omega);obtain⟨d1,-⟩:=hb.2.2 (m+1) (by omega);obtain⟨d2,-⟩:=hb.2.2 m (by omega);clear hr hb ht;have HM:=hide hm;have hbl:(b.length:Int)=(m:Int)+2:=by omega
 clear hm;have htk:=fun(W:World) (G:Int) hr hb hT=>zjD W g h cap bcap off zs b G hr hb hne hoff hl hT;have hgb:=fun(W:World) (ys:List Int) hr hb hoff hl=>zhK W g h cap bcap off ys b hr hb hbc hne hoff hl;have HTK:=hide htk;have HGB:=hide hgb;clear htk hgb;generalize zs.getD (off+(m+2)) 0=a0 at *;generalize zs.getD (off+(m+1)) 0=a1 at *;generalize zs.getD (off+m) 0=a2 at *;generalize b.getD (m+1) 0=hi at *;generalize b.getD m 0=nx at *;have HT:=hide hT;have HL:=hide hlt;have hvp:=hide (show 0<lv b∧lv b<bp (b.length+1) by
  have h1:=hT.vpos;have h2:=hT.p0;have h3:=zaq HB.out.2.1;have h4:bp b.length≤bp (b.length+1):=zad (by omega);omega)
 have hf:=hT.first hlt;obtain⟨-,-,-,-,-,-,-,ra0,ra1,ra2,rhi,rnx⟩:=hT;clear hlt;have hor:=zcu a0 a1 ra0.1 ra0.2 ra1.1 ra1.2;have hsh:=zcA a0 a1 ra0.1 ra0.2 ra1.1 ra1.2;have HQ:=hide (HT.out.start);have q0:0≤(a0*4294967296+a1)/hi:=Int.ediv_nonneg (by omega) (by omega);have q1:(a0*4294967296+a1)/hi≤a0*4294967296+a1:=Int.ediv_le_self _ (by omega);have m0:=Int.emod_nonneg (a0*4294967296+a1) (show hi≠0 by omega);have m1:=Int.emod_lt_of_pos (a0*4294967296+a1) (show 0<hi by omega);have hh1:(hi != 0)=true:=by rw [bne_iff_ne];omega
 have hh2:(hi==0)=false:=by rw [beq_eq_false_iff_ne];omega
 have HD:=hide (show(a0*4294967296+a1)/hi*hi+(a0*4294967296+a1)%hi=a0*4294967296+a1 by rw [Int.mul_comm];exact Int.mul_ediv_add_emod _ _);go_enter Tryz.func96,Tryz.ntmps96;go_wp2
 go_quiet (fail)
 go_wp2
 go_quiet (fail)
 go_wp2
 go_quiet (fail)
 go_wp2;go_loopw [9,10] (fun gv rv wr=>∃(G R:Int) (nq:Nat),gv=.int .u64 G∧rv=.int .u64 R∧wr=w.drewN nq∧0≤G∧G<18446744073709551616∧0≤R∧R<8589934592∧Hid (G*hi+R=a0*4294967296+a1)∧Hid (seg zs off (b.length+1)<(G+1)*lv b)) (fun gv _ _=>(intOf gv).toNat)
 case atStart=>exact⟨_,_,_,rfl,rfl,by rw [World.drewN_drewN,World.drewN_drewN],q0,by omega,m0,by omega,HD,HQ⟩
 case round=>
  obtain⟨G,R,nq,rfl,rfl,rfl,hG0,hG1,hR0,hR1,HE,HU⟩:=hrel;by_cases hR:R<4294967296
  ·have hor2:=zcu R a2 hR0 hR ra2.1 ra2.2;have hsh2:=zcA R a2 hR0 hR ra2.1 ra2.2;by_cases hG:G<4294967296
   ·have hpr:=ziZ ⟨hG0,hG⟩ rnx;by_cases hgt:R*4294967296+a2<G*nx
    ·have HU':=hide (HT.out.less hG0 HE.out hgt);have hg1:1≤G:=by
      rcases Int.lt_or_le G 1 with h | h
      ·have:G=0:=by omega
       subst this;omega
      ·exact h
     have HE':=hide (show(G-1)*hi+(R+hi)=a0*4294967296+a1 by have:=HE.out;rw [Int.sub_mul,Int.one_mul];omega);go_wp2;go_roundw
     case rel=>exact⟨_,_,_,_,_,_,_,_,_,_,_,_,_,_,_,_,_,_,_,_,_,_,_,_,_,_,_,_,_,_,⟨G-1,R+hi,nq,rfl,rfl,rfl,by omega,by omega,by omega,by omega,HE',by rw [Int.sub_add_cancel];exact HU'⟩,rfl⟩
     case measure=>show(G-1).toNat<G.toNat;omega
    ·have HX:=hide (HT.out.stop ⟨hG0,hG⟩ HE.out (by omega));go_wp2_with fail;refine(HTK.out _ G (HR.out.drewN nq) (HB.out.drewN nq) ⟨hG0,hG⟩).mono ?_;rintro e w1 ⟨s,ys,rfl,hp,hv⟩;replace hp:=hp.of_drewN;have hS:=zbQ hp.row.2.1 off (b.length+1);cases s
     ·have HF:=hide (zfz (G:=G) (V:=lv b) (by simpa using hv) HU.out);clear hv hS;go_wp2;go_ret;exact⟨G,ys,rfl,hG0,hG,hp,HF.out.1,HF.out.2⟩
     ·rw [if_pos rfl] at hv;have hlen:=hp.only.len;go_wp2_with fail;refine(HGB.out w1 ys hp.row (HB.out.far hp.grown hne) (by rw [hlen];exact hoff) (by rw [hlen];exact hl)).mono ?_;rintro e w2 ⟨c,xs,rfl,hc0,hc1,hp2,hv2⟩;replace hp:=hp.trans hp2;have hS2:=zbQ hp.row.2.1 off (b.length+1);have hA:=zdu hlb off (b.length+1);obtain⟨hg1,hF1,hF2⟩:=zfy hv hS HX.out hv2 hS2 hc0 hc1 hA (hvp.out);have HF1:=hide hF1;have HF2:=hide hF2;clear hv hv2 hS hS2 hA hF1 hF2;go_wp2;go_ret;exact⟨G-1,xs,rfl,by omega,by omega,hp,HF1.out,HF2.out⟩
   ·have HU':=hide (show seg zs off (b.length+1)<G*lv b by
     have h1:=HL.out;have h2:=HT.out.vpos;have h3:=HT.out.p0;have h4:4294967296*lv b≤G*lv b:=Int.mul_le_mul_of_nonneg_right (by omega) (by omega);omega)
    have HE':=hide (show(G-1)*hi+(R+hi)=a0*4294967296+a1 by have:=HE.out;rw [Int.sub_mul,Int.one_mul];omega);go_wp2;go_roundw
    case rel=>exact⟨⟨nq,rfl⟩,by omega,by omega,by omega,by omega⟩
    case measure=>simp [intOf];omega
  ·have hfar:=HT.out.stop_far HL.out hG0 HE.out (by omega);have HX:=hide (HT.out.stop ⟨hG0,hfar.1⟩ HE.out hfar.2);go_wp2_with fail;refine(HTK.out _ G (HR.out.drewN nq) (HB.out.drewN nq) ⟨hG0,hfar.1⟩).mono ?_;rintro e w1 ⟨s,ys,rfl,hp,hv⟩;replace hp:=hp.of_drewN;have hS:=zbQ hp.row.2.1 off (b.length+1);cases s
   ·have HF:=hide (zfz (G:=G) (V:=lv b) (by simpa using hv) HU.out);clear hv hS;go_wp2;go_ret;exact⟨G,ys,rfl,hG0,hfar.1,hp,HF.out.1,HF.out.2⟩
   ·rw [if_pos rfl] at hv;have hlen:=hp.only.len;go_wp2_with fail;refine(HGB.out w1 ys hp.row (HB.out.far hp.grown hne) (by rw [hlen];exact hoff) (by rw [hlen];exact hl)).mono ?_;rintro e w2 ⟨c,xs,rfl,hc0,hc1,hp2,hv2⟩;replace hp:=hp.trans hp2;have hS2:=zbQ hp.row.2.1 off (b.length+1);have hA:=zdu hlb off (b.length+1);obtain⟨hg1,hF1,hF2⟩:=zfy hv hS HX.out hv2 hS2 hc0 hc1 hA (hvp.out);have HF1:=hide hF1;have HF2:=hide hF2;clear hv hv2 hS hS2 hA hF1 hF2;go_wp2;go_ret;exact⟨G-1,xs,rfl,by omega,by omega,hp,HF1.out,HF2.out⟩
theorem Row.take(h:Row w g zs)(n:Nat):Row w g (zs.take n):=by
 obtain⟨h1,h2,h3⟩:=h;refine⟨h1,zb9 h2 n,fun j hj=>?_⟩;rw [List.length_take] at hj;rw [zay zs n j (by omega)];exact h3 j (by omega)
theorem Row.kept{r:Option Nat}(h:Row w g zs)(hg:w.grownBy w' r)(hne:r≠some g):Row w' g zs:=by
 obtain⟨h1,h2,h3⟩:=h;have hb:w'.heap[g]?=w.heap[g]?:=hg.block g h1 (fun e=>hne e.symm);exact⟨zT h1 hg.size,h2,fun j hj=>⟨(World.cell?_of_block (a:=⟨g,j,none⟩) hb).trans (h3 j hj).1,(World.frozen?_of_block (a:=⟨g,j,none⟩) hb).trans (h3 j hj).2⟩⟩
theorem zh5{base:Nat}{e:TypeId}{v:Value}{xs:List Value}(h:w.ownsRow base e 1 v n xs):lenOf v=n:=by
 rcases h.2 with⟨rfl,h0⟩ |⟨g,cap,cur,rfl,_⟩
 ·simp [lenOf,h0]
 ·rfl
theorem zbT (w:World)(ao:Option Addr)(cap:Nat)(zs:List Int)(n:Nat)(hn:zs.length=n)(h:Lim w (.slice ao n cap) zs):
  Calls Tryz.prog 69 #[.slice ao n cap] w fun e w'=>TrimPost w ao cap zs e w':=by
 subst hn;exact zdD w ao cap zs h
theorem Tryz.infoInt:(Tryz.prog.info? 3).map (fun i=>(i.zero,i.size,i.bytes))=some (some (.int .i64 0),1,8):=by kernel_rfl
end Go.Proofs.YtncamilanceahaaGreat
/- Library functions' contracts, laid at this translation: strconv.Itoa, bits.LeadingZeros32, strings.CutPrefix, the Builder's writes and its text. -/
namespace Go.Proofs
open Go.Shelf Go.RowKit Go.Sort
def Tryz.lays133_ren:Go.Shelf.Ren:=⟨fun | 133=>94 | 128=>106 | n=>n,fun | 51=>112 | 3=>3 | 4=>4 | 46=>113 | 5=>5 | 9=>9 | n=>n,fun | n=>n⟩
theorem Tryz.lays133:Go.Proofs.Lays.n133 Tryz.prog Tryz.lays133_ren:={
 mixed:=by kernel_rfl
 f128:=Tryz.func106.trans (congrArg some (by kernel_rfl))
 f133:=Tryz.func94.trans (congrArg some (by kernel_rfl))
 t3:=Tryz.underlying3
 a3:=Tryz.isAgg3
 z3:=Tryz.sizeOf3
 v3:=Tryz.zeroValue3
 t4:=Tryz.underlying4
 a4:=Tryz.isAgg4
 z4:=Tryz.sizeOf4
 v4:=Tryz.zeroValue4
 t5:=Tryz.underlying5
 a5:=Tryz.isAgg5
 z5:=Tryz.sizeOf5
 v5:=Tryz.zeroValue5
 t9:=Tryz.underlying9
 a9:=Tryz.isAgg9
 z9:=Tryz.sizeOf9
 v9:=Tryz.zeroValue9
 t46:=Tryz.underlying113
 a46:=Tryz.isAgg113
 z46:=Tryz.sizeOf113
 v46:=Tryz.zeroValue113
 t51:=Tryz.underlying112
 a51:=Tryz.isAgg112
 z51:=Tryz.sizeOf112
 v51:=Tryz.zeroValue112 }
theorem Tryz.bits_LeadingZeros32 (x:Int)(w:World)(h0:0≤x)(h1:x≤4294967295):
  Calls Tryz.prog 94 #[.int .u32 x] w fun e w'=>e=.returned (.int .i64 (32-(Lib.bitLen x.toNat:Int)))∧w'=w:=Any.bits_LeadingZeros32 Tryz.lays133 x w h0 h1
end Go.Proofs
/- Long division: the arithmetic. -/
namespace Go.Proofs.YtncamilanceahaaGreat
open Go.RowKit Limbs
variable{zs ys qs b d:List Int}{n k M B g:Nat}{w W:World}{P D q VAL:Int}
theorem zjS (L:Nat):((2 ^ L:Nat):Int)=(2:Int) ^ L:=by norm_cast
set_option maxRecDepth 10000 in
theorem zil (x:Int)(h0:1≤x)(h1:x<4294967296):∃(s:Nat) (P Q:Int),Pow s P Q∧x*P<4294967296∧∀ w,Calls Tryz.prog 94 #[.int .u32 x] w fun e w'=>e=.returned (.int .i64 (s:Int))∧w'=w:=by
 obtain⟨k,rfl⟩:=Int.eq_ofNat_of_zero_le (show 0≤x by omega);obtain⟨b1,-,b3⟩:=Lib.bitLenAux_bounds 64 k (by omega) (by omega);have b4:Lib.bitLen k≤32:=Lib.bitLen_le k 32 (by omega) (by omega);change 1≤Lib.bitLen k at b1;change k<2 ^ Lib.bitLen k at b3;have hc:=fun w=>Go.Proofs.Tryz.bits_LeadingZeros32 (k:Int) w (by omega) (by omega);rw [Int.toNat_natCast] at hc;generalize Lib.bitLen k=L at *;obtain⟨P,Q,hP⟩:=ziX (32-L) (by omega);refine⟨32-L,P,Q,hP,?_,fun w=>?_⟩
 ·have e:((2 ^ L:Nat):Int)*P=4294967296:=by
   have e0:=zjS L;rw [← hP.eq,e0,← Int.pow_add,show L+(32-L)=32 by omega];decide
  rw [← e];have hk:(k:Int)<((2 ^ L:Nat):Int):=Int.ofNat_lt.2 b3;exact Int.mul_lt_mul_of_pos_right hk (by have:=hP.pos;omega)
 ·have:=hc w
  rwa [show(32:Int)-(L:Int)=((32-L:Nat):Int) by omega] at this
theorem zjm(h:LB zs)(off k:Nat)(hk:off+k≤zs.length):seg zs off k≤lv (zs.drop off):=by
 have e:=zac (zs.drop off) k (by rw [List.length_drop];omega);have n0:=zF (zaV (zaV h off) k);have:0≤bp k*lv ((zs.drop off).drop k):=Int.mul_nonneg (by have:=zQ k;omega) n0;unfold seg;omega
theorem zib{at_:Nat}(hz:LB zs)(hn:at_+n+1≤zs.length)(hlow:lv (zs.drop (at_+1))<D):seg zs at_ (n+1)<D*4294967296:=by
 have h1:=zjm hz at_ (n+1) (by omega);rw [zE zs at_ (by omega)] at h1;simp only [lv] at h1;have h2:=hz at_;omega
theorem zez(hz:LB zs)(hn:k+n≤zs.length)(hlow:lv (zs.drop k)<D)(hD:D≤bp n):lv (zs.drop (k+n))=0:=by
 have e:=zac (zs.drop k) n (by rw [List.length_drop];omega);rw [List.drop_drop] at e;have n0:=zF (zaV hz (k+n));have t0:=zbd (zaV hz k) n;rcases Int.lt_or_le (lv (zs.drop (k+n))) 1 with h | h
 ·omega
 ·have:=zQ n;have:bp n*1≤bp n*lv (zs.drop (k+n)):=Int.mul_le_mul_of_nonneg_left h (by omega);omega
theorem zid(hz:LB zs)(hn:k+n+1≤zs.length)(hq:k<qs.length)
  (hval:VAL=D *(bp (k+1)*lv (qs.drop (k+1)))+lv zs) (hlow:lv (zs.drop (k+1))<D) (hD:D≤bp n)
  (ho:Only zs ys k (n+1)) (hst:seg zs k (n+1)=q*D+seg ys k (n+1)) (hlt:seg ys k (n+1)<D):
  VAL=D *(bp k*lv ((qs.set k q).drop k))+lv ys∧lv (ys.drop k)<D:=by
 have hZ:=zez hz (by omega) hlow hD;have e1:=zac zs k (by omega);have e2:=zac ys k (by rw [ho.len];omega);have f1:=zac (zs.drop k) (n+1) (by rw [List.length_drop];omega);have f2:=zac (ys.drop k) (n+1) (by rw [List.length_drop,ho.len];omega);rw [List.drop_drop] at f1 f2;rw [ho.high] at f2;rw [show k+(n+1)=k+1+n by omega,hZ,Int.mul_zero,Int.add_zero] at f1 f2;rw [ho.low] at e2;change lv (zs.drop k)=seg zs k (n+1) at f1;change lv (ys.drop k)=seg ys k (n+1) at f2;refine⟨?_,by omega⟩;rw [zE (qs.set k q) k (by rw [List.length_set];exact hq),zce _ _ _ _ (show k<k+1 by omega),zC _ _ _ _ hq,if_pos rfl];simp only [lv];rw [f1,hst] at e1;rw [f2] at e2;rw [hval,e1,e2,Int.mul_add (bp k),Int.mul_add (bp k),Int.mul_add D];have g1:D *(bp (k+1)*lv (qs.drop (k+1)))=D *(bp k *(4294967296*lv (qs.drop (k+1)))):=by simp only [bp];ac_rfl
 have g2:D *(bp k*q)=bp k *(q*D):=by ac_rfl
 rw [g1,g2];omega
theorem zic{a:List Int}(hz:LB zs)(ha:LB a)(hb:LB b)(nb:Nrm b)(h0:0<b.length)(hM:M+b.length=a.length+1)(hl:zs.length=a.length+1)(hv:lv zs=lv a*P)(hP:1≤P):lv (zs.drop M)<lv b*P:=by
 have e:=zac zs M (by omega);have t0:=zbd hz M;have h1:=zaq ha;have h2:=zbM hb nb h0;have hp:=zQ M;have h3:bp (b.length-1)*bp M=bp a.length:=by rw [← zbw];congr 1;omega
 have h4:bp (b.length-1)*bp M≤lv b*bp M:=Int.mul_le_mul_of_nonneg_right h2 (by omega);have h5:lv a*P<lv b*bp M*P:=Int.mul_lt_mul_of_pos_right (by omega) (by omega);have h6:bp M*lv (zs.drop M)<bp M *(lv b*P):=by
  have:bp M *(lv b*P)=lv b*bp M*P:=by ac_rfl
  omega
 exact Int.lt_of_mul_lt_mul_left h6 (by omega)
theorem zia{A V Z:Int}(hP:1≤P)(h:A*P=V*P*q+Z)(h0:0≤Z)(h1:Z<V*P):A=V*q+Z/P∧0≤Z/P∧Z/P<V:=by
 have e:Z=(A-V*q)*P:=by
  have:V*P*q=V*q*P:=by ac_rfl
  rw [Int.sub_mul];omega
 have d:Z/P=A-V*q:=by rw [e];exact Int.mul_ediv_cancel _ (by omega)
 refine⟨by omega,Int.ediv_nonneg h0 (by omega),?_⟩;rw [Int.ediv_lt_iff_lt_mul (by omega:0<P)];exact h1
theorem zhb(hd:LB d)(nd:Nrm d)(hb:LB b)(nb:Nrm b)(h0:0<b.length)(hP:1≤P)(hv:lv d=lv b*P)(hx:b.getD (b.length-1) 0*P<4294967296)(hPP:∃ Q,P*Q=4294967296):
  d.length=b.length∧lv d<bp b.length:=by
 have h1:=zbM hb nb h0;have e:=zac b (b.length-1) (by omega);rw [zE b (b.length-1) (by omega),List.drop_eq_nil_of_le (by omega)] at e;simp only [lv,Int.mul_zero,Int.add_zero] at e;have t1:=zco hb (b.length-1);have hp:=zQ (b.length-1);obtain⟨Q,hQ⟩:=hPP;have hx2:(b.getD (b.length-1) 0+1)*P≤4294967296:=by
  rw [← hQ,Int.mul_comm P Q] at hx ⊢;have:=Int.lt_of_mul_lt_mul_right hx (by omega);exact Int.mul_le_mul_of_nonneg_right (by omega) (by omega)
 have b1:bp b.length=bp (b.length-1)*4294967296:=by
  conv=>lhs;rw [← Nat.sub_add_cancel (show 1≤b.length by omega)]
  simp only [bp];rw [Int.mul_comm]
 have h2:lv b*P<bp b.length:=by
  have g1:lv b*P<bp (b.length-1) *(b.getD (b.length-1) 0+1)*P:=Int.mul_lt_mul_of_pos_right (by rw [Int.mul_add,Int.mul_one];omega) (by omega);have g2:bp (b.length-1) *((b.getD (b.length-1) 0+1)*P)≤bp (b.length-1)*4294967296:=Int.mul_le_mul_of_nonneg_left hx2 (by omega);rw [← Int.mul_assoc] at g2;omega
 have h3:lv b*1≤lv b*P:=Int.mul_le_mul_of_nonneg_left hP (by omega);refine⟨?_,by omega⟩;have l1:=zeI hd nd (n:=b.length) (by omega);rcases Nat.lt_or_ge d.length b.length with h | h
 ·have l2:=zaq hd;have l3:bp d.length≤bp (b.length-1):=zad (by omega);omega
 ·omega
def DivPost (w:World)(a b:List Int)(e:Ending)(w':World):Prop:=
 ∃ v1 v2 qs rs,e=.returned (.tuple #[v1,v2])∧Lim w' v1 qs∧Lim w' v2 rs∧Nrm qs∧Nrm rs∧lv a=lv b*lv qs+lv rs∧lv rs<lv b∧qs.length≤a.length∧rs.length≤b.length∧Below w.heap.size w w'
theorem Lim.nil (w:World):Lim w (.slice none 0 0) []:=⟨none,0,rfl,Nat.le_refl _,by simp,zaF,fun h=>absurd h (by simp)⟩
theorem Nrm.nil:Nrm []:=.inl rfl
theorem zd1{W':World}(h:Below B w W)(hg:W.grownBy W' (some g))(hB:B≤g)(hs:B≤W.heap.size):Below B w W' where
 os:=hg.os.trans h.os
 tape:=hg.tape.trans h.tape
 output:=hg.output.trans h.output
 size:=Nat.le_trans h.size hg.size
 block:=fun j hj=>(hg.block j (by omega) (by simp;omega)).trans (h.block j hj)
theorem zg6 (w:World)(va vb:Value)(a b:List Int)(ha:Lim w va a)(hb:Lim w vb b)(na:Nrm a)(nb:Nrm b)(hlt:lv a<lv b):
  Calls Tryz.prog 83 #[va,vb] w fun e w'=>DivPost w a b e w':=by
 have HA:=hide ha;have HB:=hide hb;obtain⟨ao,acap,rfl,hacap,halen,halb,-⟩:=ha;obtain⟨bo,bcap,rfl,hbcap,hblen,hblb,-⟩:=hb;have hc:=zab hlt;have HF:=hide (show lv a=lv b*lv []+lv a by simp [lv]);have HL:=hide (show a.length≤b.length by
  by_cases h:b.length<a.length
  ·have:=zbc hblb halb na h;omega
  ·omega)
 go_enter Tryz.func83,Tryz.ntmps83;go_wp2_with fail;refine(zbB w _ _ a b HA.out HB.out na nb).mono ?_;rintro e w1 ⟨rfl,hb1⟩;rw [hc];go_wp2_with fail;refine(zci w1 _ a (HA.out.below hb1 zL)).mono ?_;rintro e w2 ⟨rfl,hr2,hb2⟩;go_wp2;go_ret2;exact⟨_,_,[],a,rfl,Lim.nil _,hr2.lim _ zL halen,Nrm.nil,na,HF.out,hlt,by simp,HL.out,hb1.trans (hb2.mono hb1.size)⟩
theorem zfe (w:World)(r:Int)(hr:0≤r∧r<4294967296):Row (w.alloc (.cells #[.int .u32 r] 112)) w.heap.size [r]:=by
 refine⟨by simp,zbY hr zaF,fun j hj=>?_⟩;obtain rfl:j=0:=by simpa using hj
 exact⟨by rw [World.cell?_alloc_new];simp,World.frozen?_alloc_new _ _ _ _⟩
theorem zg8 (w:World)(va vb:Value)(a b:List Int)(ha:Lim w va a)(hb:Lim w vb b)(na:Nrm a)(nb:Nrm b)(hge:lv b≤lv a)(h1:b.length=1):
  Calls Tryz.prog 83 #[va,vb] w fun e w'=>DivPost w a b e w':=by
 have HA:=hide ha;have HB:=hide hb;obtain⟨ao,acap,rfl,hacap,halen,halb,-⟩:=ha;obtain⟨bo,bcap,rfl,hbcap,hblen,hblb,hbc⟩:=hb;obtain⟨bb,boff,rfl,hbb,hbc⟩:=hbc (by omega);obtain⟨y,rfl⟩:∃ y,b=[y]:=by
  match b,h1 with
  | [y],_=>exact⟨y,rfl⟩
 have hb0:=hbc 0 (by simp);have hy:0<y∧y<4294967296:=by
  have h2:=hblb 0;have h3:y≠0:=by rcases nb with h | h <;> simp at h;exact h
  simp at h2;omega
 simp only [List.getD_cons_zero,Nat.add_zero] at hb0;clear hbc;have hcm:¬ cmpI (lv a) (lv [y])<0:=by
  by_cases h:lv [y]<lv a
  ·rw [zaa h];decide
  ·rw [za8 (by omega)];decide
 go_enter Tryz.func83,Tryz.ntmps83;go_wp2_with fail;refine(zbB w _ _ a [y] HA.out HB.out na nb).mono ?_;rintro e w1 ⟨rfl,hb1⟩;generalize cmpI (lv a) (lv [y])=c at *;go_wp2_with fail;refine(zci w1 _ a (HA.out.below hb1 zL)).mono ?_;rintro e w2 ⟨rfl,hr2,hb2⟩;have hB2:=hb1.trans (hb2.mono hb1.size);have hcb:w2.cell? ⟨bb,boff,none⟩=some (.int .u32 y):=(hB2.cell (p:=⟨bb,boff,none⟩) hbb).trans hb0;go_wp2_with fail;refine(zg4 w2 w1.heap.size a.length a y hr2 halen hy.1 hy.2).mono ?_;rintro e w3 ⟨r,qs,rfl,hr0,hr1,hql,hrow,hgr,hval⟩;have hB3:=zd1 hB2 hgr hb1.size hB2.size;have HV:=hide hval;clear hval hgr hr2 hcb;go_wp2_with fail;refine(zbT w3 _ _ qs a.length hql (by have:=hrow.lim a.length (by omega) (by omega);rwa [hql] at this)).mono ?_;rintro e w4 ⟨m,hm,rfl,hlm,hnm,rfl⟩;have HLM:=hide hlm;clear hlm;have hone:=zfe w4 r ⟨hr0,by omega⟩;go_wp2_with fail;refine(zbT _ _ _ [r] 1 rfl (hone.lim 1 (by simp) (by simp))).mono ?_;rintro e w5 ⟨k,hk,rfl,hlk,hnk,rfl⟩;have HLK:=hide hlk;clear hlk;have hq':Lim w4 (.slice (some ⟨w1.heap.size,0,none⟩) m a.length) (qs.take m):=by
  have:=(hrow.lim a.length (by omega) (by omega)).take m hm;exact this
 have hr':=(hone.lim 1 (by simp) (by simp)).take k hk;have hba:=(zB w4.heap.size w4).alloc zL (.cells #[.int .u32 r] 112);have hA:lv a=lv [y]*lv (qs.take m)+lv ([r].take k):=by rw [HLM.out,HLK.out,HV.out];simp [lv]
 have hR:lv ([r].take k)<lv [y]:=by rw [HLK.out];simpa [lv] using hr1
 have HF:=hide (show DivPost w a [y] (.returned (.tuple #[.slice (some ⟨w1.heap.size,0,none⟩) m a.length,.slice (some ⟨w4.heap.size,0,none⟩) k 1])) (w4.alloc (.cells #[.int .u32 r] 112)) from
  ⟨_,_,_,_,rfl,hq'.below hba zL,hr',hnm,hnk,hA,hR,by rw [List.length_take];omega,by rw [List.length_take];simp;omega,hB3.trans (hba.mono hB3.size)⟩)
 clear hq' hr' hba hA hR hone hrow;go_wp2;go_ret2;exact HF.out
structure LongInv (w wr:World)(g h f:Nat)(d:List Int)(VAL:Int)(La M p:Nat)(zs qs:List Int):Prop where
 rest:Row wr g zs
 div:Row wr h d
 often:Row wr f qs
 below:Below w.heap.size w wr
 zlen:zs.length=La+1
 qlen:qs.length=M
 val:VAL=lv d *(bp p*lv (qs.drop p))+lv zs
 low:lv (zs.drop p)<lv d
structure Apart (w:World)(g h f:Nat):Prop where
 gh:h≠g
 fg:f≠g
 fh:f≠h
 gw:w.heap.size≤g
 hw:w.heap.size≤h
 fw:w.heap.size≤f
theorem zhR(h:Below w.heap.size w W):w.grownBy W none:=⟨h.os,h.tape,h.output,h.size,fun k hk _=>h.block k hk⟩
theorem zey (w:World)(g k:Nat)(u:Value):w.grownBy (w.setCell ⟨g,k,none⟩ u) (some g):=zck (World.grownBy.refl w (some g)) k u
theorem LongInv.step{wr wr':World}{h f:Nat}{La p:Nat}(hi:LongInv w wr g h f d VAL La M (p+1) zs qs)(hp:p<M)(hn:p+n+1≤La+1)(hD:lv d≤bp n)(hap:Apart w g h f)
  {q:Int} (hq:0≤q∧q<4294967296) (hpart:Part wr wr' g zs ys p (n+1)) (hst:seg zs p (n+1)=q*lv d+seg ys p (n+1)) (hlt:seg ys p (n+1)<lv d):
  LongInv w (wr'.setCell ⟨f,p,none⟩ (.int .u32 q)) g h f d VAL La M p ys (qs.set p q):=by
 have hb':=zd1 hi.below hpart.grown hap.gw hi.below.size;have hl:=zid hi.rest.2.1 (by rw [hi.zlen];omega) (by rw [hi.qlen];exact hp) hi.val hi.low hD hpart.only hst hlt;exact⟨hpart.row.kept (zey _ _ _ _) (by simp;exact fun e=>hap.fg e),(hi.div.far hpart.grown hap.gh).kept (zey _ _ _ _) (by simp;exact fun e=>hap.fh e),(hi.often.far hpart.grown hap.fg).store (by rw [hi.qlen];exact hp) hq,hb'.setCell hap.fw _,by rw [hpart.only.len];exact hi.zlen,by rw [List.length_set];exact hi.qlen,hl.1,hl.2⟩
theorem zha (w:World)(g h cap bcap off n len:Nat)(zs d:List Int)(hr:Row w g zs)(hd:Row w h d)(hdn:d.length=n)(hlen:len=n+1)(hbc:n≤bcap)(hne:h≠g)(hoff:off+n+1≤zs.length)(hl:zs.length≤1000000)
  (h2:2≤n) (ht:d.getD (n-1) 0≠0) (hlt:seg zs off (n+1)<lv d*4294967296):
  Calls Tryz.prog 96 #[.slice (some ⟨g,off,none⟩) len cap,.slice (some ⟨h,0,none⟩) n bcap] w fun e w'=>StepPost w g zs off d e w':=by
 subst hdn;subst hlen;exact zg9 w g h cap bcap off (d.length-2) zs d hr hd hbc hne hoff hl (by omega) (by rwa [show d.length-2+1=d.length-1 by omega]) hlt
theorem Lim.take'{ao:Option Addr}{cap:Nat}(h:Lim w (.slice ao n cap) zs)(m:Nat)(hm:m≤n)(hn:zs.length=n):Lim w (.slice ao m cap) (zs.take m):=by
 subst hn;exact h.take m hm
theorem drewed{w':World}(h:Below B w.drew w'):Below B w w':=⟨h.os,h.tape,h.output,h.size,h.block⟩
theorem zjt (w:World)(v:Value)(l:List Int)(n s:Nat){Q:Int}(hn:l.length=n)(hl:Lim w v l)(hP:Pow s P Q):
  Calls Tryz.prog 97 #[v,.int .i64 (s:Int)] w fun e w'=>∃ zs,e=.returned (.slice (some ⟨w.heap.size,0,none⟩) n n)∧zs.length=n∧Row w' w.heap.size zs∧lv zs=lv l/P∧Below w.heap.size w w':=by
 subst hn;exact zjs w v l s hl hP
theorem zg7 (w:World)(va vb:Value)(a b:List Int)(ha:Lim w va a)(hb:Lim w vb b)(na:Nrm a)(nb:Nrm b)(hge:lv b≤lv a)(h1:2≤b.length)(hla:a.length≤900000):
  Calls Tryz.prog 83 #[va,vb] w fun e w'=>DivPost w a b e w':=by
 have HA:=hide ha;have HB:=hide hb;obtain⟨ao,acap,rfl,hacap,halen,halb,-⟩:=ha;obtain⟨bo,bcap,rfl,hbcap,hblen,hblb,hbc⟩:=hb;replace hbc:=hbc (by omega);obtain⟨bb,boff,rfl,hbb,hbc⟩:=hbc;have hble:=zeH halb hblb nb hge;have hcl:=hbc (b.length-1) (by omega);clear hbc;have hx0:b.getD (b.length-1) 0≠0:=by rcases nb with h | h;omega;exact h
 have hx:=hblb (b.length-1);obtain⟨s,P,Q,hP,hxP,hlz⟩:=zil (b.getD (b.length-1) 0) (by omega) hx.2;have HXP:=hide hxP;obtain⟨M,hM⟩:∃ M,M+b.length=a.length+1:=⟨a.length+1-b.length,by omega⟩;have hmk:=zaR M (by omega);have hMi:(M:Int)=(a.length:Int)-(b.length:Int)+1:=by omega
 rw [hMi] at hmk;clear hMi;have hcm:¬ cmpI (lv a) (lv b)<0:=by
  by_cases h:lv b<lv a
  ·rw [zaa h];decide
  ·rw [za8 (by omega)];decide
 clear hxP;generalize hxe:b.getD (b.length-1) 0=x at *;have hne1:((b.length:Int)==1)=false:=by rw [beq_eq_false_iff_ne];omega
 go_enter Tryz.func83,Tryz.ntmps83;go_wp2_with fail;refine(zbB w _ _ a b HA.out HB.out na nb).mono ?_;rintro e w1 ⟨rfl,hb1⟩;generalize cmpI (lv a) (lv b)=c at *;have hcb:w1.cell? ⟨bb,boff+(b.length-1),none⟩=some (.int .u32 x):=(hb1.cell (p:=⟨bb,boff+(b.length-1),none⟩) hbb).trans hcl;go_wp2_with fail;refine(hlz _).mono ?_;rintro e w1 ⟨rfl,rfl⟩;go_wp2_with fail;refine(zfu w1 _ a s (HA.out.below hb1 zL) hP (by omega)).mono ?_;rintro e w2 ⟨zs,rfl,hzl,hzr,hzv,hb2⟩;have HZV:=hide hzv;clear hzv;have hB2:=hb1.trans (hb2.mono hb1.size);go_wp2_with fail;refine(zfu w2 _ b s (HB.out.below hB2 zL) hP (by omega)).mono ?_;rintro e w3 ⟨d0,rfl,hdl,hdr,hdv,hb3⟩;have HDV:=hide hdv;clear hdv;have hB3:=hB2.trans (hb3.mono hB2.size);go_wp2_with fail;refine(zbT w3 _ _ d0 (b.length+1) hdl (by have:=hdr.lim (b.length+1) (by omega) (by omega);rwa [hdl] at this)).mono ?_;rintro e w4 ⟨m,hm,rfl,hlm,hnm,rfl⟩;obtain⟨hdlen,hdlt⟩:=zhb (hdr.take m).2.1 hnm hblb nb (by omega) hP.pos (hlm.trans HDV.out) (by rw [hxe];exact HXP.out) ⟨Q,hP.co⟩;obtain rfl:m=b.length:=by rw [List.length_take] at hdlen;omega
 have HDV':=hide (hlm.trans HDV.out);replace hdr:=hdr.take b.length;generalize d0.take b.length=d at *;have hap:Apart w w1.heap.size w2.heap.size w4.heap.size:=⟨by have:=hb2.size;have:=hzr.1;omega,by have:=hb3.size;have:=hzr.1;omega,by have:=hdr.1;omega,hb1.size,hB2.size,hB3.size⟩;have hst0:LongInv w (w4.alloc (.cells (madeCells #[.int .u32 0] M) 112)) w1.heap.size w2.heap.size w4.heap.size d (lv a*P) a.length M M zs (List.replicate M 0):=
  ⟨((hzr.kept (zhR hb3) (by simp)).kept (World.grownBy_alloc _ _ none) (by simp)),hdr.kept (World.grownBy_alloc _ _ none) (by simp),Row.made w4 M,hB3.alloc hB3.size _,hzl,List.length_replicate,
   by rw [List.drop_eq_nil_of_le (by simp)];simp [lv,HZV.out],by rw [HDV'.out];exact zic hzr.2.1 halb hblb nb (by omega) hM hzl HZV.out hP.pos⟩
 have hdtop:d.getD (b.length-1) 0≠0:=by rcases hnm with h | h;omega;rwa [hdlen] at h
 have HST:=hide hst0;have HAP:=hide hap;have HD:=hide (Int.le_of_lt hdlt);have HT:=hide hdtop;have HDL:=hide hdlen;clear hst0 hap hdlt hdtop hlm hnm hzr hdr hzl hdl HZV HDV hdlen;go_wp2;go_loopw [56] (fun i wr=>∃(k:Nat) (zs qs:List Int),k≤M∧i=.int .i64 k∧LongInv w wr w1.heap.size w2.heap.size w4.heap.size d (lv a*P) a.length M (M-k) zs qs) (fun i _=>M-(intOf i).toNat)
 case atStart=>exact⟨0,zs,_,Nat.zero_le _,rfl,HST.out⟩
 case round=>
  obtain⟨k,zs,qs,hk,rfl,hinv⟩:=hrel;by_cases hlt:k<M
  ·obtain⟨p,hp⟩:∃ p,p=M-1-k:=⟨_,rfl⟩;have hPi:(M:Int)-1-(k:Int)=(p:Int):=by omega
   have hpM:p<M:=by omega
   rw [show M-k=p+1 by omega] at hinv;have HK:=hide (show M-(k+1)=p by omega);have hpn:p+b.length+1≤a.length+1:=by omega
   clear hp;go_wp2_with fail;refine(zha wr _ _ _ _ p b.length _ zs d hinv.rest hinv.div HDL.out (by omega) (by omega) HAP.out.gh (by rw [hinv.zlen];omega) (by rw [hinv.zlen];omega) h1 HT.out (zib hinv.rest.2.1 (by rw [hinv.zlen];omega) hinv.low)).mono ?_;rintro e wr' ⟨q,ys,rfl,hq0,hq1,hpart,hsv,hsl⟩;rw [HDL.out] at hpart hsv hsl;have HS:=hide (hinv.step hpM hpn HD.out HAP.out ⟨hq0,hq1⟩ hpart hsv hsl);obtain⟨hcell,hfr⟩:=(hinv.often.far hpart.grown HAP.out.fg).2.2 p (by rw [hinv.qlen];exact hpM);generalize qs.getD p 0=o at *;clear hpart hsv hsl;go_wp2;go_roundw
   case rel=>exact⟨k+1,ys,_,by omega,by go_num,by rw [HK.out];exact HS.out⟩
   case measure=>simp [intOf];omega
  ·obtain rfl:k=M:=by omega
   rw [Nat.sub_self] at hinv;have hqa:Lim wr (.slice (some ⟨w4.heap.size,0,none⟩) k k) qs:=by have:=hinv.often.lim k (by rw [hinv.qlen];omega) (by rw [hinv.qlen];omega);rwa [hinv.qlen] at this
   have hza:Lim wr (.slice (some ⟨w1.heap.size,0,none⟩) b.length (a.length+1)) (zs.take b.length):=(hinv.rest.lim (a.length+1) (by rw [hinv.zlen];omega) (by rw [hinv.zlen];omega)).take b.length (by rw [hinv.zlen];omega);have hzt:(zs.take b.length).length=b.length:=by rw [List.length_take,hinv.zlen];omega
   have HV:=hide hinv.val;have HLo:=hide hinv.low;have HZ0:=hide (zF hinv.rest.2.1);have HTZ:=hide (show lv (zs.take b.length)=lv zs by
    have h2:=zez (k:=0) (n:=b.length) hinv.rest.2.1 (by rw [hinv.zlen];omega) hinv.low HD.out;have h3:=zac zs b.length (by rw [hinv.zlen];omega);rw [Nat.zero_add] at h2;rw [h2] at h3;omega)
   have hql:=hinv.qlen;have hbel:=hinv.below;have hsl1:(0:Int)≤(b.length:Int):=by omega
   have hsl2:(b.length:Int)≤((a.length+1:Nat):Int):=by omega
   have hsl3:(b.length:Int)≤(a.length:Int)+1:=by omega
   have tok1:True:=trivial;have tok2:True:=trivial;go_wp2
   go_region_held3 (fun _=>True) (trivial)
    (first
     |(go_at_call 69;have _t:=tok1;refine(zbT _ _ _ qs k hql (by exact hqa)).mono ?_;rintro e wx ⟨m1,hm1,rfl,hl1,hn1,rfl⟩;clear tok1)
     |(go_at_call 97;refine(zjt _ _ _ b.length s hzt (by exact hza) hP).mono ?_;rintro e wy ⟨rs,rfl,hrl,hrr,hrv,hby⟩)
     |(go_at_call 69;have _t:=tok2;refine(zbT _ _ _ rs b.length hrl (by have:=hrr.lim b.length (by omega) (by omega);rwa [hrl] at this)).mono ?_;rintro e wz ⟨m2,hm2,rfl,hl2,hn2,rfl⟩;clear tok2))
   have hend:=zia (A:=lv a) (V:=lv b) (q:=lv qs) (Z:=lv zs) hP.pos (by have:=HV.out;rw [HDV'.out] at this;simpa [bp] using this) HZ0.out (by have:=HLo.out;rw [HDV'.out] at this;simpa using this);have hq':=(hqa.take' m1 (by omega) hql).below ((drewed hby)) zL;have hr':Lim wz (.slice (some ⟨wr.heap.size,0,none⟩) m2 b.length) (rs.take m2):=by
    have:=(hrr.lim b.length (by omega) (by omega)).take m2 hm2;exact this
   have hA:lv a=lv b*lv (qs.take m1)+lv (rs.take m2):=by rw [hl1,hl2,hrv,HTZ.out];exact hend.1
   have hR:lv (rs.take m2)<lv b:=by rw [hl2,hrv,HTZ.out];exact hend.2.2
   have HF:=hide (show DivPost w a b (.returned (.tuple #[.slice (some ⟨w4.heap.size,0,none⟩) m1 k,.slice (some ⟨wr.heap.size,0,none⟩) m2 b.length])) wz from
    ⟨_,_,_,_,rfl,hq',hr',hn1,hn2,hA,hR,by rw [List.length_take];omega,by rw [List.length_take];omega,hbel.trans ((drewed hby).mono hbel.size)⟩)
   clear hq' hr' hA hR hend hrr hrv hl1 hl2 hn1 hn2 hqa hza hby;go_wp2;go_ret2;exact HF.out
end Go.Proofs.YtncamilanceahaaGreat
