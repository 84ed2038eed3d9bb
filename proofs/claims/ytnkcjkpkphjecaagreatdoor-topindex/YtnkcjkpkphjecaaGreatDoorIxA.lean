import Derived.Test.YtnkcjkpkphjecaaGreatDoorOpenG
import Derived.Test.YtnkcjkpkphjecaaGreatDoorTl
import Derived.Deep.Cut
namespace Go.Proofs.YtnkcjkpkphjecaaGreatDoor
open Go.RowKit Limbs Digs
structure NumG (W:World)(v:Value)(z:Int)(n:Nat):Prop where
 num:NumL W v z n
theorem NumG.later {W W':World}{v:Value}{z:Int}{n:Nat}(h:NumG W v z n)(hb:Below W.heap.size W W'):NumG W' v z n:=⟨h.num.below hb zL⟩
theorem roomSy:∀ n,n < 5→∀ m,1≤m→m≤4→RoomS m (n * 6+2+1):=fun n hn m _ h=>(by decide:∀ n,n < 5→∀ m,m < 5→RoomS m (n * 6+2+1)) n hn m (by omega)
theorem roomNI:∀ n,n < 5→6+n *(n * 6+2+2)≤90000∧n * 6+2+n *((n *(n * 6+2)+2)+2)≤90000∧6+n *((n *(n * 6+2)+2)+2)≤90000:=by decide
set_option linter.unusedSimpArgs false in
set_option maxRecDepth 100000 in
set_option maxHeartbeats 6400000 in
theorem zkO (w W:World)(B8 B9 B10 n:Nat)(o1 o2 o3:Option Addr)(k1 k2 k3:Nat)(hs ks ms:List (List Int))(ph pk pm:Nat→Nat)(hbe:Below w.heap.size w W)(h1:1≤n)(h4:n≤4)(hx8:BoxL W B8 (.int .i64 (n:Int)) (.slice o1 hs.length k1))(hl8:LatN W (.agg #[.int .i64 (n:Int),.slice o1 hs.length k1]) n hs 6)(hx9:BoxL W B9 (.int .i64 (n:Int)) (.slice o2 ks.length k2))(hl9:LatN W (.agg #[.int .i64 (n:Int),.slice o2 ks.length k2]) n ks (n * 6+2))(hx10:BoxL W B10 (.int .i64 (n:Int)) (.slice o3 ms.length k3))(hl10:LatN W (.agg #[.int .i64 (n:Int),.slice o3 ms.length k3]) n ms (n *(n * 6+2)+2))(hF:FormL n hs ph)(GY:FormL n ks pk)(GZ:FormL n ms pm)(hxy:∀ u∈hs,Gens n (InL ks) u)(hyz:∀ u∈ks,Gens n (InL ms) u)(sl0 sl1 sl2 sl3 sl4 sl5 sl6 sl7 sl11 sl12 sl13 sl14 sl15 sl16 sl17 sl18 sl19 sl20 sl21 sl22 sl23 sl24 sl25 sl26 sl27 sl28 sl29 sl30 sl31 sl32 sl33 sl34 sl35 sl36 sl37 sl38 sl39 sl40 sl41 sl42 sl43 sl44 sl45 sl46 sl47 sl48 sl49 sl50 sl51 sl52 sl53 sl54 sl55 sl56 sl57 sl58 sl59 sl60 sl61 sl62 sl63 sl64 sl65 sl66 sl67 sl68 sl69 sl70 sl71 sl72 sl73 sl74 sl75 sl76 sl77 sl78 sl79 sl80 sl81 sl82 sl83 sl84 sl85 sl86 sl87 sl88 sl89 sl90 sl91 sl92 sl93 sl94 sl95 sl96 sl97 sl98 sl99 sl100 sl101 sl102 sl103 sl104 sl105 sl106 sl107 sl108 sl109 sl110 sl111 sl112 sl113 sl114 sl115 sl116 sl117 sl118 sl119 sl120 sl121:Value):
  (Code.tl (Code.tl (Code.tl (Code.tl (Code.tl (Code.tl (Code.tl (Code.tl (Code.tl ((Tryz.f3.body).getD .skip)))))))))).wp Tryz.prog (bodyPost Tryz.prog Tryz.f3 (fun e w'=>e=.returned (.bool true)∧Below w.heap.size w w')) ⟨#[sl0,sl1,sl2,sl3,sl4,sl5,sl6,sl7,(.pointer (some ⟨B8,0,none⟩)),(.pointer (some ⟨B9,0,none⟩)),(.pointer (some ⟨B10,0,none⟩)),sl11,sl12,sl13,sl14,sl15,sl16,sl17,sl18,sl19,sl20,sl21,sl22,sl23,sl24,sl25,sl26,sl27,sl28,sl29,sl30,sl31,sl32,sl33,sl34,sl35,sl36,sl37,sl38,sl39,sl40,sl41,sl42,sl43,sl44,sl45,sl46,sl47,sl48,sl49,sl50,sl51,sl52,sl53,sl54,sl55,sl56,sl57,sl58,sl59,sl60,sl61,sl62,sl63,sl64,sl65,sl66,sl67,sl68,sl69,sl70,sl71,sl72,sl73,sl74,sl75,sl76,sl77,sl78,sl79,sl80,sl81,sl82,sl83,sl84,sl85,sl86,sl87,sl88,sl89,sl90,sl91,sl92,sl93,sl94,sl95,sl96,sl97,sl98,sl99,sl100,sl101,sl102,sl103,sl104,sl105,sl106,sl107,sl108,sl109,sl110,sl111,sl112,sl113,sl114,sl115,sl116,sl117,sl118,sl119,sl120,sl121],[]⟩ W:=by
 simp only [Code.tl,Tryz.f3,Option.getD_some]
 have hsh1:hs.length≤ks.length:=zdB hF GY hxy
 have hsh2:ks.length≤ms.length:=zdB GY GZ hyz
 have HLX:=hide hF.len
 have HXZ:Hid (∀ u∈hs,Gens n (InL ms) u):=fun u hu=>(hxy u hu).trans fun v hv _=>hyz v hv
 have HBW:=hide hbe;have X8:=hide hx8;have X9:=hide hx9;have X10:=hide hx10;have LX:=hide (LatG.mk hl8);have LY:=hide (LatG.mk hl9);have LZ:=hide (LatG.mk hl10);have HGY:=hide GY;have HGZ:=hide GZ;have HXY:=hide hxy;have HYZ:=hide hyz;have HNN:=hide (roomNI n (by omega))
 clear hbe hx8 hx9 hx10 hl8 hl9 hl10 GY GZ hxy hyz hF
 by_cases hA:hs.length=ks.length
 ·by_cases hB:ks.length=ms.length
  ·have HA:=hide hA;have HB:=hide hB
   clear hA hB
   have HEQ:Hid ((cmpI (absI (det ks.length (ent (muchM hs ks pk))) * absI (det ms.length (ent (muchM ks ms pm)))) (absI (det ms.length (ent (muchM hs ms pm)))) == 0)=true):=by
    show _=_
    rw [show ks.length=ms.length from HB.out,← zaa,← zjj HGY.out HGZ.out HLX.out HXY.out HYZ.out (HA.out.trans HB.out) HB.out rfl]
    simp [cmpI]
   obtain⟨a0,a1,a2,a3⟩:=X8.out.1
   obtain⟨b0,b1,b2,b3⟩:=X9.out.1
   go_wp2_with fail
   clear a0 a1 a2 a3 b0 b1 b2 b3
   refine(zY W _ _ n 6 (n * 6+2) hs ks pk (by exact LX.out.lat) (by exact LY.out.lat) HGY.out h1 h4 (by have:=HNN.out;omega) HXY.out roomS7).mono ?_
   rintro e w1 ⟨hb1,hc1⟩
   rcases hc1 with⟨h,-⟩ |⟨-,v1,M1,rfl,hv1,hM1⟩
   ·exact absurd h (by have:=HA.out;have:=HB.out;omega)
   obtain⟨⟨gn1,go1,gl1,gc1⟩,rfl⟩:=hv1.nm
   have NG1:=hide (NumG.mk hv1)
   clear hv1
   have X8':=hide (X8.out.later hb1)
   have X9':=hide (X9.out.later hb1)
   have X10':=hide (X10.out.later hb1)
   have LX':=hide (LX.out.later hb1)
   have LY':=hide (LY.out.later hb1)
   have LZ':=hide (LZ.out.later hb1)
   clear X8 X9 X10 LX LY LZ
   have X8:=X8'
   have X9:=X9'
   have X10:=X10'
   have LX:=LX'
   have LY:=LY'
   have LZ:=LZ'
   clear X8' X9' X10' LX' LY' LZ'
   have HBW':=hide (HBW.out.trans (hb1.mono HBW.out.size))
   clear HBW
   have HBW:=HBW'
   clear HBW'
   clear hb1
   have hN1:=zy w1 (.cells #[.bool gn1,.slice go1 gl1 gc1] 42)
   have Y1:=hide (BoxL.new w1 (.bool gn1) (.slice go1 gl1 gc1) 42)
   have X8':=hide (X8.out.later hN1)
   have X9':=hide (X9.out.later hN1)
   have X10':=hide (X10.out.later hN1)
   have LX':=hide (LX.out.later hN1)
   have LY':=hide (LY.out.later hN1)
   have LZ':=hide (LZ.out.later hN1)
   have NG1':=hide (NG1.out.later hN1)
   clear X8 X9 X10 LX LY LZ NG1
   have X8:=X8'
   have X9:=X9'
   have X10:=X10'
   have LX:=LX'
   have LY:=LY'
   have LZ:=LZ'
   have NG1:=NG1'
   clear X8' X9' X10' LX' LY' LZ' NG1'
   have HBW':=hide (HBW.out.trans (hN1.mono HBW.out.size))
   clear HBW
   have HBW:=HBW'
   clear HBW'
   clear hN1
   obtain⟨a0,a1,a2,a3⟩:=X9.out.1
   obtain⟨b0,b1,b2,b3⟩:=X10.out.1
   go_wp2_with fail
   clear a0 a1 a2 a3 b0 b1 b2 b3
   generalize w1.alloc (.cells #[.bool gn1,.slice go1 gl1 gc1] 42)=W1 at *
   generalize w1.heap.size=C1 at *
   refine(zY W1 _ _ n (n * 6+2) (n *(n * 6+2)+2) ks ms pm (by exact LY.out.lat) (by exact LZ.out.lat) HGZ.out h1 h4 (by have:=HNN.out;omega) HYZ.out (roomSy n (by omega))).mono ?_
   rintro e w2 ⟨hb2,hc2⟩
   rcases hc2 with⟨h,-⟩ |⟨-,v2,M2,rfl,hv2,hM2⟩
   ·exact absurd h (by have:=HA.out;have:=HB.out;omega)
   obtain⟨⟨gn2,go2,gl2,gc2⟩,rfl⟩:=hv2.nm
   have NG2:=hide (NumG.mk hv2)
   clear hv2
   have X8':=hide (X8.out.later hb2)
   have X9':=hide (X9.out.later hb2)
   have X10':=hide (X10.out.later hb2)
   have LX':=hide (LX.out.later hb2)
   have LY':=hide (LY.out.later hb2)
   have LZ':=hide (LZ.out.later hb2)
   have NG1':=hide (NG1.out.later hb2)
   have Y1':=hide (Y1.out.later hb2)
   clear X8 X9 X10 LX LY LZ NG1 Y1
   have X8:=X8'
   have X9:=X9'
   have X10:=X10'
   have LX:=LX'
   have LY:=LY'
   have LZ:=LZ'
   have NG1:=NG1'
   have Y1:=Y1'
   clear X8' X9' X10' LX' LY' LZ' NG1' Y1'
   have HBW':=hide (HBW.out.trans (hb2.mono HBW.out.size))
   clear HBW
   have HBW:=HBW'
   clear HBW'
   clear hb2
   have hN1:=zy w2 (.cells #[.bool gn2,.slice go2 gl2 gc2] 42)
   have Y2:=hide (BoxL.new w2 (.bool gn2) (.slice go2 gl2 gc2) 42)
   have X8':=hide (X8.out.later hN1)
   have X9':=hide (X9.out.later hN1)
   have X10':=hide (X10.out.later hN1)
   have LX':=hide (LX.out.later hN1)
   have LY':=hide (LY.out.later hN1)
   have LZ':=hide (LZ.out.later hN1)
   have NG1':=hide (NG1.out.later hN1)
   have Y1':=hide (Y1.out.later hN1)
   have NG2':=hide (NG2.out.later hN1)
   clear X8 X9 X10 LX LY LZ NG1 Y1 NG2
   have X8:=X8'
   have X9:=X9'
   have X10:=X10'
   have LX:=LX'
   have LY:=LY'
   have LZ:=LZ'
   have NG1:=NG1'
   have Y1:=Y1'
   have NG2:=NG2'
   clear X8' X9' X10' LX' LY' LZ' NG1' Y1' NG2'
   have HBW':=hide (HBW.out.trans (hN1.mono HBW.out.size))
   clear HBW
   have HBW:=HBW'
   clear HBW'
   clear hN1
   obtain⟨a0,a1,a2,a3⟩:=X8.out.1
   obtain⟨b0,b1,b2,b3⟩:=X10.out.1
   go_wp2_with fail
   clear a0 a1 a2 a3 b0 b1 b2 b3
   generalize w2.alloc (.cells #[.bool gn2,.slice go2 gl2 gc2] 42)=W2 at *
   generalize w2.heap.size=C2 at *
   refine(zY W2 _ _ n 6 (n *(n * 6+2)+2) hs ms pm (by exact LX.out.lat) (by exact LZ.out.lat) HGZ.out h1 h4 (by have:=HNN.out;omega) HXZ.out roomS7).mono ?_
   rintro e w3 ⟨hb3,hc3⟩
   rcases hc3 with⟨h,-⟩ |⟨-,v3,M3,rfl,hv3,hM3⟩
   ·exact absurd h (by have:=HA.out;have:=HB.out;omega)
   obtain⟨⟨gn3,go3,gl3,gc3⟩,rfl⟩:=hv3.nm
   have NG3:=hide (NumG.mk hv3)
   clear hv3
   have X8':=hide (X8.out.later hb3)
   have X9':=hide (X9.out.later hb3)
   have X10':=hide (X10.out.later hb3)
   have LX':=hide (LX.out.later hb3)
   have LY':=hide (LY.out.later hb3)
   have LZ':=hide (LZ.out.later hb3)
   have NG1':=hide (NG1.out.later hb3)
   have Y1':=hide (Y1.out.later hb3)
   have NG2':=hide (NG2.out.later hb3)
   have Y2':=hide (Y2.out.later hb3)
   clear X8 X9 X10 LX LY LZ NG1 Y1 NG2 Y2
   have X8:=X8'
   have X9:=X9'
   have X10:=X10'
   have LX:=LX'
   have LY:=LY'
   have LZ:=LZ'
   have NG1:=NG1'
   have Y1:=Y1'
   have NG2:=NG2'
   have Y2:=Y2'
   clear X8' X9' X10' LX' LY' LZ' NG1' Y1' NG2' Y2'
   have HBW':=hide (HBW.out.trans (hb3.mono HBW.out.size))
   clear HBW
   have HBW:=HBW'
   clear HBW'
   clear hb3
   have hN1:=zy w3 (.cells #[.bool gn3,.slice go3 gl3 gc3] 42)
   have Y3:=hide (BoxL.new w3 (.bool gn3) (.slice go3 gl3 gc3) 42)
   have X8':=hide (X8.out.later hN1)
   have X9':=hide (X9.out.later hN1)
   have X10':=hide (X10.out.later hN1)
   have LX':=hide (LX.out.later hN1)
   have LY':=hide (LY.out.later hN1)
   have LZ':=hide (LZ.out.later hN1)
   have NG1':=hide (NG1.out.later hN1)
   have Y1':=hide (Y1.out.later hN1)
   have NG2':=hide (NG2.out.later hN1)
   have Y2':=hide (Y2.out.later hN1)
   have NG3':=hide (NG3.out.later hN1)
   clear X8 X9 X10 LX LY LZ NG1 Y1 NG2 Y2 NG3
   have X8:=X8'
   have X9:=X9'
   have X10:=X10'
   have LX:=LX'
   have LY:=LY'
   have LZ:=LZ'
   have NG1:=NG1'
   have Y1:=Y1'
   have NG2:=NG2'
   have Y2:=Y2'
   have NG3:=NG3'
   clear X8' X9' X10' LX' LY' LZ' NG1' Y1' NG2' Y2' NG3'
   have HBW':=hide (HBW.out.trans (hN1.mono HBW.out.size))
   clear HBW
   have HBW:=HBW'
   clear HBW'
   clear hN1
   obtain⟨a0,a1,a2,a3⟩:=Y1.out.1
   obtain⟨b0,b1,b2,b3⟩:=Y2.out.1
   obtain⟨c0,c1,c2,c3⟩:=Y3.out.1
   go_wp2_with fail
   generalize w3.alloc (.cells #[.bool gn3,.slice go3 gl3 gc3] 42)=W3 at *
   generalize w3.heap.size=C3 at *
   go_region_held3 (fun w'=>w'.cell? ⟨C1,0,none⟩=some (.bool gn1)∧w'.cell? ⟨C1,1,none⟩=some (.slice go1 gl1 gc1)∧w'.cell? ⟨C2,0,none⟩=some (.bool gn2)∧w'.cell? ⟨C2,1,none⟩=some (.slice go2 gl2 gc2)∧w'.cell? ⟨C3,0,none⟩=some (.bool gn3)∧w'.cell? ⟨C3,1,none⟩=some (.slice go3 gl3 gc3)) (go_keep)
    (first
     |(go_at_call 13;refine(zaH _ _ _ _ _ M1 M2 (by exact NG1.out.num.below (Below.refl _ _).drew zL) (by exact NG2.out.num.below (Below.refl _ _).drew zL) (by omega) (by omega)).mono ?_;rintro e wa ⟨va,rfl,hva,hba⟩;have HBa:=hide (show Below W3.heap.size W3 wa from(Below.refl _ _).drew.trans (hba.mono (by simp)));have NA:=hide hva;have Y1a:=hide (Y1.out.later HBa.out);have Y2a:=hide (Y2.out.later HBa.out);have Y3a:=hide (Y3.out.later HBa.out);have NG3a:=hide (NG3.out.later HBa.out);obtain⟨p0,p1,-,-⟩:=Y1a.out.1;obtain⟨p2,p3,-,-⟩:=Y2a.out.1;obtain⟨p4,p5,-,-⟩:=Y3a.out.1;clear hva hba)
     |(go_at_call 12;refine(ziR wa _ _ _ _ (M1+M2) M3 (by exact NA.out) (by exact NG3a.out.num)).mono ?_;rintro e wb ⟨rfl,hbb⟩;rw [HEQ.out];have HBb:=hide hbb;have HWb:=hide (HBW.out.trans ((HBa.out.trans (HBb.out.mono HBa.out.size)).mono HBW.out.size));have Y1b:=hide (Y1a.out.later HBb.out);have Y2b:=hide (Y2a.out.later HBb.out);have Y3b:=hide (Y3a.out.later HBb.out);obtain⟨p6,p7,-,-⟩:=Y1b.out.1;obtain⟨p8,p9,-,-⟩:=Y2b.out.1;obtain⟨pa,pb,-,-⟩:=Y3b.out.1;clear hbb))
   go_wp2
   go_ret
   exact⟨rfl,HWb.out⟩
  ·have HA:=hide hA;have HB:=hide hB
   clear hA hB
   obtain⟨a0,a1,a2,a3⟩:=X8.out.1
   obtain⟨b0,b1,b2,b3⟩:=X9.out.1
   go_wp2_with fail
   clear a0 a1 a2 a3 b0 b1 b2 b3
   refine(zY W _ _ n 6 (n * 6+2) hs ks pk (by exact LX.out.lat) (by exact LY.out.lat) HGY.out h1 h4 (by have:=HNN.out;omega) HXY.out roomS7).mono ?_
   rintro e w1 ⟨hb1,hc1⟩
   rcases hc1 with⟨h,-⟩ |⟨-,v1,M1,rfl,hv1,hM1⟩
   ·exact absurd h (by have:=HA.out;have:=HB.out;omega)
   obtain⟨⟨gn1,go1,gl1,gc1⟩,rfl⟩:=hv1.nm
   have NG1:=hide (NumG.mk hv1)
   clear hv1
   have X8':=hide (X8.out.later hb1)
   have X9':=hide (X9.out.later hb1)
   have X10':=hide (X10.out.later hb1)
   have LX':=hide (LX.out.later hb1)
   have LY':=hide (LY.out.later hb1)
   have LZ':=hide (LZ.out.later hb1)
   clear X8 X9 X10 LX LY LZ
   have X8:=X8'
   have X9:=X9'
   have X10:=X10'
   have LX:=LX'
   have LY:=LY'
   have LZ:=LZ'
   clear X8' X9' X10' LX' LY' LZ'
   have HBW':=hide (HBW.out.trans (hb1.mono HBW.out.size))
   clear HBW
   have HBW:=HBW'
   clear HBW'
   clear hb1
   have hN1:=zy w1 (.cells #[.bool gn1,.slice go1 gl1 gc1] 42)
   have Y1:=hide (BoxL.new w1 (.bool gn1) (.slice go1 gl1 gc1) 42)
   have X8':=hide (X8.out.later hN1)
   have X9':=hide (X9.out.later hN1)
   have X10':=hide (X10.out.later hN1)
   have LX':=hide (LX.out.later hN1)
   have LY':=hide (LY.out.later hN1)
   have LZ':=hide (LZ.out.later hN1)
   have NG1':=hide (NG1.out.later hN1)
   clear X8 X9 X10 LX LY LZ NG1
   have X8:=X8'
   have X9:=X9'
   have X10:=X10'
   have LX:=LX'
   have LY:=LY'
   have LZ:=LZ'
   have NG1:=NG1'
   clear X8' X9' X10' LX' LY' LZ' NG1'
   have HBW':=hide (HBW.out.trans (hN1.mono HBW.out.size))
   clear HBW
   have HBW:=HBW'
   clear HBW'
   clear hN1
   obtain⟨a0,a1,a2,a3⟩:=X9.out.1
   obtain⟨b0,b1,b2,b3⟩:=X10.out.1
   go_wp2_with fail
   clear a0 a1 a2 a3 b0 b1 b2 b3
   generalize w1.alloc (.cells #[.bool gn1,.slice go1 gl1 gc1] 42)=W1 at *
   generalize w1.heap.size=C1 at *
   refine(zY W1 _ _ n (n * 6+2) (n *(n * 6+2)+2) ks ms pm (by exact LY.out.lat) (by exact LZ.out.lat) HGZ.out h1 h4 (by have:=HNN.out;omega) HYZ.out (roomSy n (by omega))).mono ?_
   rintro e w2 ⟨hb2,hc2⟩
   rcases hc2 with⟨-,rfl⟩ |⟨h,-⟩
   rotate_left
   ·exact absurd h (by have:=HA.out;have:=HB.out;omega)
   have X8':=hide (X8.out.later hb2)
   have X9':=hide (X9.out.later hb2)
   have X10':=hide (X10.out.later hb2)
   have LX':=hide (LX.out.later hb2)
   have LY':=hide (LY.out.later hb2)
   have LZ':=hide (LZ.out.later hb2)
   have NG1':=hide (NG1.out.later hb2)
   have Y1':=hide (Y1.out.later hb2)
   clear X8 X9 X10 LX LY LZ NG1 Y1
   have X8:=X8'
   have X9:=X9'
   have X10:=X10'
   have LX:=LX'
   have LY:=LY'
   have LZ:=LZ'
   have NG1:=NG1'
   have Y1:=Y1'
   clear X8' X9' X10' LX' LY' LZ' NG1' Y1'
   have HBW':=hide (HBW.out.trans (hb2.mono HBW.out.size))
   clear HBW
   have HBW:=HBW'
   clear HBW'
   clear hb2
   have hN1:=zy w2 (.cells #[.bool false,.slice none 0 0] 42)
   have Y2:=hide (BoxL.new w2 (.bool false) (.slice none 0 0) 42)
   have X8':=hide (X8.out.later hN1)
   have X9':=hide (X9.out.later hN1)
   have X10':=hide (X10.out.later hN1)
   have LX':=hide (LX.out.later hN1)
   have LY':=hide (LY.out.later hN1)
   have LZ':=hide (LZ.out.later hN1)
   have NG1':=hide (NG1.out.later hN1)
   have Y1':=hide (Y1.out.later hN1)
   clear X8 X9 X10 LX LY LZ NG1 Y1
   have X8:=X8'
   have X9:=X9'
   have X10:=X10'
   have LX:=LX'
   have LY:=LY'
   have LZ:=LZ'
   have NG1:=NG1'
   have Y1:=Y1'
   clear X8' X9' X10' LX' LY' LZ' NG1' Y1'
   have HBW':=hide (HBW.out.trans (hN1.mono HBW.out.size))
   clear HBW
   have HBW:=HBW'
   clear HBW'
   clear hN1
   obtain⟨a0,a1,a2,a3⟩:=X8.out.1
   obtain⟨b0,b1,b2,b3⟩:=X10.out.1
   go_wp2_with fail
   clear a0 a1 a2 a3 b0 b1 b2 b3
   generalize w2.alloc (.cells #[.bool false,.slice none 0 0] 42)=W2 at *
   generalize w2.heap.size=C2 at *
   refine(zY W2 _ _ n 6 (n *(n * 6+2)+2) hs ms pm (by exact LX.out.lat) (by exact LZ.out.lat) HGZ.out h1 h4 (by have:=HNN.out;omega) HXZ.out roomS7).mono ?_
   rintro e w3 ⟨hb3,hc3⟩
   rcases hc3 with⟨-,rfl⟩ |⟨h,-⟩
   rotate_left
   ·exact absurd h (by have:=HA.out;have:=HB.out;omega)
   have X8':=hide (X8.out.later hb3)
   have X9':=hide (X9.out.later hb3)
   have X10':=hide (X10.out.later hb3)
   have LX':=hide (LX.out.later hb3)
   have LY':=hide (LY.out.later hb3)
   have LZ':=hide (LZ.out.later hb3)
   have NG1':=hide (NG1.out.later hb3)
   have Y1':=hide (Y1.out.later hb3)
   have Y2':=hide (Y2.out.later hb3)
   clear X8 X9 X10 LX LY LZ NG1 Y1 Y2
   have X8:=X8'
   have X9:=X9'
   have X10:=X10'
   have LX:=LX'
   have LY:=LY'
   have LZ:=LZ'
   have NG1:=NG1'
   have Y1:=Y1'
   have Y2:=Y2'
   clear X8' X9' X10' LX' LY' LZ' NG1' Y1' Y2'
   have HBW':=hide (HBW.out.trans (hb3.mono HBW.out.size))
   clear HBW
   have HBW:=HBW'
   clear HBW'
   clear hb3
   have hN1:=zy w3 (.cells #[.bool false,.slice none 0 0] 42)
   have Y3:=hide (BoxL.new w3 (.bool false) (.slice none 0 0) 42)
   have X8':=hide (X8.out.later hN1)
   have X9':=hide (X9.out.later hN1)
   have X10':=hide (X10.out.later hN1)
   have LX':=hide (LX.out.later hN1)
   have LY':=hide (LY.out.later hN1)
   have LZ':=hide (LZ.out.later hN1)
   have NG1':=hide (NG1.out.later hN1)
   have Y1':=hide (Y1.out.later hN1)
   have Y2':=hide (Y2.out.later hN1)
   clear X8 X9 X10 LX LY LZ NG1 Y1 Y2
   have X8:=X8'
   have X9:=X9'
   have X10:=X10'
   have LX:=LX'
   have LY:=LY'
   have LZ:=LZ'
   have NG1:=NG1'
   have Y1:=Y1'
   have Y2:=Y2'
   clear X8' X9' X10' LX' LY' LZ' NG1' Y1' Y2'
   have HBW':=hide (HBW.out.trans (hN1.mono HBW.out.size))
   clear HBW
   have HBW:=HBW'
   clear HBW'
   clear hN1
   go_wp2_with fail
   generalize w3.alloc (.cells #[.bool false,.slice none 0 0] 42)=W3 at *
   generalize w3.heap.size=C3 at *
   refine(zaV W3 13).mono ?_
   rintro e w4 ⟨rfl,rfl⟩
   go_wp2_with fail
   refine(zaV _ 13).mono ?_
   rintro e w5 ⟨rfl,rfl⟩
   go_wp2
   go_ret
   exact⟨rfl,HBW.out⟩
 ·by_cases hB:ks.length=ms.length
  ·have HA:=hide hA;have HB:=hide hB
   clear hA hB
   obtain⟨a0,a1,a2,a3⟩:=X8.out.1
   obtain⟨b0,b1,b2,b3⟩:=X9.out.1
   go_wp2_with fail
   clear a0 a1 a2 a3 b0 b1 b2 b3
   refine(zY W _ _ n 6 (n * 6+2) hs ks pk (by exact LX.out.lat) (by exact LY.out.lat) HGY.out h1 h4 (by have:=HNN.out;omega) HXY.out roomS7).mono ?_
   rintro e w1 ⟨hb1,hc1⟩
   rcases hc1 with⟨-,rfl⟩ |⟨h,-⟩
   rotate_left
   ·exact absurd h (by have:=HA.out;have:=HB.out;omega)
   have X8':=hide (X8.out.later hb1)
   have X9':=hide (X9.out.later hb1)
   have X10':=hide (X10.out.later hb1)
   have LX':=hide (LX.out.later hb1)
   have LY':=hide (LY.out.later hb1)
   have LZ':=hide (LZ.out.later hb1)
   clear X8 X9 X10 LX LY LZ
   have X8:=X8'
   have X9:=X9'
   have X10:=X10'
   have LX:=LX'
   have LY:=LY'
   have LZ:=LZ'
   clear X8' X9' X10' LX' LY' LZ'
   have HBW':=hide (HBW.out.trans (hb1.mono HBW.out.size))
   clear HBW
   have HBW:=HBW'
   clear HBW'
   clear hb1
   have hN1:=zy w1 (.cells #[.bool false,.slice none 0 0] 42)
   have Y1:=hide (BoxL.new w1 (.bool false) (.slice none 0 0) 42)
   have X8':=hide (X8.out.later hN1)
   have X9':=hide (X9.out.later hN1)
   have X10':=hide (X10.out.later hN1)
   have LX':=hide (LX.out.later hN1)
   have LY':=hide (LY.out.later hN1)
   have LZ':=hide (LZ.out.later hN1)
   clear X8 X9 X10 LX LY LZ
   have X8:=X8'
   have X9:=X9'
   have X10:=X10'
   have LX:=LX'
   have LY:=LY'
   have LZ:=LZ'
   clear X8' X9' X10' LX' LY' LZ'
   have HBW':=hide (HBW.out.trans (hN1.mono HBW.out.size))
   clear HBW
   have HBW:=HBW'
   clear HBW'
   clear hN1
   obtain⟨a0,a1,a2,a3⟩:=X9.out.1
   obtain⟨b0,b1,b2,b3⟩:=X10.out.1
   go_wp2_with fail
   clear a0 a1 a2 a3 b0 b1 b2 b3
   generalize w1.alloc (.cells #[.bool false,.slice none 0 0] 42)=W1 at *
   generalize w1.heap.size=C1 at *
   refine(zY W1 _ _ n (n * 6+2) (n *(n * 6+2)+2) ks ms pm (by exact LY.out.lat) (by exact LZ.out.lat) HGZ.out h1 h4 (by have:=HNN.out;omega) HYZ.out (roomSy n (by omega))).mono ?_
   rintro e w2 ⟨hb2,hc2⟩
   rcases hc2 with⟨h,-⟩ |⟨-,v2,M2,rfl,hv2,hM2⟩
   ·exact absurd h (by have:=HA.out;have:=HB.out;omega)
   obtain⟨⟨gn2,go2,gl2,gc2⟩,rfl⟩:=hv2.nm
   have NG2:=hide (NumG.mk hv2)
   clear hv2
   have X8':=hide (X8.out.later hb2)
   have X9':=hide (X9.out.later hb2)
   have X10':=hide (X10.out.later hb2)
   have LX':=hide (LX.out.later hb2)
   have LY':=hide (LY.out.later hb2)
   have LZ':=hide (LZ.out.later hb2)
   have Y1':=hide (Y1.out.later hb2)
   clear X8 X9 X10 LX LY LZ Y1
   have X8:=X8'
   have X9:=X9'
   have X10:=X10'
   have LX:=LX'
   have LY:=LY'
   have LZ:=LZ'
   have Y1:=Y1'
   clear X8' X9' X10' LX' LY' LZ' Y1'
   have HBW':=hide (HBW.out.trans (hb2.mono HBW.out.size))
   clear HBW
   have HBW:=HBW'
   clear HBW'
   clear hb2
   have hN1:=zy w2 (.cells #[.bool gn2,.slice go2 gl2 gc2] 42)
   have Y2:=hide (BoxL.new w2 (.bool gn2) (.slice go2 gl2 gc2) 42)
   have X8':=hide (X8.out.later hN1)
   have X9':=hide (X9.out.later hN1)
   have X10':=hide (X10.out.later hN1)
   have LX':=hide (LX.out.later hN1)
   have LY':=hide (LY.out.later hN1)
   have LZ':=hide (LZ.out.later hN1)
   have Y1':=hide (Y1.out.later hN1)
   have NG2':=hide (NG2.out.later hN1)
   clear X8 X9 X10 LX LY LZ Y1 NG2
   have X8:=X8'
   have X9:=X9'
   have X10:=X10'
   have LX:=LX'
   have LY:=LY'
   have LZ:=LZ'
   have Y1:=Y1'
   have NG2:=NG2'
   clear X8' X9' X10' LX' LY' LZ' Y1' NG2'
   have HBW':=hide (HBW.out.trans (hN1.mono HBW.out.size))
   clear HBW
   have HBW:=HBW'
   clear HBW'
   clear hN1
   obtain⟨a0,a1,a2,a3⟩:=X8.out.1
   obtain⟨b0,b1,b2,b3⟩:=X10.out.1
   go_wp2_with fail
   clear a0 a1 a2 a3 b0 b1 b2 b3
   generalize w2.alloc (.cells #[.bool gn2,.slice go2 gl2 gc2] 42)=W2 at *
   generalize w2.heap.size=C2 at *
   refine(zY W2 _ _ n 6 (n *(n * 6+2)+2) hs ms pm (by exact LX.out.lat) (by exact LZ.out.lat) HGZ.out h1 h4 (by have:=HNN.out;omega) HXZ.out roomS7).mono ?_
   rintro e w3 ⟨hb3,hc3⟩
   rcases hc3 with⟨-,rfl⟩ |⟨h,-⟩
   rotate_left
   ·exact absurd h (by have:=HA.out;have:=HB.out;omega)
   have X8':=hide (X8.out.later hb3)
   have X9':=hide (X9.out.later hb3)
   have X10':=hide (X10.out.later hb3)
   have LX':=hide (LX.out.later hb3)
   have LY':=hide (LY.out.later hb3)
   have LZ':=hide (LZ.out.later hb3)
   have Y1':=hide (Y1.out.later hb3)
   have NG2':=hide (NG2.out.later hb3)
   have Y2':=hide (Y2.out.later hb3)
   clear X8 X9 X10 LX LY LZ Y1 NG2 Y2
   have X8:=X8'
   have X9:=X9'
   have X10:=X10'
   have LX:=LX'
   have LY:=LY'
   have LZ:=LZ'
   have Y1:=Y1'
   have NG2:=NG2'
   have Y2:=Y2'
   clear X8' X9' X10' LX' LY' LZ' Y1' NG2' Y2'
   have HBW':=hide (HBW.out.trans (hb3.mono HBW.out.size))
   clear HBW
   have HBW:=HBW'
   clear HBW'
   clear hb3
   have hN1:=zy w3 (.cells #[.bool false,.slice none 0 0] 42)
   have Y3:=hide (BoxL.new w3 (.bool false) (.slice none 0 0) 42)
   have X8':=hide (X8.out.later hN1)
   have X9':=hide (X9.out.later hN1)
   have X10':=hide (X10.out.later hN1)
   have LX':=hide (LX.out.later hN1)
   have LY':=hide (LY.out.later hN1)
   have LZ':=hide (LZ.out.later hN1)
   have Y1':=hide (Y1.out.later hN1)
   have NG2':=hide (NG2.out.later hN1)
   have Y2':=hide (Y2.out.later hN1)
   clear X8 X9 X10 LX LY LZ Y1 NG2 Y2
   have X8:=X8'
   have X9:=X9'
   have X10:=X10'
   have LX:=LX'
   have LY:=LY'
   have LZ:=LZ'
   have Y1:=Y1'
   have NG2:=NG2'
   have Y2:=Y2'
   clear X8' X9' X10' LX' LY' LZ' Y1' NG2' Y2'
   have HBW':=hide (HBW.out.trans (hN1.mono HBW.out.size))
   clear HBW
   have HBW:=HBW'
   clear HBW'
   clear hN1
   go_wp2_with fail
   generalize w3.alloc (.cells #[.bool false,.slice none 0 0] 42)=W3 at *
   generalize w3.heap.size=C3 at *
   refine(zaV W3 13).mono ?_
   rintro e w4 ⟨rfl,rfl⟩
   go_wp2_with fail
   refine(zaV _ 13).mono ?_
   rintro e w5 ⟨rfl,rfl⟩
   go_wp2
   go_ret
   exact⟨rfl,HBW.out⟩
  ·have HA:=hide hA;have HB:=hide hB
   clear hA hB
   obtain⟨a0,a1,a2,a3⟩:=X8.out.1
   obtain⟨b0,b1,b2,b3⟩:=X9.out.1
   go_wp2_with fail
   clear a0 a1 a2 a3 b0 b1 b2 b3
   refine(zY W _ _ n 6 (n * 6+2) hs ks pk (by exact LX.out.lat) (by exact LY.out.lat) HGY.out h1 h4 (by have:=HNN.out;omega) HXY.out roomS7).mono ?_
   rintro e w1 ⟨hb1,hc1⟩
   rcases hc1 with⟨-,rfl⟩ |⟨h,-⟩
   rotate_left
   ·exact absurd h (by have:=HA.out;have:=HB.out;omega)
   have X8':=hide (X8.out.later hb1)
   have X9':=hide (X9.out.later hb1)
   have X10':=hide (X10.out.later hb1)
   have LX':=hide (LX.out.later hb1)
   have LY':=hide (LY.out.later hb1)
   have LZ':=hide (LZ.out.later hb1)
   clear X8 X9 X10 LX LY LZ
   have X8:=X8'
   have X9:=X9'
   have X10:=X10'
   have LX:=LX'
   have LY:=LY'
   have LZ:=LZ'
   clear X8' X9' X10' LX' LY' LZ'
   have HBW':=hide (HBW.out.trans (hb1.mono HBW.out.size))
   clear HBW
   have HBW:=HBW'
   clear HBW'
   clear hb1
   have hN1:=zy w1 (.cells #[.bool false,.slice none 0 0] 42)
   have Y1:=hide (BoxL.new w1 (.bool false) (.slice none 0 0) 42)
   have X8':=hide (X8.out.later hN1)
   have X9':=hide (X9.out.later hN1)
   have X10':=hide (X10.out.later hN1)
   have LX':=hide (LX.out.later hN1)
   have LY':=hide (LY.out.later hN1)
   have LZ':=hide (LZ.out.later hN1)
   clear X8 X9 X10 LX LY LZ
   have X8:=X8'
   have X9:=X9'
   have X10:=X10'
   have LX:=LX'
   have LY:=LY'
   have LZ:=LZ'
   clear X8' X9' X10' LX' LY' LZ'
   have HBW':=hide (HBW.out.trans (hN1.mono HBW.out.size))
   clear HBW
   have HBW:=HBW'
   clear HBW'
   clear hN1
   obtain⟨a0,a1,a2,a3⟩:=X9.out.1
   obtain⟨b0,b1,b2,b3⟩:=X10.out.1
   go_wp2_with fail
   clear a0 a1 a2 a3 b0 b1 b2 b3
   generalize w1.alloc (.cells #[.bool false,.slice none 0 0] 42)=W1 at *
   generalize w1.heap.size=C1 at *
   refine(zY W1 _ _ n (n * 6+2) (n *(n * 6+2)+2) ks ms pm (by exact LY.out.lat) (by exact LZ.out.lat) HGZ.out h1 h4 (by have:=HNN.out;omega) HYZ.out (roomSy n (by omega))).mono ?_
   rintro e w2 ⟨hb2,hc2⟩
   rcases hc2 with⟨-,rfl⟩ |⟨h,-⟩
   rotate_left
   ·exact absurd h (by have:=HA.out;have:=HB.out;omega)
   have X8':=hide (X8.out.later hb2)
   have X9':=hide (X9.out.later hb2)
   have X10':=hide (X10.out.later hb2)
   have LX':=hide (LX.out.later hb2)
   have LY':=hide (LY.out.later hb2)
   have LZ':=hide (LZ.out.later hb2)
   have Y1':=hide (Y1.out.later hb2)
   clear X8 X9 X10 LX LY LZ Y1
   have X8:=X8'
   have X9:=X9'
   have X10:=X10'
   have LX:=LX'
   have LY:=LY'
   have LZ:=LZ'
   have Y1:=Y1'
   clear X8' X9' X10' LX' LY' LZ' Y1'
   have HBW':=hide (HBW.out.trans (hb2.mono HBW.out.size))
   clear HBW
   have HBW:=HBW'
   clear HBW'
   clear hb2
   have hN1:=zy w2 (.cells #[.bool false,.slice none 0 0] 42)
   have Y2:=hide (BoxL.new w2 (.bool false) (.slice none 0 0) 42)
   have X8':=hide (X8.out.later hN1)
   have X9':=hide (X9.out.later hN1)
   have X10':=hide (X10.out.later hN1)
   have LX':=hide (LX.out.later hN1)
   have LY':=hide (LY.out.later hN1)
   have LZ':=hide (LZ.out.later hN1)
   have Y1':=hide (Y1.out.later hN1)
   clear X8 X9 X10 LX LY LZ Y1
   have X8:=X8'
   have X9:=X9'
   have X10:=X10'
   have LX:=LX'
   have LY:=LY'
   have LZ:=LZ'
   have Y1:=Y1'
   clear X8' X9' X10' LX' LY' LZ' Y1'
   have HBW':=hide (HBW.out.trans (hN1.mono HBW.out.size))
   clear HBW
   have HBW:=HBW'
   clear HBW'
   clear hN1
   obtain⟨a0,a1,a2,a3⟩:=X8.out.1
   obtain⟨b0,b1,b2,b3⟩:=X10.out.1
   go_wp2_with fail
   clear a0 a1 a2 a3 b0 b1 b2 b3
   generalize w2.alloc (.cells #[.bool false,.slice none 0 0] 42)=W2 at *
   generalize w2.heap.size=C2 at *
   refine(zY W2 _ _ n 6 (n *(n * 6+2)+2) hs ms pm (by exact LX.out.lat) (by exact LZ.out.lat) HGZ.out h1 h4 (by have:=HNN.out;omega) HXZ.out roomS7).mono ?_
   rintro e w3 ⟨hb3,hc3⟩
   rcases hc3 with⟨-,rfl⟩ |⟨h,-⟩
   rotate_left
   ·exact absurd h (by have:=HA.out;have:=HB.out;omega)
   have X8':=hide (X8.out.later hb3)
   have X9':=hide (X9.out.later hb3)
   have X10':=hide (X10.out.later hb3)
   have LX':=hide (LX.out.later hb3)
   have LY':=hide (LY.out.later hb3)
   have LZ':=hide (LZ.out.later hb3)
   have Y1':=hide (Y1.out.later hb3)
   have Y2':=hide (Y2.out.later hb3)
   clear X8 X9 X10 LX LY LZ Y1 Y2
   have X8:=X8'
   have X9:=X9'
   have X10:=X10'
   have LX:=LX'
   have LY:=LY'
   have LZ:=LZ'
   have Y1:=Y1'
   have Y2:=Y2'
   clear X8' X9' X10' LX' LY' LZ' Y1' Y2'
   have HBW':=hide (HBW.out.trans (hb3.mono HBW.out.size))
   clear HBW
   have HBW:=HBW'
   clear HBW'
   clear hb3
   have hN1:=zy w3 (.cells #[.bool false,.slice none 0 0] 42)
   have Y3:=hide (BoxL.new w3 (.bool false) (.slice none 0 0) 42)
   have X8':=hide (X8.out.later hN1)
   have X9':=hide (X9.out.later hN1)
   have X10':=hide (X10.out.later hN1)
   have LX':=hide (LX.out.later hN1)
   have LY':=hide (LY.out.later hN1)
   have LZ':=hide (LZ.out.later hN1)
   have Y1':=hide (Y1.out.later hN1)
   have Y2':=hide (Y2.out.later hN1)
   clear X8 X9 X10 LX LY LZ Y1 Y2
   have X8:=X8'
   have X9:=X9'
   have X10:=X10'
   have LX:=LX'
   have LY:=LY'
   have LZ:=LZ'
   have Y1:=Y1'
   have Y2:=Y2'
   clear X8' X9' X10' LX' LY' LZ' Y1' Y2'
   have HBW':=hide (HBW.out.trans (hN1.mono HBW.out.size))
   clear HBW
   have HBW:=HBW'
   clear HBW'
   clear hN1
   go_wp2_with fail
   generalize w3.alloc (.cells #[.bool false,.slice none 0 0] 42)=W3 at *
   generalize w3.heap.size=C3 at *
   refine(zaV W3 13).mono ?_
   rintro e w4 ⟨rfl,rfl⟩
   go_wp2_with fail
   refine(zaV _ 13).mono ?_
   rintro e w5 ⟨rfl,rfl⟩
   go_wp2_with fail
   refine(zaV _ 13).mono ?_
   rintro e w5 ⟨rfl,rfl⟩
   go_wp2
   go_ret
   exact⟨rfl,HBW.out⟩
end Go.Proofs.YtnkcjkpkphjecaaGreatDoor
/- A lattice's variable is written, in which another lattice stood: what others hold stays. -/
namespace Go.Proofs.YtnkcjkpkphjecaaGreatDoor
open Go.RowKit Limbs
theorem MatN.setList {W:World}{B:Nat}{u:Value}{hs ks:List (List Int)}{nv mv:Nat}{x:Int}{o:Option Addr}{l c:Nat}(y z:Value)(h:MatN W u hs nv)(hpos:∀ zs∈hs,0 < zs.length)(hk:MatN W (.slice o l c) ks mv)(c0:W.cell? ⟨B,0,none⟩=some (.int .i64 x))(c1:W.cell? ⟨B,1,none⟩=some (.slice o l c)):
  MatN ((W.setCell ⟨B,0,none⟩ y).setCell ⟨B,1,none⟩ z) u hs nv:=by
 have k1:(W.setCell ⟨B,0,none⟩ y).cell? ⟨B,1,none⟩=some (.slice o l c):=Eq.trans (World.cell?_setCell_other (h:=fun e=>by simp at e) ..) c1
 have stay:∀(b o:Nat) (v:Value),W.cell? ⟨b,o,none⟩=some v→¬(b=B∧o=0)→¬(b=B∧o=1)→((W.setCell ⟨B,0,none⟩ y).setCell ⟨B,1,none⟩ z).cell? ⟨b,o,none⟩=some v:=fun b o v hv h0 h1=>
  Eq.trans (World.cell?_setCell_other (h:=fun e=>h1 (by simp only [Addr.mk.injEq,and_true] at e;exact⟨e.1.symm,e.2.symm⟩)) ..) (Eq.trans (World.cell?_setCell_other (h:=fun e=>h0 (by simp only [Addr.mk.injEq,and_true] at e;exact⟨e.1.symm,e.2.symm⟩)) ..) hv)
 have hsz:((W.setCell ⟨B,0,none⟩ y).setCell ⟨B,1,none⟩ z).heap.size=W.heap.size:=by simp
 obtain⟨ao,cap,hv,h1,h2⟩:=h
 refine⟨ao,cap,hv,h1,fun hh=>?_⟩
 obtain⟨b,off,e,hlt,hc⟩:=h2 hh
 refine⟨b,off,e,by rw [hsz];exact hlt,fun i zs hi=>?_⟩
 obtain⟨v,cv,hv⟩:=hc i zs hi
 have hzs:=hpos zs (List.mem_of_getElem? hi)
 obtain⟨vb,voff,vcap,rfl⟩:=hv.form hzs
 refine⟨_,stay _ _ _ cv (fun⟨e1,e2⟩=>?_) (fun⟨e1,e2⟩=>?_),?_⟩
 ·rw [e1,e2,c0] at cv;cases cv
 ·rw [e1,e2,c1] at cv
  simp only [Option.some.injEq,Value.slice.injEq] at cv
  obtain⟨rfl,rfl,rfl⟩:=cv
  obtain⟨ko,kcap,ek,-,k2⟩:=hk
  simp only [Value.slice.injEq] at ek
  obtain⟨rfl,ek,rfl⟩:=ek
  obtain⟨kb,koff,e3,-,k3⟩:=k2 (by omega)
  simp only [Option.some.injEq,Addr.mk.injEq,and_true] at e3
  obtain⟨rfl,rfl⟩:=e3
  obtain⟨r0,h0⟩:∃ r0,ks[0]?=some r0:=⟨_,List.getElem?_eq_getElem (by omega)⟩
  obtain⟨q,cq,hq⟩:=k3 0 r0 h0
  obtain⟨qo,qc,rfl,-,-⟩:=hq
  obtain⟨-,neg,o,l,c,d0,-,-⟩:=hv.at 0 hzs
  rw [Nat.zero_mul] at d0
  rw [cq] at d0
  cases d0
 ·have hat:=fun j (hj:j < zs.length)=>hv.at j hj
  obtain⟨_,_,ev,g1,-⟩:=hv
  refine⟨_,_,ev,g1,fun _=>⟨vb,voff,?_,by rw [hsz];exact(hat 0 hzs).1,fun j hj=>?_⟩⟩
  ·simp only [Value.slice.injEq,true_and] at ev
   exact ev.1.symm
  ·obtain⟨-,neg,o,l,c,d0,d1,hn⟩:=hat j hj
   refine⟨neg,o,l,c,stay _ _ _ d0 (fun⟨e1,e2⟩=>?_) (fun⟨e1,e2⟩=>?_),stay _ _ _ d1 (fun⟨e1,e2⟩=>?_) (fun⟨e1,e2⟩=>?_),(hn.setCell c0 (by simp)).setCell k1 (by simp)⟩
   ·rw [e1,e2,c0] at d0;cases d0
   ·rw [e1,e2,c1] at d0;cases d0
   ·rw [e1,e2,c0] at d1;cases d1
   ·have e3:voff+j * 2=0:=by omega
    rw [e1,e3,c0] at d0;cases d0
theorem LatG.setOver {W:World}{B n m:Nat}{v:Value}{hs ks:List (List Int)}{nv mv:Nat}{x:Int}{o:Option Addr}{l c:Nat}(h:LatG W v n hs nv)(hk:LatG W (.agg #[.int .i64 (m:Int),.slice o l c]) m ks mv)(hb:BoxL W B (.int .i64 x) (.slice o l c))(h1:1≤n)(y z:Value):LatG ((W.setCell ⟨B,0,none⟩ y).setCell ⟨B,1,none⟩ z) v n hs nv:=by
 obtain⟨⟨⟨u,e,hu⟩,p,hp⟩⟩:=h
 obtain⟨⟨⟨u',e',hu'⟩,-⟩⟩:=hk
 simp only [Value.agg.injEq,Array.mk.injEq,List.cons.injEq,and_true,true_and] at e'
 subst e'
 exact⟨⟨u,e,hu.setList y z (fun zs hz=>by rw [hp.len zs hz];omega) hu' hb.1.1 hb.1.2.1⟩,p,hp⟩
theorem zfc {n:Nat}{hs ks ts:List (List Int)}(hl:∀ r∈hs,r.length=n)(a:Alikes n (InL ts) (InL (hs ++ ks))):∀ u∈hs,Gens n (InL ts) u:=fun u hu=>(a u).2 (.base (List.mem_append_left _ hu) (hl u hu))
end Go.Proofs.YtnkcjkpkphjecaaGreatDoor
/- TopIndex: indices are multiplied. -/
namespace Go.Proofs.YtnkcjkpkphjecaaGreatDoor
open Go.RowKit Limbs Digs
theorem nbI2:∀ n,n < 5→nbK n (n *(n * 6+2)+2) (n * 6+2) n≤100000:=by decide
set_option linter.unusedSimpArgs false in
set_option maxRecDepth 100000 in
set_option maxHeartbeats 6400000 in
theorem zkP (w:World)(ht:Tab w)(nA nB nC:Int)(ga gb gc:Option Addr)(ca cb cc:Nat)(ra rb rc:List (List Int))(ha:RowsS w (.slice ga ra.length ca) ra)(hb:RowsS w (.slice gb rb.length cb) rb)(hc:RowsS w (.slice gc rc.length cc) rc):
  Calls Tryz.prog 3 #[.agg #[.int .i64 nA,.slice ga ra.length ca],.agg #[.int .i64 nB,.slice gb rb.length cb],.agg #[.int .i64 nC,.slice gc rc.length cc]] w fun e w'=>e=.returned (.bool true)∧Below w.heap.size w w':=by
 have HT:=hide ht;have HA:=hide ha;have HB:=hide hb;have HC:=hide hc
 clear ht ha hb hc
 have XA:=hide (((BoxL.new w (.int .i64 nA) (.slice ga ra.length ca) 24).later (zy _ (.cells #[.int .i64 nB,.slice gb rb.length cb] 24))).later (zy _ (.cells #[.int .i64 nC,.slice gc rc.length cc] 24)))
 have XB:=hide ((BoxL.new (w.alloc (.cells #[.int .i64 nA,.slice ga ra.length ca] 24)) (.int .i64 nB) (.slice gb rb.length cb) 24).later (zy _ (.cells #[.int .i64 nC,.slice gc rc.length cc] 24)))
 have XC:=hide (BoxL.new ((w.alloc (.cells #[.int .i64 nA,.slice ga ra.length ca] 24)).alloc (.cells #[.int .i64 nB,.slice gb rb.length cb] 24)) (.int .i64 nC) (.slice gc rc.length cc) 24)
 have HBW:=hide ((((Below.refl w.heap.size w).alloc zL (.cells #[.int .i64 nA,.slice ga ra.length ca] 24)).alloc (by simp) (.cells #[.int .i64 nB,.slice gb rb.length cb] 24)).alloc (by simp;omega) (.cells #[.int .i64 nC,.slice gc rc.length cc] 24))
 have HS1:Hid ((w.alloc (.cells #[.int .i64 nA,.slice ga ra.length ca] 24)).heap.size=w.heap.size+1):=by show _=_;simp
 have HS2:Hid (((w.alloc (.cells #[.int .i64 nA,.slice ga ra.length ca] 24)).alloc (.cells #[.int .i64 nB,.slice gb rb.length cb] 24)).heap.size=w.heap.size+1+1):=by show _=_;simp
 rw [HS1.out] at XB
 rw [HS2.out] at XC
 clear HS1 HS2
 go_enter Tryz.func3,Tryz.ntmps3
 go_wp2_with fail
 generalize (((w.alloc (.cells #[.int .i64 nA,.slice ga ra.length ca] 24)).alloc (.cells #[.int .i64 nB,.slice gb rb.length cb] 24)).alloc (.cells #[.int .i64 nC,.slice gc rc.length cc] 24))=W0 at *
 refine(zf4 W0 (HT.out.below HBW.out)).mono ?_
 rintro e w1 ⟨rfl,hb1⟩
 have XA':=hide (XA.out.later hb1)
 have XB':=hide (XB.out.later hb1)
 have XC':=hide (XC.out.later hb1)
 clear XA XB XC
 have XA:=XA'
 have XB:=XB'
 have XC:=XC'
 clear XA' XB' XC'
 have HBW':=hide (HBW.out.trans (hb1.mono HBW.out.size))
 clear HBW
 have HBW:=HBW'
 clear HBW'
 clear hb1
 obtain⟨a0,a1,a2,a3⟩:=XA.out.1
 obtain⟨b0,b1,b2,b3⟩:=XB.out.1
 go_wp2_with fail
 refine(zkY w1 nA nB ga gb ca cb ra rb (HA.out.below HBW.out) (HB.out.below HBW.out)).mono ?_
 rintro e w2 ⟨hb2,i1,o1,l1,k1,i2,o2,l2,k2,ok,too,rfl,hg1,hg2⟩
 clear a0 a1 a2 a3 b0 b1 b2 b3
 have XA':=hide (XA.out.later hb2)
 have XC':=hide (XC.out.later hb2)
 clear XA XC
 have XA:=XA'
 have XC:=XC'
 clear XA' XC'
 have HBW':=hide (HBW.out.trans (hb2.mono HBW.out.size))
 clear HBW
 have HBW:=HBW'
 clear HBW'
 have HW2:Hid (w.heap.size≤w2.heap.size):=HBW.out.size
 clear hb2 XB
 have HG1:=hide hg1;have HG2:=hide hg2
 clear hg1 hg2
 have hN1:=zy w2 (.cells #[.int .i64 i1,.slice o1 l1 k1] 29)
 have hN2:=zy (w2.alloc (.cells #[.int .i64 i1,.slice o1 l1 k1] 29)) (.cells #[.int .i64 i2,.slice o2 l2 k2] 29)
 have hN3:=hN1.trans (hN2.mono hN1.size)
 have X8:=hide ((BoxL.new w2 (.int .i64 i1) (.slice o1 l1 k1) 29).later hN2)
 have X9:=hide (BoxL.new (w2.alloc (.cells #[.int .i64 i1,.slice o1 l1 k1] 29)) (.int .i64 i2) (.slice o2 l2 k2) 29)
 have HS1:Hid ((w2.alloc (.cells #[.int .i64 i1,.slice o1 l1 k1] 29)).heap.size=w2.heap.size+1):=by show _=_;simp
 rw [HS1.out] at X9
 have HG1':=hide (HG1.out.later hN3);have HG2':=hide (HG2.out.later hN3)
 clear HG1 HG2 HS1
 have HN3:=hide hN3
 clear hN1 hN2 hN3
 have XA':=hide (XA.out.later HN3.out)
 have XC':=hide (XC.out.later HN3.out)
 clear XA XC
 have XA:=XA'
 have XC:=XC'
 clear XA' XC'
 have HBW':=hide (HBW.out.trans (HN3.out.mono HBW.out.size))
 clear HBW
 have HBW:=HBW'
 clear HBW'
 clear HN3
 obtain⟨a0,a1,a2,a3⟩:=XC.out.1
 generalize hokk:(ok && too && decide (nA=nB))=okk at *
 have HOK:=hide hokk
 clear hokk
 go_wp2_with fail
 clear a0 a1 a2 a3
 generalize hW3:(w2.alloc (.cells #[.int .i64 i1,.slice o1 l1 k1] 29)).alloc (.cells #[.int .i64 i2,.slice o2 l2 k2] 29)=W3 at *
 clear hW3
 have HB8:Hid (w.heap.size≤w2.heap.size):=HW2.out
 clear HW2
 generalize w2.heap.size=B8 at *
 refine(zcy W3 nC gc cc rc (HC.out.below HBW.out)).mono ?_
 rintro e w3 ⟨hb3,i5,o0,l0,k0,m0,okc,rfl,hg5⟩
 have HG5:=hide hg5
 clear hg5
 have XA':=hide (XA.out.later hb3)
 have XC':=hide (XC.out.later hb3)
 have X8':=hide (X8.out.later hb3)
 have X9':=hide (X9.out.later hb3)
 have HG1q:=hide (HG1'.out.later hb3)
 have HG2q:=hide (HG2'.out.later hb3)
 clear XA XC X8 X9 HG1' HG2'
 have XA:=XA'
 have XC:=XC'
 have X8:=X8'
 have X9:=X9'
 have HG1':=HG1q
 have HG2':=HG2q
 clear XA' XC' X8' X9' HG1q HG2q
 have HBW':=hide (HBW.out.trans (hb3.mono HBW.out.size))
 clear HBW
 have HBW:=HBW'
 clear HBW'
 clear hb3
 have hN1:=zy w3 (.cells #[.int .i64 i5,.slice o0 l0 k0] 29)
 have X10:=hide (BoxL.new w3 (.int .i64 i5) (.slice o0 l0 k0) 29)
 have H10:Hid (w.heap.size≤w3.heap.size):=HBW.out.size
 have H810:Hid (B8≠w3.heap.size):=Nat.ne_of_lt X8.out.2
 have H910:Hid (B8+1≠w3.heap.size):=Nat.ne_of_lt X9.out.2
 have H89:Hid (B8≠B8+1):=Nat.ne_of_lt (Nat.lt_succ_self _)
 have H109:Hid (w3.heap.size≠B8+1):=Nat.ne_of_gt X9.out.2
 have H9:Hid (w.heap.size≤B8+1):=Nat.le_succ_of_le HB8.out
 have XA':=hide (XA.out.later hN1)
 have XC':=hide (XC.out.later hN1)
 have X8':=hide (X8.out.later hN1)
 have X9':=hide (X9.out.later hN1)
 have HG1q:=hide (HG1'.out.later hN1)
 have HG2q:=hide (HG2'.out.later hN1)
 have HG5':=hide (HG5.out.later hN1)
 clear XA XC X8 X9 HG1' HG2' HG5
 have XA:=XA'
 have XC:=XC'
 have X8:=X8'
 have X9:=X9'
 have HG1':=HG1q
 have HG2':=HG2q
 have HG5:=HG5'
 clear XA' XC' X8' X9' HG1q HG2q HG5'
 have HBW':=hide (HBW.out.trans (hN1.mono HBW.out.size))
 clear HBW
 have HBW:=HBW'
 clear HBW'
 clear hN1
 obtain⟨a0,a1,a2,a3⟩:=XA.out.1
 obtain⟨b0,b1,b2,b3⟩:=XC.out.1
 cases okk with
 | false=>
  go_wp2
  go_ret
  exact⟨rfl,HBW.out⟩
 | true=>
  cases okc with
  | false=>
   go_wp2
   go_ret
   exact⟨rfl,HBW.out⟩
  | true=>
   by_cases hnc:nC=nA
   ·subst hnc
    obtain⟨h3,h5⟩:(ok=true∧too=true)∧nC=nB:=by have:=HOK.out;simpa using this
    obtain⟨h3,h4'⟩:=h3
    subst h3 h4'
    rcases HG1'.out with⟨h,-⟩ |⟨-,hga,e1,hs,hx,-⟩
    ·cases h
    rcases HG2'.out with⟨h,-⟩ |⟨-,hgb,e2,ks,hy,-⟩
    ·cases h
    rcases HG5.out with⟨h,-⟩ |⟨-,hgc,e5,zs,hz,-⟩
    ·cases h
    obtain⟨h14,-⟩:=ze4 hga
    obtain⟨n,hn⟩:=Int.eq_ofNat_of_zero_le (show 0≤nC by omega)
    have hn2:nB=(n:Int):=h5.symm.trans hn
    clear h5
    subst hn hn2 e1 e2 e5
    have h1:1≤n:=by omega
    have h4:n≤4:=by omega
    rw [Int.toNat_natCast] at hx hy hz
    have hll1:l1=hs.length:=by
     obtain⟨⟨u,e,⟨_,_,rfl,-,-⟩⟩,-⟩:=hx
     simp only [Value.agg.injEq,Array.mk.injEq,List.cons.injEq,Value.slice.injEq,and_true,true_and] at e
     exact e.2.1
    subst hll1
    have LX:=hide (LatG.mk hx);have LY:=hide (LatG.mk hy);have LZ:=hide (LatG.mk hz)
    obtain⟨p,hFx⟩:=hx.2
    have HFX:=hide hFx
    clear hx hy hz hga hgb hgc hFx HG1' HG2' HG5 HOK h14
    have hNB:=nb6 n (by omega)
    have hNB2:=nbI2 n (by omega)
    have hNP:6≤n * 6+2:=by omega
    obtain⟨c0,c1,c2,c3⟩:=X8.out.1
    obtain⟨d0,d1,d2,d3⟩:=X9.out.1
    go_wp2_with fail
    clear a0 a1 a2 a3 b0 b1 b2 b3 c0 c1 c2 c3 d0 d1 d2 d3
    clear XA XC
    generalize w3.alloc (.cells #[.int .i64 (n:Int),.slice o0 l0 k0] 29)=W4 at *
    generalize w3.heap.size=B10 at *
    refine(zgs W4 _ _ n 6 hs ks (by exact LX.out.lat) (by exact LY.out.lat) h1 h4 hNB).mono ?_
    rintro e w5 ⟨v5,ts,rfl,hl5,hb5,ha5,-⟩
    have HAZ:=hide ha5
    have LS:=hide (LatG.mk hl5)
    obtain⟨pt,hFt⟩:=hl5.2
    have HFT:=hide hFt
    obtain⟨⟨u5,rfl,⟨o5,k5,rfl,-,-⟩⟩,-⟩:=hl5
    clear ha5 hFt
    have X8':=hide (X8.out.later hb5)
    have X9':=hide (X9.out.later hb5)
    have X10':=hide (X10.out.later hb5)
    have LX':=hide (LX.out.later hb5)
    have LY':=hide (LY.out.later hb5)
    have LZ':=hide (LZ.out.later hb5)
    clear X8 X9 X10 LX LY LZ
    have X8:=X8'
    have X9:=X9'
    have X10:=X10'
    have LX:=LX'
    have LY:=LY'
    have LZ:=LZ'
    clear X8' X9' X10' LX' LY' LZ'
    have HBW':=hide (HBW.out.trans (hb5.mono HBW.out.size))
    clear HBW
    have HBW:=HBW'
    clear HBW'
    clear hb5
    have HBW':=hide ((HBW.out.setCell (p:=⟨B8+1,0,none⟩) H9.out (.int .i64 (n:Int))).setCell (p:=⟨B8+1,1,none⟩) H9.out (.slice o5 ts.length k5))
    have X8':=hide (X8.out.other H89.out (.int .i64 (n:Int)) (.slice o5 ts.length k5))
    have X10':=hide (X10.out.other H109.out (.int .i64 (n:Int)) (.slice o5 ts.length k5))
    have X9':=hide (X9.out.write (.int .i64 (n:Int)) (.slice o5 ts.length k5))
    have LX':=hide (LX.out.setOver LY.out X9.out h1 (.int .i64 (n:Int)) (.slice o5 ts.length k5))
    have LZ':=hide (LZ.out.setOver LY.out X9.out h1 (.int .i64 (n:Int)) (.slice o5 ts.length k5))
    have LS':=hide (LS.out.setOver LY.out X9.out h1 (.int .i64 (n:Int)) (.slice o5 ts.length k5))
    obtain⟨c0,c1,c2,c3⟩:=X9.out.1
    clear HBW X9 X8 X10 LX LZ LS LY
    have HBW:=HBW'
    have X9:=X9'
    have X8:=X8'
    have X10:=X10'
    have LX:=LX'
    have LZ:=LZ'
    have LS:=LS'
    clear HBW' X9' X8' X10' LX' LZ' LS'
    obtain⟨a0,a1,a2,a3⟩:=X9.out.1
    obtain⟨b0,b1,b2,b3⟩:=X10.out.1
    go_wp2_with fail
    clear a0 a1 a2 a3 b0 b1 b2 b3 c0 c1 c2 c3
    generalize (w5.setCell ⟨B8+1,0,none⟩ (.int .i64 (n:Int))).setCell ⟨B8+1,1,none⟩ (.slice o5 ts.length k5)=W5 at *
    refine(zgs W5 _ _ n (n * 6+2) ts zs (by exact LS.out.lat) (by exact LZ.out.lat.mono (by omega)) h1 h4 hNB2).mono ?_
    rintro e w6 ⟨v6,ms,rfl,hl6,hb6,ha6,-⟩
    have HAM:=hide ha6
    have LM:=hide (LatG.mk hl6)
    obtain⟨pm,hFm⟩:=hl6.2
    have HFM:=hide hFm
    obtain⟨⟨u6,rfl,⟨o6,k6,rfl,-,-⟩⟩,-⟩:=hl6
    clear ha6 hFm
    have X8':=hide (X8.out.later hb6)
    have X9':=hide (X9.out.later hb6)
    have X10':=hide (X10.out.later hb6)
    have LX':=hide (LX.out.later hb6)
    have LS':=hide (LS.out.later hb6)
    have LZ':=hide (LZ.out.later hb6)
    clear X8 X9 X10 LX LS LZ
    have X8:=X8'
    have X9:=X9'
    have X10:=X10'
    have LX:=LX'
    have LS:=LS'
    have LZ:=LZ'
    clear X8' X9' X10' LX' LS' LZ'
    have HBW':=hide (HBW.out.trans (hb6.mono HBW.out.size))
    clear HBW
    have HBW:=HBW'
    clear HBW'
    clear hb6
    have HBW':=hide ((HBW.out.setCell (p:=⟨B10,0,none⟩) H10.out (.int .i64 (n:Int))).setCell (p:=⟨B10,1,none⟩) H10.out (.slice o6 ms.length k6))
    have X8':=hide (X8.out.other H810.out (.int .i64 (n:Int)) (.slice o6 ms.length k6))
    have X9':=hide (X9.out.other H910.out (.int .i64 (n:Int)) (.slice o6 ms.length k6))
    have X10':=hide (X10.out.write (.int .i64 (n:Int)) (.slice o6 ms.length k6))
    have LX':=hide (LX.out.setOver LZ.out X10.out h1 (.int .i64 (n:Int)) (.slice o6 ms.length k6))
    have LS':=hide (LS.out.setOver LZ.out X10.out h1 (.int .i64 (n:Int)) (.slice o6 ms.length k6))
    have LM':=hide (LM.out.setOver LZ.out X10.out h1 (.int .i64 (n:Int)) (.slice o6 ms.length k6))
    obtain⟨c0,c1,c2,c3⟩:=X10.out.1
    clear HBW X10 X8 X9 LX LS LM LZ
    have HBW:=HBW'
    have X10:=X10'
    have X8:=X8'
    have X9:=X9'
    have LX:=LX'
    have LS:=LS'
    have LM:=LM'
    clear HBW' X10' X8' X9' LX' LS' LM'
    go_upto_if 67 with fail
    generalize (w6.setCell ⟨B10,0,none⟩ (.int .i64 (n:Int))).setCell ⟨B10,1,none⟩ (.slice o6 ms.length k6)=W6 at *
    clear c0 c1 c2 c3
    go_cut [6] from 21 (fun v wc=>v=.bool false∧wc=W6)
    case first=>
     go_wp2
     go_meet
     case rel=>exact⟨rfl,rfl⟩
    case rest=>
     obtain⟨rfl,rfl⟩:=hcut
     apply_assumption
     exact zkO w _ B8 (B8+1) B10 n o1 o5 o6 k1 k5 k6 hs ts ms p pt pm HBW.out h1 h4 X8.out LX.out.lat X9.out LS.out.lat X10.out LM.out.lat HFX.out HFT.out HFM.out (zfc HFX.out.len HAZ.out) (zfc HFT.out.len HAM.out) _ _ _ _ _ _ _ _ _ _ _ _ _ _ _ _ _ _ _ _ _ _ _ _ _ _ _ _ _ _ _ _ _ _ _ _ _ _ _ _ _ _ _ _ _ _ _ _ _ _ _ _ _ _ _ _ _ _ _ _ _ _ _ _ _ _ _ _ _ _ _ _ _ _ _ _ _ _ _ _ _ _ _ _ _ _ _ _ _ _ _ _ _ _ _ _ _ _ _ _ _ _ _ _ _ _ _ _ _ _ _ _ _ _ _ _ _ _ _
   ·have g1:((nC:Int) == nA)=false:=beq_false_of_ne hnc
    have g2:((nC:Int) != nA)=true:=by rw [bne,g1];rfl
    have g3:decide (nC=nA)=false:=decide_eq_false hnc
    go_wp2
    go_ret
    exact⟨rfl,HBW.out⟩
end Go.Proofs.YtnkcjkpkphjecaaGreatDoor
