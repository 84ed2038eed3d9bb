import Derived.Test.YtdedolkgcdlmeaaGreatDoorSetL
import Derived.Test.YtdedolkgcdlmeaaGreatDoorMeetW
import Derived.Test.YtdedolkgcdlmeaaGreatDoorTl
import Derived.Deep.Cut
import Derived.Deep.CutRange
import Derived.Test.YtdedolkgcdlmeaaGreatDoorText
import Derived.Test.YtdedolkgcdlmeaaGreatDoorHermite
import Derived.Test.YtdedolkgcdlmeaaGreatDoorLatK
import Derived.Deep.SlicePairs
namespace Go.Proofs.YtdedolkgcdlmeaaGreatDoor
open Go.RowKit Limbs Digs
theorem zjm (x:Int):(cmpI x x == 0)=true:=by
 unfold cmpI
 rw [if_neg (by omega),if_neg (by omega)]
 rfl
theorem roomSec:∀ n,n < 5→6+n *(n * 6+2+2)≤90000∧(n+n) * 6+2+n *(6+2)≤90000:=by decide
theorem roomSz:∀ n,n < 5→∀ m,m < 5→RoomS m ((n+n) * 6+2+1):=by decide
set_option linter.unusedSimpArgs false in
set_option maxRecDepth 100000 in
set_option maxHeartbeats 6400000 in
theorem zlm (w W:World)(B6 B7 B8 B10 n:Nat)(o1 o2 o3 o4:Option Addr)(k1 k2 k3 k4:Nat)(hs ks ss mm:List (List Int))(ph pk ps pm:Nat→Nat)(hbe:Below w.heap.size w W)(h1:1≤n)(h4:n≤4)(hx6:BoxL W B6 (.int .i64 (n:Int)) (.slice o1 hs.length k1))(hl6:LatN W (.agg #[.int .i64 (n:Int),.slice o1 hs.length k1]) n hs 6)(hx7:BoxL W B7 (.int .i64 (n:Int)) (.slice o2 ks.length k2))(hl7:LatN W (.agg #[.int .i64 (n:Int),.slice o2 ks.length k2]) n ks 6)(hx8:BoxL W B8 (.int .i64 (n:Int)) (.slice o3 ss.length k3))(hl8:LatN W (.agg #[.int .i64 (n:Int),.slice o3 ss.length k3]) n ss (n * 6+2))(hx10:BoxL W B10 (.int .i64 (n:Int)) (.slice o4 mm.length k4))(hl10:LatN W (.agg #[.int .i64 (n:Int),.slice o4 mm.length k4]) n mm ((n+n) * 6+2))(hF:FormL n hs ph)(hG:FormL n ks pk)(hE:FormL n ss ps)(hH:FormL n mm pm)(hS:Alikes n (InL ss) (InL (hs ++ ks)))(hB:Both n mm hs ks)(sl0 sl1 sl2 sl3 sl4 sl5 sl9 sl11 sl12 sl13 sl14 sl15 sl16 sl17 sl18 sl19 sl20 sl21 sl22 sl23 sl24 sl25 sl26 sl27 sl28 sl29 sl30 sl31 sl32 sl33 sl34 sl35 sl36 sl37 sl38 sl39 sl40 sl41 sl42 sl43 sl44 sl45 sl46 sl47 sl48 sl49 sl50 sl51 sl52 sl53 sl54 sl55 sl56 sl57 sl58 sl59 sl60 sl61 sl62 sl63 sl64 sl65 sl66 sl67 sl68 sl69 sl70 sl71 sl72 sl73 sl74 sl75 sl76 sl77 sl78 sl79 sl80 sl81 sl82 sl83 sl84 sl85 sl86 sl87 sl88 sl89 sl90 sl91 sl92 sl93 sl94 sl95 sl96 sl97 sl98 sl99:Value):
  (Code.tl (Code.tl (Code.tl (Code.tl (Code.tl (Code.tl (Code.tl (Code.tl ((Tryz.f8.body).getD .skip))))))))).wp Tryz.prog (bodyPost Tryz.prog Tryz.f8 (fun e w'=>e=.returned (.bool true)∧Below w.heap.size w w')) ⟨#[sl0,sl1,sl2,sl3,sl4,sl5,.pointer (some ⟨B6,0,none⟩),.pointer (some ⟨B7,0,none⟩),.pointer (some ⟨B8,0,none⟩),sl9,.pointer (some ⟨B10,0,none⟩),sl11,sl12,sl13,sl14,sl15,sl16,sl17,sl18,sl19,sl20,sl21,sl22,sl23,sl24,sl25,sl26,sl27,sl28,sl29,sl30,sl31,sl32,sl33,sl34,sl35,sl36,sl37,sl38,sl39,sl40,sl41,sl42,sl43,sl44,sl45,sl46,sl47,sl48,sl49,sl50,sl51,sl52,sl53,sl54,sl55,sl56,sl57,sl58,sl59,sl60,sl61,sl62,sl63,sl64,sl65,sl66,sl67,sl68,sl69,sl70,sl71,sl72,sl73,sl74,sl75,sl76,sl77,sl78,sl79,sl80,sl81,sl82,sl83,sl84,sl85,sl86,sl87,sl88,sl89,sl90,sl91,sl92,sl93,sl94,sl95,sl96,sl97,sl98,sl99],[]⟩ W:=by
 simp only [Code.tl,Tryz.f8,Option.getD_some]
 have HBW:=hide hbe;have X6:=hide hx6;have L6:=hide (LatG.mk hl6);have X7:=hide hx7;have L7:=hide (LatG.mk hl7);have X8:=hide hx8;have L8:=hide (LatG.mk hl8);have X10:=hide hx10;have L10:=hide (LatG.mk hl10)
 have HGE:=hide hE;have HGK:=hide hG
 have HI1:=hide (zji hF.len hS)
 have HI2:Hid (∀ u∈ks,Gens n (InL ss) u):=fun u hu=>(hS u).2 (.base (List.mem_append_right _ hu) (hG.len u hu))
 have HI3:=hide (zhG hH.len hB).2
 have HSEC:=hide (fun zs1 zs2 (q1:InvQ hs ss ps zs1) (q2:InvQ mm ks pk zs2)=>InvQ.second hF hG hE hH hS hB HI1.out HI2.out HI3.out q1 q2)
 have hsl:=hE.short;have hhl:=hF.short;have hkl:=hG.short;have hml:=hH.short
 clear hbe hx6 hl6 hx7 hl7 hx8 hl8 hx10 hl10 hF hG hE hH hS hB
 obtain⟨a0,a1,a2,a3⟩:=X6.out.1
 obtain⟨b0,b1,b2,b3⟩:=X8.out.1
 go_wp2_with fail
 clear a0 a1 a2 a3 b0 b1 b2 b3
 refine(zgg W _ _ n 6 (n * 6+2) hs ss ps (by exact L6.out.lat) (by exact L8.out.lat) HGE.out h1 h4 (roomSec n (by omega)).1 HI1.out roomS7).mono ?_
 rintro e w1 ⟨uq,M,zs,rfl,q1,hM,hz4,-,-,-,-,hb1,qi⟩
 have VQ:=hide (VecG.mk q1)
 obtain⟨zo,zcap,rfl,-,-⟩:=q1
 have HQ1:=hide qi
 clear qi
 obtain⟨fr,hfr⟩:∃ fr,((ss.length:Int) - (hs.length:Int))=fr:=⟨_,rfl⟩
 have HFR:=hide hfr
 rw [hfr]
 clear hfr
 have X6':=hide (X6.out.later hb1)
 have X7':=hide (X7.out.later hb1)
 have X8':=hide (X8.out.later hb1)
 have X10':=hide (X10.out.later hb1)
 have L6':=hide (L6.out.later hb1)
 have L7':=hide (L7.out.later hb1)
 have L8':=hide (L8.out.later hb1)
 have L10':=hide (L10.out.later hb1)
 clear X6 X7 X8 X10 L6 L7 L8 L10
 have X6:=X6'
 have X7:=X7'
 have X8:=X8'
 have X10:=X10'
 have L6:=L6'
 have L7:=L7'
 have L8:=L8'
 have L10:=L10'
 clear X6' X7' X8' X10' L6' L7' L8' L10'
 have HBW':=hide (HBW.out.trans (hb1.mono HBW.out.size))
 clear HBW
 have HBW:=HBW'
 clear HBW'
 clear hb1
 have hN1:=zaP w1 (.cells #[.slice zo zs.length zcap,.int .i64 fr] 77)
 have XQ:=hide (BoxL.new w1 (.slice zo zs.length zcap) (.int .i64 fr) 77)
 have X6':=hide (X6.out.later hN1)
 have X7':=hide (X7.out.later hN1)
 have X8':=hide (X8.out.later hN1)
 have X10':=hide (X10.out.later hN1)
 have L6':=hide (L6.out.later hN1)
 have L7':=hide (L7.out.later hN1)
 have L8':=hide (L8.out.later hN1)
 have L10':=hide (L10.out.later hN1)
 have VQ':=hide (VQ.out.later hN1)
 clear X6 X7 X8 X10 L6 L7 L8 L10 VQ
 have X6:=X6'
 have X7:=X7'
 have X8:=X8'
 have X10:=X10'
 have L6:=L6'
 have L7:=L7'
 have L8:=L8'
 have L10:=L10'
 have VQ:=VQ'
 clear X6' X7' X8' X10' L6' L7' L8' L10' VQ'
 have HBW':=hide (HBW.out.trans (hN1.mono HBW.out.size))
 clear HBW
 have HBW:=HBW'
 clear HBW'
 clear hN1
 obtain⟨a0,a1,a2,a3⟩:=X10.out.1
 obtain⟨b0,b1,b2,b3⟩:=X7.out.1
 go_wp2_with fail
 clear a0 a1 a2 a3 b0 b1 b2 b3
 generalize w1.alloc (.cells #[.slice zo zs.length zcap,.int .i64 fr] 77)=W1 at *
 generalize w1.heap.size=BQ at *
 refine(zgg W1 _ _ n ((n+n) * 6+2) 6 mm ks pk (by exact L10.out.lat) (by exact L7.out.lat) HGK.out h1 h4 (roomSec n (by omega)).2 HI3.out (fun m _ hm=>roomSz n (by omega) m (by omega))).mono ?_
 rintro e w2 ⟨uy,M2,zs2,rfl,q1,hM2,-,-,-,-,-,hb2,qi⟩
 obtain⟨hrk,rfl⟩:=HSEC.out zs zs2 HQ1.out qi
 have VY:=hide (VecG.mk q1)
 obtain⟨yo,ycap,rfl,-,-⟩:=q1
 have hfr2:((ks.length:Int) - (mm.length:Int))=fr:=by have:=HFR.out;omega
 rw [hfr2]
 clear hfr2 hrk qi HQ1 HSEC
 have XQ':=hide (XQ.out.later hb2)
 have VQ':=hide (VQ.out.later hb2)
 clear XQ VQ
 have XQ:=XQ'
 have VQ:=VQ'
 clear XQ' VQ'
 have HBW':=hide (HBW.out.trans (hb2.mono HBW.out.size))
 clear HBW
 have HBW:=HBW'
 clear HBW'
 clear hb2
 have hN1:=zaP w2 (.cells #[.slice yo zs.length ycap,.int .i64 fr] 77)
 have XR:=hide (BoxL.new w2 (.slice yo zs.length ycap) (.int .i64 fr) 77)
 have XQ':=hide (XQ.out.later hN1)
 have VQ':=hide (VQ.out.later hN1)
 have VY':=hide (VY.out.later hN1)
 clear XQ VQ VY
 have XQ:=XQ'
 have VQ:=VQ'
 have VY:=VY'
 clear XQ' VQ' VY'
 have HBW':=hide (HBW.out.trans (hN1.mono HBW.out.size))
 clear HBW
 have HBW:=HBW'
 clear HBW'
 clear hN1 X6 X7 X8 X10 L6 L7 L8 L10 HGE HGK HI1 HI2 HI3 HFR
 have hne:(fr != fr)=false:=by simp
 have hne2:((zs.length:Int) !=(zs.length:Int))=false:=by simp
 obtain⟨a0,a1,a2,a3⟩:=XQ.out.1
 obtain⟨b0,b1,b2,b3⟩:=XR.out.1
 go_wp2
 clear a0 a1 a2 a3 b0 b1 b2 b3
 clear hne hne2
 generalize w2.alloc (.cells #[.slice yo zs.length ycap,.int .i64 fr] 77)=W2 at *
 generalize w2.heap.size=BR at *
 go_loopw [16] (fun x wr=>∃ j:Nat,j≤zs.length∧x=.int .i64 j∧Hid (Below W2.heap.size W2 wr)) (fun x _=>zs.length - (intOf x).toNat)
 case atStart=>exact⟨0,Nat.zero_le _,rfl,hide (Below.refl _ _)⟩
 case round=>
  obtain⟨j,hj,rfl,HBL⟩:=hrel
  obtain⟨d0,-,-,-⟩:=(XQ.out.later HBL.out).1
  obtain⟨e0,-,-,-⟩:=(XR.out.later HBL.out).1
  have lq:=(XQ.out.later HBL.out).2;have lr:=(XR.out.later HBL.out).2
  by_cases hjl:j < zs.length
  ·obtain⟨zb,zoff,_,e⟩:=VQ.out.vec.form (by omega)
   simp only [Value.slice.injEq,true_and] at e
   obtain⟨rfl,rfl⟩:=e
   obtain⟨yb,yoff,_,e⟩:=VY.out.vec.form (by omega)
   simp only [Value.slice.injEq,true_and] at e
   obtain⟨rfl,rfl⟩:=e
   obtain⟨lz,an,ao,al,ac,a2,a3,na⟩:=(VQ.out.later HBL.out).vec.at j hjl
   obtain⟨ly,bn,bo,bl,bc,b2,b3,nb⟩:=(VY.out.later HBL.out).vec.at j hjl
   generalize zs.getD j 0=z at *
   have NA:=hide na;have NB:=hide nb
   clear na nb
   go_wp2_with fail
   refine wp_region_held_drew (S:=(fun w'=>w'.cell? ⟨BQ,0,none⟩=some (.slice (some ⟨zb,zoff,none⟩) zs.length zcap)∧w'.cell? ⟨zb,zoff+j * 2,none⟩=some (.bool an)∧w'.cell? ⟨zb,zoff+j * 2+1,none⟩=some (.slice ao al ac)∧w'.cell? ⟨BR,0,none⟩=some (.slice (some ⟨yb,yoff,none⟩) zs.length ycap)∧w'.cell? ⟨yb,yoff+j * 2,none⟩=some (.bool bn)∧w'.cell? ⟨yb,yoff+j * 2+1,none⟩=some (.slice bo bl bc))) (by kernel_rfl) (by(try dsimp only);go_keep) (fun hHeld=>?_)
   refine zi 0 88 ?_
   try simp only [zA]
   refine zi 1 89 ?_
   try simp only [zA]
   refine zi 2 90 ?_
   try simp only [zA]
   refine zi 3 91 ?_
   try simp only [zA]
   refine zi 4 92 ?_
   try simp only [zA]
   refine zi 5 93 ?_
   try simp only [zA]
   refine zi 6 94 ?_
   try simp only [zA]
   refine zi 7 95 ?_
   try simp only [zA]
   refine zi 8 96 ?_
   try simp only [zA]
   refine zi 9 97 ?_
   try simp only [zA]
   refine wpAnyH_ready (rs:=[10]) (by kernel_rfl) (by simp) (AllReadyH.cons (o:=_) rfl (fun K hK=>?_) AllReadyH.nil)
   go_simp
   refine(zjl wr.drew _ _ z z _ _ (by exact NA.out.below (Below.refl wr.heap.size wr).drew zL) (by exact NB.out.below (Below.refl wr.heap.size wr).drew zL)).mono ?_;rintro e wa ⟨rfl,hb1'⟩;rw [zjm];have hb1:Below wr.heap.size wr wa:=(Below.refl _ _).drew.trans (hb1'.mono (by simp));have q0:=(hb1.cell (p:=⟨BQ,0,none⟩) lq).trans d0;have q1:=(hb1.cell (p:=⟨zb,zoff+j * 2,none⟩) lz).trans a2;have q2:=(hb1.cell (p:=⟨zb,zoff+j * 2+1,none⟩) lz).trans a3;have q3:=(hb1.cell (p:=⟨BR,0,none⟩) lr).trans e0;have q4:=(hb1.cell (p:=⟨yb,yoff+j * 2,none⟩) ly).trans b2;have q5:=(hb1.cell (p:=⟨yb,yoff+j * 2+1,none⟩) ly).trans b3;have HB1:=hide (HBL.out.trans (hb1.mono HBL.out.size));clear hb1 hb1'
   go_wp2_with fail
   refine hK.out _ _ (by(try dsimp only);go_keep) (fun hHeld=>?_)
   clear hK K
   try simp only [zA]
   refine zi 11 99 ?_
   try simp only [zA]
   refine wpAnyH_done (by kernel_rfl) ?_ _
   clear a2 a3 b2 b3 d0 e0 q0 q1 q2 q3 q4 q5 NA NB HBL
   go_wp2
   go_roundw
   case rel=>exact⟨j+1,by omega,by go_num,HB1⟩
   case measure=>simp [intOf];omega
  ·obtain rfl:j=zs.length:=by omega
   have HBE:=hide (HBW.out.trans (HBL.out.mono HBW.out.size))
   go_wp2
   go_ret
   exact⟨rfl,HBE.out⟩
set_option linter.unusedSimpArgs false in
set_option maxRecDepth 100000 in
set_option maxHeartbeats 6400000 in
theorem zln (w:World)(ht:Tab w)(nA nB:Int)(ga gb:Option Addr)(ca cb:Nat)(ra rb:List (List Int))(ha:RowsS w (.slice ga ra.length ca) ra)(hb:RowsS w (.slice gb rb.length cb) rb):
  Calls Tryz.prog 8 #[.agg #[.int .i64 nA,.slice ga ra.length ca],.agg #[.int .i64 nB,.slice gb rb.length cb]] w fun e w'=>e=.returned (.bool true)∧Below w.heap.size w w':=by
 have HT:=hide ht;have HA:=hide ha;have HB:=hide hb
 clear ht ha hb
 have XA:=hide ((BoxL.new w (.int .i64 nA) (.slice ga ra.length ca) 53).later (zaP _ (.cells #[.int .i64 nB,.slice gb rb.length cb] 53)))
 have XB:=hide (BoxL.new (w.alloc (.cells #[.int .i64 nA,.slice ga ra.length ca] 53)) (.int .i64 nB) (.slice gb rb.length cb) 53)
 have HBW:=hide (((Below.refl w.heap.size w).alloc zL (.cells #[.int .i64 nA,.slice ga ra.length ca] 53)).alloc (by simp) (.cells #[.int .i64 nB,.slice gb rb.length cb] 53))
 have HS1:Hid ((w.alloc (.cells #[.int .i64 nA,.slice ga ra.length ca] 53)).heap.size=w.heap.size+1):=by show _=_;simp
 rw [HS1.out] at XB
 clear HS1
 go_enter Tryz.func8,Tryz.ntmps8
 go_wp2_with fail
 generalize ((w.alloc (.cells #[.int .i64 nA,.slice ga ra.length ca] 53)).alloc (.cells #[.int .i64 nB,.slice gb rb.length cb] 53))=W0 at *
 refine(zks W0 (HT.out.below HBW.out)).mono ?_
 rintro e w1 ⟨rfl,hb1⟩
 have XA':=hide (XA.out.later hb1)
 have XB':=hide (XB.out.later hb1)
 clear XA XB
 have XA:=XA'
 have XB:=XB'
 clear XA' XB'
 have HBW':=hide (HBW.out.trans (hb1.mono HBW.out.size))
 clear HBW
 have HBW:=HBW'
 clear HBW'
 clear hb1
 obtain⟨a0,a1,a2,a3⟩:=XA.out.1
 obtain⟨b0,b1,b2,b3⟩:=XB.out.1
 go_wp2_with fail
 refine(zlt w1 nA nB ga gb ca cb ra rb (HA.out.below HBW.out) (HB.out.below HBW.out)).mono ?_
 rintro e w2 ⟨hb2,i1,o1,l1,k1,i2,o2,l2,k2,ok,too,rfl,hg1,hg2⟩
 clear a0 a1 a2 a3 b0 b1 b2 b3
 have HBW':=hide (HBW.out.trans (hb2.mono HBW.out.size))
 clear HBW
 have HBW:=HBW'
 clear HBW'
 have HW2:Hid (w.heap.size≤w2.heap.size):=HBW.out.size
 clear hb2 XB XA
 have HG1:=hide hg1;have HG2:=hide hg2
 clear hg1 hg2
 have hN1:=zaP w2 (.cells #[.int .i64 i1,.slice o1 l1 k1] 55)
 have hN2:=zaP (w2.alloc (.cells #[.int .i64 i1,.slice o1 l1 k1] 55)) (.cells #[.int .i64 i2,.slice o2 l2 k2] 55)
 have hN3:=hN1.trans (hN2.mono hN1.size)
 have X8:=hide ((BoxL.new w2 (.int .i64 i1) (.slice o1 l1 k1) 55).later hN2)
 have X9:=hide (BoxL.new (w2.alloc (.cells #[.int .i64 i1,.slice o1 l1 k1] 55)) (.int .i64 i2) (.slice o2 l2 k2) 55)
 have HS1:Hid ((w2.alloc (.cells #[.int .i64 i1,.slice o1 l1 k1] 55)).heap.size=w2.heap.size+1):=by show _=_;simp
 rw [HS1.out] at X9
 have HG1':=hide (HG1.out.later hN3);have HG2':=hide (HG2.out.later hN3)
 clear HG1 HG2 HS1
 have HN3:=hide hN3
 clear hN1 hN2 hN3
 have HBW':=hide (HBW.out.trans (HN3.out.mono HBW.out.size))
 clear HBW
 have HBW:=HBW'
 clear HBW'
 clear HN3
 generalize hokk:(ok && too && decide (nA=nB))=okk at *
 have HOK:=hide hokk
 clear hokk
 cases okk with
 | false=>
  go_wp2
  go_ret
  exact⟨rfl,HBW.out⟩
 | true=>
  obtain⟨h3,h5⟩:(ok=true∧too=true)∧nA=nB:=by have:=HOK.out;simpa using this
  obtain⟨h3,h4'⟩:=h3
  subst h3 h4'
  rcases HG1'.out with⟨h,-⟩ |⟨-,hga,e1,hs,hx,-⟩
  ·cases h
  rcases HG2'.out with⟨h,-⟩ |⟨-,hgb,e2,ks,hy,-⟩
  ·cases h
  obtain⟨h14,-⟩:=ziY hga
  obtain⟨n,hn⟩:=Int.eq_ofNat_of_zero_le (show 0≤nA by omega)
  have hn2:nB=(n:Int):=h5.symm.trans hn
  clear h5
  subst hn hn2 e1 e2
  have h1:1≤n:=by omega
  have h4:n≤4:=by omega
  rw [Int.toNat_natCast] at hx hy
  have hll1:l1=hs.length:=by
   obtain⟨⟨u,e,⟨_,_,rfl,-,-⟩⟩,-⟩:=hx
   simp only [Value.agg.injEq,Array.mk.injEq,List.cons.injEq,Value.slice.injEq,and_true,true_and] at e
   exact e.2.1
  subst hll1
  have hll2:l2=ks.length:=by
   obtain⟨⟨u,e,⟨_,_,rfl,-,-⟩⟩,-⟩:=hy
   simp only [Value.agg.injEq,Array.mk.injEq,List.cons.injEq,Value.slice.injEq,and_true,true_and] at e
   exact e.2.1
  subst hll2
  have LX:=hide (LatG.mk hx);have LY:=hide (LatG.mk hy)
  obtain⟨ph,hFx⟩:=hx.2
  obtain⟨pk,hFy⟩:=hy.2
  have HFX:=hide hFx;have HFY:=hide hFy
  clear hx hy hga hgb HG1' HG2' HOK h14 hFx hFy
  have hNB:=nb6 n (by omega)
  have hNM:=nbM n (by omega)
  obtain⟨c0,c1,c2,c3⟩:=X8.out.1
  obtain⟨d0,d1,d2,d3⟩:=X9.out.1
  go_wp2_with fail
  clear c0 c1 c2 c3 d0 d1 d2 d3
  generalize (w2.alloc (.cells #[.int .i64 (n:Int),.slice o1 hs.length k1] 55)).alloc (.cells #[.int .i64 (n:Int),.slice o2 ks.length k2] 55)=W3 at *
  clear HW2
  generalize w2.heap.size=B6 at *
  refine(zk2 W3 _ _ n 6 hs ks (by exact LX.out.lat) (by exact LY.out.lat) h1 h4 hNB).mono ?_
  rintro e w5 ⟨v5,ss,rfl,hl5,hb5,ha5,-⟩
  have HAS:=hide ha5
  have LS:=hide (LatG.mk hl5)
  obtain⟨ps,hFs⟩:=hl5.2
  have HFS:=hide hFs
  obtain⟨⟨u5,rfl,⟨o3,k3,rfl,-,-⟩⟩,-⟩:=hl5
  clear ha5 hFs
  have X8':=hide (X8.out.later hb5)
  have X9':=hide (X9.out.later hb5)
  have LX':=hide (LX.out.later hb5)
  have LY':=hide (LY.out.later hb5)
  clear X8 X9 LX LY
  have X8:=X8'
  have X9:=X9'
  have LX:=LX'
  have LY:=LY'
  clear X8' X9' LX' LY'
  have HBW':=hide (HBW.out.trans (hb5.mono HBW.out.size))
  clear HBW
  have HBW:=HBW'
  clear HBW'
  clear hb5
  have hN1:=zaP w5 (.cells #[.int .i64 (n:Int),.slice o3 ss.length k3] 55)
  have XS:=hide (BoxL.new w5 (.int .i64 (n:Int)) (.slice o3 ss.length k3) 55)
  have X8':=hide (X8.out.later hN1)
  have X9':=hide (X9.out.later hN1)
  have LX':=hide (LX.out.later hN1)
  have LY':=hide (LY.out.later hN1)
  have LS':=hide (LS.out.later hN1)
  clear X8 X9 LX LY LS
  have X8:=X8'
  have X9:=X9'
  have LX:=LX'
  have LY:=LY'
  have LS:=LS'
  clear X8' X9' LX' LY' LS'
  have HBW':=hide (HBW.out.trans (hN1.mono HBW.out.size))
  clear HBW
  have HBW:=HBW'
  clear HBW'
  clear hN1
  obtain⟨c0,c1,c2,c3⟩:=X8.out.1
  obtain⟨d0,d1,d2,d3⟩:=X9.out.1
  go_wp2_with fail
  clear c0 c1 c2 c3 d0 d1 d2 d3
  generalize w5.alloc (.cells #[.int .i64 (n:Int),.slice o3 ss.length k3] 55)=W5 at *
  generalize w5.heap.size=B8 at *
  refine(zjN W5 _ _ n 6 hs ks (by exact LX.out.lat) (by exact LY.out.lat) h1 h4 hNM).mono ?_
  rintro e w6 ⟨v6,mm,rfl,hl6,hb6,hbo⟩
  have HBO:=hide hbo
  have LM:=hide (LatG.mk hl6)
  obtain⟨pm,hFm⟩:=hl6.2
  have HFM:=hide hFm
  obtain⟨⟨u6,rfl,⟨o4,k4,rfl,-,-⟩⟩,-⟩:=hl6
  clear hbo hFm
  have X8':=hide (X8.out.later hb6)
  have X9':=hide (X9.out.later hb6)
  have XS':=hide (XS.out.later hb6)
  have LX':=hide (LX.out.later hb6)
  have LY':=hide (LY.out.later hb6)
  have LS':=hide (LS.out.later hb6)
  clear X8 X9 XS LX LY LS
  have X8:=X8'
  have X9:=X9'
  have XS:=XS'
  have LX:=LX'
  have LY:=LY'
  have LS:=LS'
  clear X8' X9' XS' LX' LY' LS'
  have HBW':=hide (HBW.out.trans (hb6.mono HBW.out.size))
  clear HBW
  have HBW:=HBW'
  clear HBW'
  clear hb6
  have hN1:=zaP w6 (.cells #[.int .i64 (n:Int),.slice o4 mm.length k4] 55)
  have XM:=hide (BoxL.new w6 (.int .i64 (n:Int)) (.slice o4 mm.length k4) 55)
  have X8':=hide (X8.out.later hN1)
  have X9':=hide (X9.out.later hN1)
  have XS':=hide (XS.out.later hN1)
  have LX':=hide (LX.out.later hN1)
  have LY':=hide (LY.out.later hN1)
  have LS':=hide (LS.out.later hN1)
  have LM':=hide (LM.out.later hN1)
  clear X8 X9 XS LX LY LS LM
  have X8:=X8'
  have X9:=X9'
  have XS:=XS'
  have LX:=LX'
  have LY:=LY'
  have LS:=LS'
  have LM:=LM'
  clear X8' X9' XS' LX' LY' LS' LM'
  have HBW':=hide (HBW.out.trans (hN1.mono HBW.out.size))
  clear HBW
  have HBW:=HBW'
  clear HBW'
  clear hN1
  go_upto_if 46 with fail
  generalize w6.alloc (.cells #[.int .i64 (n:Int),.slice o4 mm.length k4] 55)=W6 at *
  generalize w6.heap.size=B10 at *
  go_cut [4] from 17 (fun v wc=>v=.bool false∧wc=W6)
  case first=>
   go_wp2
   go_meet
   case rel=>exact⟨rfl,rfl⟩
  case rest=>
   obtain⟨rfl,rfl⟩:=hcut
   apply_assumption
   exact zlm w _ B6 (B6+1) B8 B10 n o1 o2 o3 o4 k1 k2 k3 k4 hs ks ss mm ph pk ps pm HBW.out h1 h4 X8.out LX.out.lat X9.out LY.out.lat XS.out LS.out.lat XM.out LM.out.lat HFX.out HFY.out HFS.out HFM.out HAS.out HBO.out _ _ _ _ _ _ _ _ _ _ _ _ _ _ _ _ _ _ _ _ _ _ _ _ _ _ _ _ _ _ _ _ _ _ _ _ _ _ _ _ _ _ _ _ _ _ _ _ _ _ _ _ _ _ _ _ _ _ _ _ _ _ _ _ _ _ _ _ _ _ _ _ _ _ _ _ _ _ _ _ _ _ _ _ _ _ _ _ _ _ _ _ _ _ _ _
end Go.Proofs.YtdedolkgcdlmeaaGreatDoor
namespace Go.Proofs.YtdedolkgcdlmeaaGreatDoor
open Go.ChangeShapes Go.WideShapes Go.ChangeAt Go.RowKit Go.Joins Limbs
theorem Tryz.cellsGens:Tryz.prog.cellsOf 53=2:=by kernel_rfl
theorem Tryz.cellsIntS:Tryz.prog.cellsOf 38=1:=by kernel_rfl
theorem Tryz.cellsInt:Tryz.prog.cellsOf 3=1:=by kernel_rfl
set_option maxRecDepth 100000 in
theorem zj4 {H:Type}{enc:TypeId × Value→H}{W:World}{n:Nat}{v:Value}{y:DataW H × List MemPlace}
  (h:DataW.trod enc Tryz.prog W 0 (fun _=>true) true n 38 [v]=some y):∃ ks,RowS W v ks:=by
 rcases open_ints Tryz.underlying38 Tryz.underlying3 Tryz.cellsInt h with⟨hcs,_⟩ |⟨x,l,c,zs,hcs,_,hl,hm,hz,_,hcell,hwz⟩
 ·simp only [List.cons.injEq,and_true] at hcs
  subst hcs
  exact⟨[],none,0,rfl,Nat.le_refl _,fun i=>by simp,fun h=>absurd h (by simp)⟩
 ·simp only [List.cons.injEq,and_true] at hcs
  subst hcs
  have hz':zs.length=c:=by simpa using hz
  have hlen:(zs.take l).length=l:=by rw [List.length_take];omega
  refine⟨zs.take l,some x,c,by rw [hlen],by rw [hlen];exact hl,fun i=>?_,fun h0=>?_⟩
  ·by_cases hi:i < (zs.take l).length
   ·rw [List.getD_eq_getElem?_getD,List.getElem?_eq_getElem hi,Option.getD_some]
    have:=hwz _ (List.mem_of_mem_take (List.getElem_mem hi))
    simp [Lit.wf,IntKind.min,IntKind.max,IntKind.signed,IntKind.bits] at this
    rw [List.getElem_take]
    omega
   ·rw [List.getD_eq_getElem?_getD,List.getElem?_eq_none (by omega)]
    simp
  ·obtain⟨blk,off,spot⟩:=x
   rw [hlen] at h0
   have h00:=hcell 0 (by omega)
   have hspot:spot=none:=by simpa [Addr.add] using World.cell?_spot h00
   subst hspot
   refine⟨blk,off,rfl,World.block_lt_of_cell? W _ h00,fun i hi=>?_⟩
   rw [hlen] at hi
   have:=hcell i (by omega)
   rw [zaM zs l i (by omega)]
   by_cases hi0:i=0
   ·subst hi0;simpa [Addr.add] using this
   ·simpa [Addr.add,hi0] using this
set_option maxRecDepth 100000 in
theorem zfY {H:Type}{enc:TypeId × Value→H}{W:World}{r:Reach}{b0:Nat}{v:Value}{d:DataW H}{p:List MemPlace}
  (hv:Value.okWide Tryz.prog W r b0 53 v) (h:DataW.Trod enc Tryz.prog W 0 (fun _=>true) true 53 v d p):
  ∃ nI go gcap rs,v=.agg #[.int .i64 nI,.slice go rs.length gcap]∧RowsS W (.slice go rs.length gcap) rs:=by
 obtain⟨c0,c1,y0,y1,m,rfl,rfl,rfl,hy0,hy1⟩:=open_agg2 Tryz.underlying53 (by kernel_rfl) Tryz.cellsGens hv h
 obtain⟨nI,e0,-,-⟩:=DataW.trod_int Tryz.underlying3 hy0
 simp only [List.cons.injEq,and_true] at e0
 subst e0
 rcases Go.Deep.open_slice1 Tryz.underlying51 Tryz.cellsIntS hy1 with⟨hcs,_⟩ |⟨a,l,c,m,n,V,D,Pl,hcs,_,hl,hm,hmm,_,hc⟩
 ·simp only [List.cons.injEq,and_true] at hcs
  subst hcs
  exact⟨nI,none,0,[],rfl,none,0,rfl,by simp,fun h=>absurd h (by simp)⟩
 ·simp only [List.cons.injEq,and_true] at hcs
  subst hcs
  have hm':l≤m:=by simp at hmm;omega
  have each:∀ i,i < l→∃ ks:List Int,RowS W (V i) ks:=fun i hi=>zj4 (hc i (by omega)).2
  obtain⟨q,hq⟩:=Go.Deep.choose_lt each
  have hlen:((List.range l).map q).length=l:=by simp
  refine⟨nI,some a,c,(List.range l).map q,by rw [hlen],some a,c,rfl,by rw [hlen];exact hl,fun h0=>?_⟩
  rw [hlen] at h0
  obtain⟨k0,-⟩:=hc 0 (by omega)
  obtain⟨blk,off,spot⟩:=a
  have hsp:spot=none:=by simpa [Addr.add] using World.cell?_spot k0
  subst hsp
  refine⟨blk,off,rfl,by simpa [Addr.add] using World.block_lt_of_cell? W _ k0,fun i rs hi=>?_⟩
  obtain⟨hi',e⟩:=List.getElem?_eq_some_iff.1 hi
  rw [hlen] at hi'
  have e':rs=q i:=by simpa using e.symm
  obtain⟨c0,-⟩:=hc i (by omega)
  rw [Go.WideShapes.add_plain] at c0
  rw [e']
  exact⟨_,c0,hq i hi'⟩
end Go.Proofs.YtdedolkgcdlmeaaGreatDoor
