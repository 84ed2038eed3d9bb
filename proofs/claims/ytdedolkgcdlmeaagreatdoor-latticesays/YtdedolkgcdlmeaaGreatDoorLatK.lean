import Derived.Test.YtdedolkgcdlmeaaGreatDoorLsF
import Derived.Deep.LoopGhost
set_option maxRecDepth 100000
set_option maxHeartbeats 6400000
set_option linter.unusedSimpArgs false
namespace Go.Proofs.YtdedolkgcdlmeaaGreatDoor
open Go.RowKit Limbs Digs
variable{k:Nat}
theorem ziH (w W:World)(PA PB B8 B11 n nb la lb ca cb kA kB cA cB vcap:Nat)(ga gb oA oB mA mB vo:Option Addr)(hs ks:List (List Int))(p q:Nat→Nat)(vs:List Int)(hbe:Below w.heap.size w W)(hL:LaS W PA PB B8 B11 n nb la lb ca cb kA kB cA cB vcap ga gb oA oB mA mB vo hs ks p q vs)(sl0 sl1 sl5 sl6 sl7 sl10 sl13 sl14 sl15 sl16 sl17 sl18 sl19 sl20 sl21 sl22 sl23 sl24 sl25 sl26 sl27 sl28 sl29 sl30 sl31 sl32 sl33 sl34 sl35 sl36 sl37 sl38 sl39 sl40 sl41 sl42 sl43 sl44 sl45 sl46 sl47 sl48 sl49 sl50 sl51 sl52 sl53 sl54 sl55 sl56 sl57 sl58 sl59 sl60 sl61 sl62 sl63 sl64 sl65 sl66 sl67 sl68 sl69 sl70 sl71 sl72 sl73 sl74 sl75 sl76 sl77 sl78 sl79 sl80 sl81 sl82 sl83 sl84 sl85 sl86 sl87 sl88 sl89 sl90 sl91 sl92 sl93 sl94 sl95 sl96 sl97 sl98 sl99 sl100 sl101 sl102 sl103 sl104 sl105 sl106 sl107 sl108 sl109 sl110 sl111 sl112 sl113 sl114 sl115 sl116 sl117 sl118 sl119 sl120 sl121 sl122 sl123 sl124 sl125 sl126 sl127 sl128 sl129 sl130 sl131 sl132 sl133 sl134 sl135 sl136 sl137 sl138 sl139 sl140 sl141 sl142 sl143 sl144 sl145 sl146 sl147 sl148 sl149 sl150 sl151 sl152 sl153 sl154 sl155 sl156 sl157 sl158 sl159 sl160 sl161 sl162 sl163 sl164 sl165 sl166 sl167 sl168 sl169 sl170 sl171 sl172 sl173 sl174 sl175 sl176 sl177 sl178 sl179 sl180 sl181 sl182 sl183 sl184 sl185 sl186 sl187 sl188 sl189 sl190 sl191 sl192 sl193 sl194 sl195 sl196 sl197 sl198 sl199 sl200 sl201 sl202 sl203 sl204 sl205 sl206 sl207 sl208 sl209 sl210 sl211 sl212 sl213 sl214 sl215 sl216 sl217 sl218 sl219 sl220 sl221 sl222 sl223:Value):
  (Code.tl (Code.tl (Code.tl (Code.tl (Code.tl (Code.tl (Code.tl (Code.tl (Code.tl (Code.tl ((Tryz.f5.body).getD .skip))))))))))).wp Tryz.prog (bodyPost Tryz.prog Tryz.f5 (fun e w'=>e=.returned (.bool true)∧Below w.heap.size w w')) ⟨#[sl0,sl1,(.slice vo vs.length vcap),(.pointer (some ⟨PA,0,none⟩)),(.pointer (some ⟨PB,0,none⟩)),sl5,sl6,sl7,(.pointer (some ⟨B8,0,none⟩)),(.slice mA hs.length cA),sl10,(.pointer (some ⟨B11,0,none⟩)),(.slice mB ks.length cB),sl13,sl14,sl15,sl16,sl17,sl18,sl19,sl20,sl21,sl22,sl23,sl24,sl25,sl26,sl27,sl28,sl29,sl30,sl31,sl32,sl33,sl34,sl35,sl36,sl37,sl38,sl39,sl40,sl41,sl42,sl43,sl44,sl45,sl46,sl47,sl48,sl49,sl50,sl51,sl52,sl53,sl54,sl55,sl56,sl57,sl58,sl59,sl60,sl61,sl62,sl63,sl64,sl65,sl66,sl67,sl68,sl69,sl70,sl71,sl72,sl73,sl74,sl75,sl76,sl77,sl78,sl79,sl80,sl81,sl82,sl83,sl84,sl85,sl86,sl87,sl88,sl89,sl90,sl91,sl92,sl93,sl94,sl95,sl96,sl97,sl98,sl99,sl100,sl101,sl102,sl103,sl104,sl105,sl106,sl107,sl108,sl109,sl110,sl111,sl112,sl113,sl114,sl115,sl116,sl117,sl118,sl119,sl120,sl121,sl122,sl123,sl124,sl125,sl126,sl127,sl128,sl129,sl130,sl131,sl132,sl133,sl134,sl135,sl136,sl137,sl138,sl139,sl140,sl141,sl142,sl143,sl144,sl145,sl146,sl147,sl148,sl149,sl150,sl151,sl152,sl153,sl154,sl155,sl156,sl157,sl158,sl159,sl160,sl161,sl162,sl163,sl164,sl165,sl166,sl167,sl168,sl169,sl170,sl171,sl172,sl173,sl174,sl175,sl176,sl177,sl178,sl179,sl180,sl181,sl182,sl183,sl184,sl185,sl186,sl187,sl188,sl189,sl190,sl191,sl192,sl193,sl194,sl195,sl196,sl197,sl198,sl199,sl200,sl201,sl202,sl203,sl204,sl205,sl206,sl207,sl208,sl209,sl210,sl211,sl212,sl213,sl214,sl215,sl216,sl217,sl218,sl219,sl220,sl221,sl222,sl223],[]⟩ W:=by
 simp only [Code.tl,Tryz.f5,Option.getD_some];have LL0:=hide hL;have BW0:=hide hbe;have v10:=hL.v10;clear hL hbe;obtain⟨vo',vc',e,hvl,h64,hcell⟩:=LL0.out.v;simp only [zV,true_and] at e;obtain⟨rfl,rfl⟩:=e;have HC:=hide hcell;have H64:=hide h64;clear hcell h64;go_upto_block 0 with fail;go_cut [6,18] from 117 to 134 (fun _ _ wc=>wc=W)
 case first=>
  go_wp2_with fail;go_loopw [18] (fun i wr=>∃ k:Nat,k≤vs.length∧i=.int .i64 k∧wr=W) (fun i _=>vs.length-(intOf i).toNat)
  case atStart=>exact⟨0,Nat.zero_le _,rfl,rfl⟩
  case round=>
   obtain⟨k,hk,rfl,hw⟩:=hrel;subst wr;by_cases hkl:k<vs.length
   ·obtain⟨lb',loff,rfl,llt,hc⟩:=HC.out (by omega);have cz:=hc k hkl;have hz:=H64.out k;generalize vs.getD k 0=z at *;clear hc;by_cases hlo:z < -1000000
    ·have g0:decide (z < -1000000)=true:=decide_eq_true hlo;go_wp2;go_ret;exact⟨rfl,BW0.out⟩
    ·have g0:decide (z < -1000000)=false:=decide_eq_false hlo;by_cases hup:1000000<z
     ·have g1:decide (1000000<z)=true:=decide_eq_true hup;go_wp2;go_ret;exact⟨rfl,BW0.out⟩
     ·have g1:decide (1000000<z)=false:=decide_eq_false hup;go_wp2;go_roundw
      case rel=>exact⟨k+1,by omega,by go_num,by first | rfl | trivial⟩
      case measure=>simp [intOf];omega
   ·obtain rfl:k=vs.length:=by omega
    go_wp2;go_meet
    case rel=>first | rfl | trivial
 case rest=>
  subst hcut;apply_assumption;exact ziI w _ PA PB B8 B11 n nb la lb ca cb kA kB cA cB vcap ga gb oA oB mA mB vo hs ks p q vs BW0.out LL0.out _ _ _ _ _ _ _ _ _ _ _ _ _ _ _ _ _ _ _ _ _ _ _ _ _ _ _ _ _ _ _ _ _ _ _ _ _ _ _ _ _ _ _ _ _ _ _ _ _ _ _ _ _ _ _ _ _ _ _ _ _ _ _ _ _ _ _ _ _ _ _ _ _ _ _ _ _ _ _ _ _ _ _ _ _ _ _ _ _ _ _ _ _ _ _ _ _ _ _ _ _ _ _ _ _ _ _ _ _ _ _ _ _ _ _ _ _ _ _ _ _ _ _ _ _ _ _ _ _ _ _ _ _ _ _ _ _ _ _ _ _ _ _ _ _ _ _ _ _ _ _ _ _ _ _ _ _ _ _ _ _ _ _ _ _ _ _ _ _ _ _ _ _ _ _ _ _ _ _ _ _ _ _ _ _ _ _ _ _ _ _ _ _ _ _ _ _ _ _ _ _ _ _ _ _ _ _ _ _ _ _ _ _ _ _ _ _
theorem ziG (w W:World)(PA PB B8 B11 n nb la lb ca cb kA kB cA cB vcap:Nat)(ga gb oA oB mA mB vo:Option Addr)(hs ks:List (List Int))(p q:Nat→Nat)(vs:List Int)(hbe:Below w.heap.size w W)(hL:LaS W PA PB B8 B11 n nb la lb ca cb kA kB cA cB vcap ga gb oA oB mA mB vo hs ks p q vs)(B14 B16 k14 k16 N16:Nat)(o14 o16:Option Addr)(ms fs:List (List Int))(h14:BoxL W B14 (.int .i64 (n:Int)) (.slice o14 n k14))(h16:BoxL W B16 (.int .i64 (n:Int)) (.slice o16 fs.length k16))(l14:LatN W (.agg #[(.int .i64 (n:Int)),.slice o14 n k14]) n (unitsL n) 2)(l16:LatN W (.agg #[(.int .i64 (n:Int)),.slice o16 fs.length k16]) n fs N16)(hK:KerOf n hs ms)(hK2:KerOf n ms fs)(sl0 sl1 sl5 sl6 sl7 sl10 sl13 sl18 sl19 sl20 sl21 sl22 sl23 sl24 sl25 sl26 sl27 sl28 sl29 sl30 sl31 sl32 sl33 sl34 sl35 sl36 sl37 sl38 sl39 sl40 sl41 sl42 sl43 sl44 sl45 sl46 sl47 sl48 sl49 sl50 sl51 sl52 sl53 sl54 sl55 sl56 sl57 sl58 sl59 sl60 sl61 sl62 sl63 sl64 sl65 sl66 sl67 sl68 sl69 sl70 sl71 sl72 sl73 sl74 sl75 sl76 sl77 sl78 sl79 sl80 sl81 sl82 sl83 sl84 sl85 sl86 sl87 sl88 sl89 sl90 sl91 sl92 sl93 sl94 sl95 sl96 sl97 sl98 sl99 sl100 sl101 sl102 sl103 sl104 sl105 sl106 sl107 sl108 sl109 sl110 sl111 sl112 sl113 sl114 sl115 sl116 sl117 sl118 sl119 sl120 sl121 sl122 sl123 sl124 sl125 sl126 sl127 sl128 sl129 sl130 sl131 sl132 sl133 sl134 sl135 sl136 sl137 sl138 sl139 sl140 sl141 sl142 sl143 sl144 sl145 sl146 sl147 sl148 sl149 sl150 sl151 sl152 sl153 sl154 sl155 sl156 sl157 sl158 sl159 sl160 sl161 sl162 sl163 sl164 sl165 sl166 sl167 sl168 sl169 sl170 sl171 sl172 sl173 sl174 sl175 sl176 sl177 sl178 sl179 sl180 sl181 sl182 sl183 sl184 sl185 sl186 sl187 sl188 sl189 sl190 sl191 sl192 sl193 sl194 sl195 sl196 sl197 sl198 sl199 sl200 sl201 sl202 sl203 sl204 sl205 sl206 sl207 sl208 sl209 sl210 sl211 sl212 sl213 sl214 sl215 sl216 sl217 sl218 sl219 sl220 sl221 sl222 sl223:Value):
  (Code.tl (Code.tl (Code.tl (Code.tl (Code.tl (Code.tl (Code.tl (Code.tl (Code.tl ((Tryz.f5.body).getD .skip)))))))))).wp Tryz.prog (bodyPost Tryz.prog Tryz.f5 (fun e w'=>e=.returned (.bool true)∧Below w.heap.size w w')) ⟨#[sl0,sl1,(.slice vo vs.length vcap),(.pointer (some ⟨PA,0,none⟩)),(.pointer (some ⟨PB,0,none⟩)),sl5,sl6,sl7,(.pointer (some ⟨B8,0,none⟩)),(.slice mA hs.length cA),sl10,(.pointer (some ⟨B11,0,none⟩)),(.slice mB ks.length cB),sl13,(.pointer (some ⟨B14,0,none⟩)),.nilIface,(.pointer (some ⟨B16,0,none⟩)),.nilIface,sl18,sl19,sl20,sl21,sl22,sl23,sl24,sl25,sl26,sl27,sl28,sl29,sl30,sl31,sl32,sl33,sl34,sl35,sl36,sl37,sl38,sl39,sl40,sl41,sl42,sl43,sl44,sl45,sl46,sl47,sl48,sl49,sl50,sl51,sl52,sl53,sl54,sl55,sl56,sl57,sl58,sl59,sl60,sl61,sl62,sl63,sl64,sl65,sl66,sl67,sl68,sl69,sl70,sl71,sl72,sl73,sl74,sl75,sl76,sl77,sl78,sl79,sl80,sl81,sl82,sl83,sl84,sl85,sl86,sl87,sl88,sl89,sl90,sl91,sl92,sl93,sl94,sl95,sl96,sl97,sl98,sl99,sl100,sl101,sl102,sl103,sl104,sl105,sl106,sl107,sl108,sl109,sl110,sl111,sl112,sl113,sl114,sl115,sl116,sl117,sl118,sl119,sl120,sl121,sl122,sl123,sl124,sl125,sl126,sl127,sl128,sl129,sl130,sl131,sl132,sl133,sl134,sl135,sl136,sl137,sl138,sl139,sl140,sl141,sl142,sl143,sl144,sl145,sl146,sl147,sl148,sl149,sl150,sl151,sl152,sl153,sl154,sl155,sl156,sl157,sl158,sl159,sl160,sl161,sl162,sl163,sl164,sl165,sl166,sl167,sl168,sl169,sl170,sl171,sl172,sl173,sl174,sl175,sl176,sl177,sl178,sl179,sl180,sl181,sl182,sl183,sl184,sl185,sl186,sl187,sl188,sl189,sl190,sl191,sl192,sl193,sl194,sl195,sl196,sl197,sl198,sl199,sl200,sl201,sl202,sl203,sl204,sl205,sl206,sl207,sl208,sl209,sl210,sl211,sl212,sl213,sl214,sl215,sl216,sl217,sl218,sl219,sl220,sl221,sl222,sl223],[]⟩ W:=by
 simp only [Code.tl,Tryz.f5,Option.getD_some];have LL0:=hide hL;have XS0:=hide h14;have XT0:=hide h16;have KS0:=hide l14;have KT0:=hide l16;have BW0:=hide hbe;have HK:=hide hK;have HK2:=hide hK2;have h1:=hL.h1;have h4:=hL.h4;clear hL h14 h16 l14 l16 hbe hK hK2;have HFA:=hide LL0.out.fa;have HFU:=hide (zcd n);have hkn:=fun(w':World)=>zix w' n h1 h4;have HKN:=hide hkn;clear hkn;generalize unitsL n=un at *;obtain⟨c0,c1,c2,c3,c4,c5⟩:=LL0.out.cells;obtain⟨xe0,xe1⟩:=zk XS0.out;obtain⟨xe2,xe3⟩:=zk XT0.out;go_wp2_with fail
 go_region_held3 (fun w'=>w'.cell? ⟨PA,0,none⟩=some (.int .i64 (n:Int))∧w'.cell? ⟨PB,0,none⟩=some (.int .i64 (nb:Int))∧w'.cell? ⟨B8,0,none⟩=some (.int .i64 (n:Int))∧w'.cell? ⟨B8,1,none⟩=some (.slice oA hs.length kA)∧w'.cell? ⟨B11,0,none⟩=some (.int .i64 (nb:Int))∧w'.cell? ⟨B11,1,none⟩=some (.slice oB ks.length kB)∧w'.cell? ⟨B14,0,none⟩=some (.int .i64 (n:Int))∧w'.cell? ⟨B14,1,none⟩=some (.slice o14 n k14)∧w'.cell? ⟨B16,0,none⟩=some (.int .i64 (n:Int))∧w'.cell? ⟨B16,1,none⟩=some (.slice o16 fs.length k16)) (go_keep)
  (first
   |(go_at_call 23;refine(zbx w6 _ _ n N16 1000000 fs ks5 (by exact KT6.out) (by exact KM.out) h4 (by have h:=HKK.out;rw [zds h HK.out] at HK5;exact zds HK2.out HK5.out)).mono ?_;rintro e w7 ⟨rfl,hb7⟩;have LL7:=hide (LL6.out.later hb7);have XS7:=hide (XS6.out.later hb7);have XT7:=hide (XT6.out.later hb7);have KS7:=hide (KS6.out.below hb7);have KT7:=hide (KT6.out.below hb7);have BW7:=hide (BW6.out.trans (hb7.mono BW6.out.size));obtain⟨yt0,yt1,yt2,yt3,yt4,yt5⟩:=LL7.out.cells;obtain⟨xu0,xu1⟩:=zk XS7.out;obtain⟨xu2,xu3⟩:=zk XT7.out;have HBX:=hide hb7;clear hb7)
   |(go_at_call 24;refine(zcR w5 _ n 1000000 ks5 M5.out HK5.out.form h1 h4 (by decide)).mono ?_;rintro e w6 ⟨o6,c6,rfl,k6,hb6⟩;have KM:=hide k6;have LL6:=hide (LL5.out.later hb6);have XS6:=hide (XS5.out.later hb6);have XT6:=hide (XT5.out.later hb6);have KS6:=hide (KS5.out.below hb6);have KT6:=hide (KT5.out.below hb6);have BW6:=hide (BW5.out.trans (hb6.mono BW5.out.size));obtain⟨yr0,yr1,yr2,yr3,yr4,yr5⟩:=LL6.out.cells;obtain⟨xs0,xs1⟩:=zk XS6.out;obtain⟨xs2,xs3⟩:=zk XT6.out;clear k6 hb6)
   |(go_at_call 28;refine(ziz w4 _ n ks4 p4 M4.out HF4.out h1 h4).mono ?_;rintro e w5 ⟨o5,c5,ks5,rfl,m5,kk5,hb5⟩;have M5:=hide m5;have HK5:=hide kk5;have LL5:=hide (LL4.out.later hb5);have XS5:=hide (XS4.out.later hb5);have XT5:=hide (XT4.out.later hb5);have KS5:=hide (KS4.out.below hb5);have KT5:=hide (KT4.out.below hb5);have BW5:=hide (BW4.out.trans (hb5.mono BW4.out.size));obtain⟨yo0,yo1,yo2,yo3,yo4,yo5⟩:=LL5.out.cells;obtain⟨xp0,xp1⟩:=zk XS5.out;obtain⟨xp2,xp3⟩:=zk XT5.out;clear m5 kk5 hb5)
   |(go_at_call 28;refine(ze7 w3 _ n hs p LL3.out.ma HFA.out LL3.out.absA h1 h4).mono ?_;rintro e w4 ⟨o4,c4,ks4,rfl,m4,kk4,hb4⟩;have M4:=hide m4;have HKK:=hide kk4;have LL4:=hide (LL3.out.later hb4);have XS4:=hide (XS3.out.later hb4);have XT4:=hide (XT3.out.later hb4);have KS4:=hide (KS3.out.below hb4);have KT4:=hide (KT3.out.below hb4);have BW4:=hide (BW3.out.trans (hb4.mono BW3.out.size));obtain⟨ym0,ym1,ym2,ym3,ym4,ym5⟩:=LL4.out.cells;obtain⟨xn0,xn1⟩:=zk XS4.out;obtain⟨xn2,xn3⟩:=zk XT4.out;obtain⟨p4,f4⟩:=kk4.form;have HF4:=hide f4;clear m4 hb4 f4 kk4)
   |(go_at_call 23;refine(zbx w2 _ _ n 2 150 un un (by exact KS2.out) (by exact KG.out) h4 rfl).mono ?_;rintro e w3 ⟨rfl,hb3⟩;have LL3:=hide (LL2.out.later hb3);have XS3:=hide (XS2.out.later hb3);have XT3:=hide (XT2.out.later hb3);have KS3:=hide (KS2.out.below hb3);have KT3:=hide (KT2.out.below hb3);have BW3:=hide (BW2.out.trans (hb3.mono BW2.out.size));obtain⟨yj0,yj1,yj2,yj3,yj4,yj5⟩:=LL3.out.cells;obtain⟨xk0,xk1⟩:=zk XS3.out;obtain⟨xk2,xk3⟩:=zk XT3.out;clear hb3)
   |(go_at_call 24;refine(zcR w1 _ n 150 un M1.out ⟨_,HFU.out⟩ h1 h4 (by decide)).mono ?_;rintro e w2 ⟨o2,c2,rfl,k2,hb2⟩;have KG:=hide k2;have LL2:=hide (LL1.out.later hb2);have XS2:=hide (XS1.out.later hb2);have XT2:=hide (XT1.out.later hb2);have KS2:=hide (KS1.out.below hb2);have KT2:=hide (KT1.out.below hb2);have BW2:=hide (BW1.out.trans (hb2.mono BW1.out.size));obtain⟨yg0,yg1,yg2,yg3,yg4,yg5⟩:=LL2.out.cells;obtain⟨xi0,xi1⟩:=zk XS2.out;obtain⟨xi2,xi3⟩:=zk XT2.out;clear k2 hb2)
   |(go_at_call 28;refine(HKN.out _).mono ?_;rintro e w1 ⟨o1,c1,rfl,m1,hb1'⟩;have hb1:Below W.heap.size W w1:=(zB _ _).drew.trans (hb1'.mono (by simp));have M1:=hide m1;have LL1:=hide (LL0.out.later hb1);have XS1:=hide (XS0.out.later hb1);have XT1:=hide (XT0.out.later hb1);have KS1:=hide (KS0.out.below hb1);have KT1:=hide (KT0.out.below hb1);have BW1:=hide (BW0.out.trans (hb1.mono BW0.out.size));obtain⟨yd0,yd1,yd2,yd3,yd4,yd5⟩:=LL1.out.cells;obtain⟨xf0,xf1⟩:=zk XS1.out;obtain⟨xf2,xf3⟩:=zk XT1.out;clear m1 hb1 hb1'))
 go_upto_if 116 with fail;go_cut [] from 27 (fun wx=>wx=w7)
 case first=>
  go_wp2;go_meet
  case rel=>rfl
 case rest=>
  subst hcut;apply_assumption;exact ziH w _ PA PB B8 B11 n nb la lb ca cb kA kB cA cB vcap ga gb oA oB mA mB vo hs ks p q vs BW7.out LL7.out _ _ _ _ _ _ _ _ _ _ _ _ _ _ _ _ _ _ _ _ _ _ _ _ _ _ _ _ _ _ _ _ _ _ _ _ _ _ _ _ _ _ _ _ _ _ _ _ _ _ _ _ _ _ _ _ _ _ _ _ _ _ _ _ _ _ _ _ _ _ _ _ _ _ _ _ _ _ _ _ _ _ _ _ _ _ _ _ _ _ _ _ _ _ _ _ _ _ _ _ _ _ _ _ _ _ _ _ _ _ _ _ _ _ _ _ _ _ _ _ _ _ _ _ _ _ _ _ _ _ _ _ _ _ _ _ _ _ _ _ _ _ _ _ _ _ _ _ _ _ _ _ _ _ _ _ _ _ _ _ _ _ _ _ _ _ _ _ _ _ _ _ _ _ _ _ _ _ _ _ _ _ _ _ _ _ _ _ _ _ _ _ _ _ _ _ _ _ _ _ _ _ _ _ _ _ _ _ _ _ _ _ _ _ _ _ _
theorem zjz (w:World)(va:Value)(f n nv:Nat)(ts:List (List Int))(ha:MatN w va ts nv)(hl:∀ r∈ts,r.length=f+n)(h1:1≤n)(h4:f+n≤100)(hm:ts.length≤100):
  Calls Tryz.prog 111 #[va,.int .i64 (f:Int)] w fun e w'=>∃ u,e=.returned u∧MatN w' u (behindL f ts) nv∧Below w.heap.size w w':=by
 obtain⟨j0,hj,hy0,hy1,hy2⟩:=info_parts Tryz.infoVec;have HA:=hide ha;have HL:=hide hl;obtain⟨ao,acap,rfl,-,-⟩:=ha;clear hl;go_enter Tryz.func111,Tryz.ntmps111;go_wp2;go_loopw [5,9] (fun out i wr=>∃(k:Nat) (qs:List (Value × List Int)),k≤ts.length∧i=.int .i64 k∧Hid (GrowV wr w.heap.size out qs nv)∧Hid (qs.map (·.2)=behindL f (ts.take k))∧Hid (Below w.heap.size w wr)) (fun _ i _=>ts.length-(intOf i).toNat)
 case atStart=>exact⟨0,[],Nat.zero_le _,rfl,hide (GrowV.nil _ _ _),hide (by simp [behindL]),hide (zB _ _)⟩
 case round=>
  obtain⟨k,qs,hk,rfl,HGV,HQ,HBE⟩:=hrel;have HQL:Hid (qs.length≤100):=by
   have h1:=congrArg List.length HQ.out;have h2:=zcT f ts k;rw [zM] at h1;show qs.length≤100;omega
  by_cases hkl:k<ts.length
  ·obtain⟨rb,roff,_,e,lr,ru,cu,hru⟩:=HA.out.at k hkl;simp only [zV,true_and] at e;obtain⟨rfl,rfl⟩:=e;have HLU:Hid (ts[k].length=f+n):=HL.out _ (List.getElem_mem hkl);have HSU:=hide (zeq f ts k hkl);generalize ts[k]=us at *;obtain⟨vb,voff,vcap,rfl⟩:=hru.form (by have:=HLU.out;omega);have hcap:f+n≤vcap:=by
    obtain⟨_,_,e,h1,-⟩:=hru;simp only [zV,true_and] at e;have:=HLU.out;omega
   have HU:=hide (hru.below HBE.out zL);have HD:=hide (HU.out.drop (n:=f) (m:=n) HLU.out.symm (by omega));rw [HLU.out] at cu;have c1:=(HBE.out.cell (p:=⟨rb,roff+k,none⟩) lr).trans cu;clear hru cu;go_wp2_with fail;refine(zbN wr _ us nv (by have:=HU.out;rw [HLU.out] at this;exact this) (by have:=HLU.out;omega)).mono ?_;rintro e w1 ⟨rfl,hb1⟩;have HB1:=hide (HBE.out.trans (hb1.mono HBE.out.size));have HG1:=hide (HGV.out.later hb1);have HD1:=hide (HD.out.below hb1 zL);have c2:=(hb1.cell (p:=⟨rb,roff+k,none⟩) (zT lr HBE.out.size)).trans c1;clear hb1 HGV HD HU c1;by_cases hf:(f:Int)≤first us
   ·have g1:decide ((f:Int)≤first us)=true:=decide_eq_true hf;have HQ':Hid ((qs++[((.slice (some ⟨vb,voff+f*2,none⟩) n (vcap-f):Value),us.drop f)]).map (·.2)=behindL f (ts.take (k+1))):=by
     show _=_;rw [List.map_append,HQ.out,HSU.out,if_pos hf];rfl
    have hown:=HG1.out.own;have hall:=HG1.out.all.later ((zB _ _).alloc zL (.cells #[.slice (some ⟨vb,voff+f*2,none⟩) n (vcap-f)] 72));have hbs:=HB1.out.size;have g2:¬(f:Int)<0:=by omega
    clear hf;go_wp2_with (at_builtin;refine zd7 rfl _ _ 23 rfl w.heap.size 72 j0 24 (by kernel_rfl) hj hy0 hy1 hy2 u5 qs.length (qs.map (·.1)) rfl (hown.alloc _) hall ⟨w1.heap.size,0,none⟩ 1 (some ⟨vb,voff+f*2,none⟩) n (vcap-f) rfl (World.news_of_block (heap_alloc_new w1 _)) (by unfold maxLen;have:=HQL.out;omega) (by have:=HQL.out;omega) (by simp;omega) ?_);intro g cap' w5 hown5 hgrow5 hall5;have HG5:=hide (zdp (HG1.out.later ((zB _ _).alloc zL _)) (HD1.out.below ((zB _ _).alloc zL _) zL) hown5 hgrow5 hall5);have HB5:=hide ((HB1.out.alloc HB1.out.size _).trans (zdq (HG1.out.later ((zB _ _).alloc zL _)) (by simp;omega) hgrow5));clear hown hall hown5 hgrow5 hall5 HG1 HD1 HB1 c2;go_wp2;go_roundw
    case rel=>exact⟨k+1,_,by omega,by go_num,HG5,HQ',HB5⟩
    case measure=>simp [intOf];omega
   ·have g1:decide ((f:Int)≤first us)=false:=decide_eq_false hf;have HQ':Hid (qs.map (·.2)=behindL f (ts.take (k+1))):=by
     show _=_;rw [HQ.out,HSU.out,if_neg hf,List.append_nil]
    clear hf;go_wp2;go_roundw
    case rel=>exact⟨k+1,_,by omega,by go_num,HG1,HQ',HB1⟩
    case measure=>simp [intOf];omega
  ·obtain rfl:k=ts.length:=by omega
   have HF:Hid (MatN wr u5 (behindL f ts) nv):=by
    have:=HGV.out.mat;rw [HQ.out,List.take_length] at this;exact this
   clear HGV HQ;go_wp2;go_ret;exact⟨_,rfl,HF.out,HBE.out⟩
def RoomF (n nv:Nat):Prop:=nbK n (n*nv+2) nv n≤100000∧∀ h,h≤n→nbK (h+n) (n*nv+2) nv (h+n)≤100000
def KerFPost (w:World)(n nv:Nat)(ms:List (List Int))(e:Ending)(w':World):Prop:=
 ∃ u us q,e=.returned (.tuple #[u,.nilIface])∧MatN w' u (behindL ms.length us) (n*nv+2)∧FormL (ms.length+n) us q∧Alikes (ms.length+n) (InL us) (InL (tracedL ms n))∧us.length≤100∧Below w.heap.size w w'
theorem zfa (w:World)(v:Value)(ms:List (List Int))(n nv:Nat){p:Nat→Nat}(hv:MatN w v ms nv)(F:FormL n ms p)(hn1:1≤n)(hn:n≤8)(h2v:2≤nv)(hR:RoomF n nv):
  Calls Tryz.prog 76 #[v,.int .i64 (n:Int)] w fun e w'=>KerFPost w n nv ms e w':=by
 have hm:=F.short;have HC:=hide (zcY w v ms n nv hv hn1 hn (by omega) F.len);have HV:=hide hv;have HF:=hide F;obtain⟨ao,cap,rfl,-,-⟩:=hv;clear F;obtain⟨hb1,hb2⟩:=hR;have HB1:=hide hb1;have HB2:=hide hb2;clear hb1 hb2;go_enter Tryz.func76,Tryz.ntmps76;go_wp2_with fail;refine HC.out.mono ?_;rintro e w1 ⟨rfl,hbe1⟩;have HE1:=hide hbe1;clear hbe1 HC;go_wp2_with fail;refine(zjF w1 _ ms n nv (HV.out.below HE1.out zL) HF.out.len hn1 (by omega) (by omega) HB1.out).mono ?_;rintro e w2 ⟨u2,hs,p2,rfl,h1,h2,h3,h4,h5⟩;obtain rfl:hs=ms:=zar h4 HF.out h5;have HH:=hide (h1.tight HV.out.abs);have HE2:=hide (HE1.out.trans (h3.mono HE1.out.size));obtain⟨ho,hcap,rfl,-,-⟩:=h1;clear h3 h4 h5 HE1;go_wp2_with fail;refine(zkW w2 _ n nv hs HH.out HF.out.len hn1 (by omega) (by omega) h2v).mono ?_;rintro e w3 ⟨u3,rfl,h6,h7⟩;have HT:=hide h6;have HE3:=hide (HE2.out.trans (h7.mono HE2.out.size));clear h6 h7 HE2;go_wp2_with fail;rw [show((hs.length:Int)+(n:Int))=((hs.length+n:Nat):Int) by omega];refine(zfE w3 _ (tracedL hs n) (hs.length+n) nv n (.inr (by rw [zZ];exact Nat.le_refl _)) (by omega) HT.out (zcc hs n) (by omega) (by omega) (by rw [zZ];omega) (HB2.out hs.length h2)).mono ?_;rintro e w4 ⟨u4,us,q,rfl,g1,g2,g3,g4,g5,-⟩;have HU:=hide g1;have HG:=hide g4;have HGA:=hide g5;have HE4:=hide (HE3.out.trans (g3.mono HE3.out.size));clear g1 g3 g4 g5 HE3 HT HH;go_wp2_with fail;refine(zjz w4 _ hs.length n (n*nv+2) us HU.out HG.out.len hn1 (by omega) (by omega)).mono ?_;rintro e w5 ⟨u5',rfl,k1,k2⟩;have HK:=hide k1;have HE5:=hide (HE4.out.trans (k2.mono HE4.out.size));clear k1 k2 HE4 HU;have hul:us.length≤100:=by omega
 clear g2 h2;go_wp2;go_ret2;exact⟨_,us,q,rfl,HK.out,HG.out,HGA.out,hul,HE5.out⟩
def FillPost (w:World)(n nv:Nat)(hs:List (List Int))(e:Ending)(w':World):Prop:=
 ∃ v ms fs,e=.returned (.tuple #[v,.nilIface])∧LatN w' v n fs (n *(n*nv+2)+2)∧KerOf n hs ms∧KerOf n ms fs∧fs.length=hs.length∧Below w.heap.size w w'
theorem zhV (w:World)(va:Value)(n nv:Nat)(hs:List (List Int))(ha:LatN w va n hs nv)(h1:1≤n)(h4:n≤4)(h2v:2≤nv)(hR1:RoomF n nv)(hR2:RoomF n (n*nv+2)):
  Calls Tryz.prog 27 #[va] w fun e w'=>FillPost w n nv hs e w':=by
 have HA:=hide ha;have HR1:=hide hR1;have HR2:=hide hR2;obtain⟨⟨u,rfl,hu⟩,p,hF⟩:=ha;have HU:=hide hu;have HF:=hide hF;obtain⟨uo,ucap,rfl,-,-⟩:=hu;clear hF hR1 hR2;have HX:=hide (z8 w (.int .i64 (n:Int)) (.slice uo hs.length ucap) (.int .i64 0) (.slice none 0 0) 55 55);obtain⟨c0,c1,z0,z1⟩:=HX.out.1;obtain⟨d0,d1,y0,y1⟩:=HX.out.2.1;go_enter Tryz.func27,Tryz.ntmps27;go_wp2_with fail;clear c0 c1 z0 z1 d0 d1 y0 y1;generalize ((w.alloc (.cells #[.int .i64 (n:Int),.slice uo hs.length ucap] 55)).alloc (.cells #[.int .i64 0,.slice none 0 0] 55))=W0 at *;refine(zaA W0 _ n nv hs (by exact HA.out.below HX.out.2.2.1) h1 h4).mono ?_;rintro e w1 ⟨rfl,hb1⟩;have HB1:=hide (HX.out.2.2.1.trans (hb1.mono HX.out.2.2.1.size));have HC1:=hide (HX.out.1.later hb1 (by have:=HX.out.2.2.2;omega));have HD1:=hide (HX.out.2.1.later hb1 HX.out.2.2.2);have HS1:=hide (zT HX.out.2.2.2 hb1.size);clear hb1 HX;obtain⟨c0,c1,z0,z1⟩:=HC1.out;go_wp2_with fail;refine(zfa w1 _ hs n nv (by exact HU.out.below HB1.out zL) HF.out h1 (by omega) h2v HR1.out).mono ?_;rintro e w2 ⟨um,us,q,rfl,a1,a2,a3,-,a4⟩;have HK1:=hide (kerOf a2 a3);have HN1:=hide (ze9 HF.out a2 a3);obtain⟨qm,am⟩:=zbF a2;have HFM:=hide am;have HM:=hide a1;have HB2:=hide (HB1.out.trans (a4.mono HB1.out.size));have HC2:=hide (HC1.out.later a4 (by have:=HS1.out;omega));have HD2:=hide (HD1.out.later a4 HS1.out);have HS2:=hide (zT HS1.out a4.size);generalize behindL hs.length us=ms at *;obtain⟨mo,mcap,rfl,-,-⟩:=a1;clear a2 a3 a4 am c0 c1 z0 z1 HC1 HD1 HS1 HB1;obtain⟨c0,c1,z0,z1⟩:=HC2.out;go_wp2_with fail;refine(zfa w2 _ ms n (n*nv+2) (by exact HM.out) HFM.out h1 (by omega) (by omega) HR2.out).mono ?_;rintro e w3 ⟨uf,us2,q2,rfl,a1,a2,a3,-,a4⟩;have HK2:=hide (kerOf a2 a3);have HN2:=hide (ze9 HFM.out a2 a3);obtain⟨qf,af⟩:=zbF a2;have HB3:=hide (HB2.out.trans (a4.mono HB2.out.size));have HC3:=hide (HC2.out.later a4 (by have:=HS2.out;omega));obtain⟨d0,d1,y0,y1⟩:=HD2.out.later a4 HS2.out;generalize behindL ms.length us2=fs at *;have hpos:∀ us∈fs,0<us.length:=fun us hz=>by rw [af.len us hz];omega
 have HP:Hid (FillPost w n nv hs (.returned (.tuple #[.agg #[.int .i64 (n:Int),uf],.nilIface])) ((w3.setCell ⟨w.heap.size+1,0,none⟩ (.int .i64 (n:Int))).setCell ⟨w.heap.size+1,1,none⟩ uf)):=⟨_,ms,fs,rfl,⟨⟨uf,rfl,a1.setBasis _ _ hpos d0 d1⟩,qf,af⟩,HK1.out,HK2.out,by have h1:=HN1.out;have h2:=HN2.out;omega,(HB3.out.setCell (by simp) _).setCell (by simp) _⟩;obtain⟨fo,fcap,rfl,-,-⟩:=a1;clear a2 a3 a4 af hpos c0 c1 z0 z1;obtain⟨c0,c1,z0,z1⟩:=HC3.out;clear HC2 HD2 HS2 HB2 HB3 HM HFM;go_wp2;exact bodyPost_ret (v:=.tuple #[.agg #[.int .i64 (n:Int),.slice fo fs.length fcap],.nilIface]) (by simp [results,Tryz.results27,go_sem,d0,d1]) rfl HP.out
section
variable {r:Nat}{H H':List (List Int)}
theorem Sq.low (S:Sq r H){b:Nat}(hk:k<r)(hb:b<k):ent H k b=0:=S.form.form.zero k b (by rw [S.len];exact hk) hb
theorem Sq.pos (S:Sq r H)(hk:k<r):0<ent H k k:=S.form.form.pos k (by rw [S.len];exact hk)
theorem Sq.red (S:Sq r H){i:Nat}(hik:i<k)(hk:k<r):0≤ent H i k∧ent H i k<ent H k k:=S.form.form.red i k hik (by rw [S.len];exact hk)
end
open Classical in
noncomputable def codeK (r:Nat) (H:List (List Int)) (k:Nat):Nat:=2 *(ent H k k).toNat+if rowAl r H k then 0 else 1
noncomputable def muS (W r:Nat) (H:List (List Int)):Nat:=horn W (codeK r H) r
def EqM (r:Nat)(A B:Nat→Nat→Int):Prop:=∀ i j,i<r→j<r→A i j=B i j
def scM (e:Int):Nat→Nat→Int:=fun i j=>if i=j then e else 0
def trM (A:Nat→Nat→Int):Nat→Nat→Int:=fun i j=>A j i
section
variable {r:Nat}{A A' B B' C T U U' V V':Nat→Nat→Int}{e:Int}
theorem EqM.refl (A:Nat→Nat→Int):EqM r A A:=fun _ _ _ _=>rfl
theorem EqM.symm (h:EqM r A B):EqM r B A:=fun i j hi hj=>(h i j hi hj).symm
theorem EqM.trans (h:EqM r A B)(k:EqM r B C):EqM r A C:=fun i j hi hj=>(h i j hi hj).trans (k i j hi hj)
theorem EqM.mul (h:EqM r A A')(k:EqM r B B'):EqM r (mulM r A B) (mulM r A' B'):=fun i j hi hj=>zm fun q hq=>by rw [h i q hi hq,k q j hq hj]
theorem EqM.tr (h:EqM r A B):EqM r (trM A) (trM B):=fun i j hi hj=>h j i hj hi
theorem zcF (r:Nat)(A:Nat→Nat→Int):EqM r (mulM r A (scM 1)) A:=(mulM_sc r A 1).trans fun _ _ _ _=>Int.mul_one _
theorem zdG (r:Nat)(A:Nat→Nat→Int):EqM r (mulM r (scM 1) A) A:=(sc_mulM r A 1).trans fun _ _ _ _=>Int.mul_one _
theorem InvM.one (r:Nat):InvM r (scM 1) (scM 1):=⟨zcF r _,zcF r _⟩
theorem InvM.symm (h:InvM r U U'):InvM r U' U:=⟨h.2,h.1⟩
theorem InvM.tr (h:InvM r U U'):InvM r (trM U) (trM U'):=by
 refine⟨?_,?_⟩
 ·rw [← trM_mul,← trM_sc];exact h.2.tr
 ·rw [← trM_mul,← trM_sc];exact h.1.tr
theorem Equ.rows (h:InvM r U U')(k:EqM r B (mulM r U A)):Equ r A B:=⟨U,U',scM 1,scM 1,h,.one r,k.trans (zcF r _).symm⟩
theorem Equ.cols (h:InvM r V V')(k:EqM r B (mulM r A V)):Equ r A B:=⟨scM 1,scM 1,V,V',.one r,h,k.trans ((zdG r A).symm.mul (EqM.refl V))⟩
theorem Equ.of (h:EqM r A B):Equ r A B:=.rows (.one r) (h.symm.trans (zdG r A).symm)
theorem Equ.refl (A:Nat→Nat→Int):Equ r A A:=.of (EqM.refl A)
theorem Equ.trans (h:Equ r A B)(k:Equ r B C):Equ r A C:=by
 obtain⟨U,U',V,V',hu,hv,e⟩:=h;obtain⟨X,X',Y,Y',hx,hy,e2⟩:=k;refine⟨mulM r X U,mulM r U' X',mulM r V Y,mulM r Y' V',hx.mul hu,hv.mul hy,e2.trans ?_⟩;refine(((EqM.refl X).mul e).mul (EqM.refl Y)).trans ?_;have:mulM r (mulM r X (mulM r (mulM r U A) V)) Y=mulM r (mulM r (mulM r X U) A) (mulM r V Y):=by simp only [mulM_assoc]
 rw [this];exact EqM.refl _
theorem Equ.tr (h:Equ r A B):Equ r (trM A) (trM B):=by
 obtain⟨U,U',V,V',hu,hv,e⟩:=h;refine⟨trM V,trM V',trM U,trM U',hv.tr,hu.tr,e.tr.trans ?_⟩;rw [trM_mul,trM_mul,mulM_assoc];exact EqM.refl _
theorem Equ.symm (h:Equ r A B):Equ r B A:=by
 obtain⟨U,U',V,V',hu,hv,e⟩:=h;refine⟨U',U,V',V,hu.symm,hv.symm,?_⟩;refine EqM.symm ((((EqM.refl U').mul e).mul (EqM.refl V')).trans ?_);have:mulM r (mulM r U' (mulM r (mulM r U A) V)) V'=mulM r (mulM r U' U) (mulM r A (mulM r V V')):=by simp only [mulM_assoc]
 rw [this];exact(hu.2.mul (((EqM.refl A).mul hv.1).trans (zcF r A))).trans (zdG r A)
end
section
variable {r low h:Nat}{zs:List Int}{D:Int}{A:Nat→Nat→Int}
end
theorem zey (k:Nat):bp k<bp (k+2):=by
 have e:bp (k+2)=4294967296 *(4294967296*bp k):=rfl;have:=zE k;rw [e];omega
section
variable {n:Nat}{hs ks:List (List Int)}{ph pk:Nat→Nat}
end
theorem zgu {P:Program}{ops:Array Oper}{Q:Exit→Act→World→Prop}{md:Region.Mode}{S:World→Prop}(i j:Nat){oi oj:Oper}{fuel:Nat}{listed:Array Bool}{a:Act}{w:World}(hr:Region.ready md ops listed=[i,j])(hoi:ops[i]?=some oi)(hoj:ops[j]?=some oj)
  (h1:∀ K':Act→World→Prop,Shut (∀ a w,(i<k→S w)→wpUpto P md ops Q S k fuel (listed.setIfInBounds i true) a w→K' a w)→if Region.wanted oi (yielded ops a.tmps)=true then Oper.wp P oi a w K' Q else K' (a.put oi.dst undef) w)
  (h2:∀ K':Act→World→Prop,Shut (∀ a w,(j<k→S w)→wpUpto P md ops Q S k fuel (listed.setIfInBounds j true) a w→K' a w)→if Region.wanted oj (yielded ops a.tmps)=true then Oper.wp P oj a w K' Q else K' (a.put oj.dst undef) w):
  wpUpto P md ops Q S k (fuel+1) listed a w:=by
 refine⟨fun h0=>absurd (hr.symm.trans h0) (by simp),fun x hx=>?_⟩;rw [hr] at hx;have hx':x=i∨x=j:=by simpa using hx
 rcases hx' with rfl | rfl
 ·exact wpOp_step hoi (fun K' hK=>h1 K' (fun a w hS hW=>hK a w ⟨hS,hW⟩))
 ·exact wpOp_step hoj (fun K' hK=>h2 K' (fun a w hS hW=>hK a w ⟨hS,hW⟩))
theorem zi6 (w:World)(nI:Int)(go:Option Addr)(gcap:Nat)(rs:List (List Int))(h:¬(1≤nI∧nI≤4∧rs.length≤8)):
  Calls Tryz.prog 22 #[.agg #[.int .i64 nI,.slice go rs.length gcap]] w fun e w'=>MadePostR w nI rs e w':=by
 have HE:Hid (goodG nI rs=false):=by show _=_;unfold goodG;rw [decide_eq_false h,Bool.false_and]
 have HX:=hide (z8 w (.int .i64 nI) (.slice go rs.length gcap) (.int .i64 0) (.slice none 0 0) 53 55);obtain⟨⟨c0,c1,z0,z1⟩,⟨d0,d1,y0,y1⟩,-,-⟩:=HX.out;have HB:=hide HX.out.2.2.1;by_cases h1:nI<1
 ·clear h;have g1:decide (nI<1)=true:=decide_eq_true h1;clear HX;go_enter Tryz.func22,Tryz.ntmps22;go_wp2;exact bodyPost_ret (v:=.tuple #[.agg #[.int .i64 0,.slice none 0 0],.slice none 0 0,.bool false]) (by simp [results,Tryz.results22,go_sem,d0,d1]) rfl ⟨HB.out,.inl ⟨HE.out,rfl⟩⟩
 ·by_cases h2:4<nI
  ·clear h;have g1:decide (nI<1)=false:=decide_eq_false h1;have g2:decide (4<nI)=true:=decide_eq_true h2;clear HX;go_enter Tryz.func22,Tryz.ntmps22;go_wp2;exact bodyPost_ret (v:=.tuple #[.agg #[.int .i64 0,.slice none 0 0],.slice none 0 0,.bool false]) (by simp [results,Tryz.results22,go_sem,d0,d1]) rfl ⟨HB.out,.inl ⟨HE.out,rfl⟩⟩
  ·have h3:8<(rs.length:Int):=by omega
   clear h;have g1:decide (nI<1)=false:=decide_eq_false h1;have g2:decide (4<nI)=false:=decide_eq_false h2;have g3:decide (8<(rs.length:Int))=true:=decide_eq_true h3;clear HX;go_enter Tryz.func22,Tryz.ntmps22;go_wp2;exact bodyPost_ret (v:=.tuple #[.agg #[.int .i64 0,.slice none 0 0],.slice none 0 0,.bool false]) (by simp [results,Tryz.results22,go_sem,d0,d1]) rfl ⟨HB.out,.inl ⟨HE.out,rfl⟩⟩
end Go.Proofs.YtdedolkgcdlmeaaGreatDoor
