import Derived.Test.YtncamilanceahaaGreatBkC
import Derived.Test.YtncamilanceahaaGreatBoxB
set_option maxRecDepth 100000
set_option maxHeartbeats 3200000
set_option linter.unusedSimpArgs false
namespace Go.Proofs.YtncamilanceahaaGreat
open Go.RowKit
def BasG (x:Nmd)(W:World)(N0:Int)(uo:Option Addr)(ul uc:Nat):Prop:=
 (nmF x≠0→ul=0)∧(nmF x=0→∃(n:Nat) (hs:List (List Int)),x.n=(n:Int)∧1≤n∧n≤4∧LatN W (.agg #[.int .i64 N0,.slice uo ul uc]) n hs (n*2+2)∧Alikes n (InL hs) (InL x.gens))
theorem BasG.later {x:Nmd}{W W':World}{N0:Int}{uo:Option Addr}{ul uc:Nat}(h:BasG x W N0 uo ul uc)(hb:Below W.heap.size W W'):BasG x W' N0 uo ul uc:=
 ⟨h.1,fun h0=>let ⟨n,hs,h1,h2,h3,h4,h5⟩:=h.2 h0;⟨n,hs,h1,h2,h3,h4.below hb,h5⟩⟩
theorem zgo {w w':World}{x:Nmd}{e:Ending}(h:BasPost w x e w'):∃ N0 uo ul uc,e=.returned (.tuple #[.agg #[.int .i64 N0,.slice uo ul uc],errV (nmF x)])∧BasG x w' N0 uo ul uc∧Below w.heap.size w w':=by
 obtain⟨⟨h0,rfl⟩ |⟨n,u,hs,h0,h1,h2,h3,rfl,h4,h5⟩,hb⟩:=h
 ·exact⟨0,none,0,0,rfl,⟨fun _=>rfl,fun h=>absurd h h0⟩,hb⟩
 ·obtain⟨⟨v,rfl,⟨vo,vc,rfl,-⟩⟩,-⟩:=id h4;exact⟨n,vo,_,vc,by rw [h0];rfl,⟨fun h=>absurd h0 h,fun _=>⟨n,hs,h1,h2,h3,h4,h5⟩⟩,hb⟩
theorem zhB {n:Nat}{hs ks:List (List Int)}{gs:List (List Int)}(h1:∃ p,FormL n hs p)(h2:∃ p,FormL n ks p)(a1:Alikes n (InL hs) (InL gs))(a2:Alikes n (InL ks) (InL gs)):hs=ks:=by
 obtain⟨p,h1⟩:=h1;obtain⟨p',h2⟩:=h2;exact zhz h1 h2 (a1.trans a2.symm)
theorem zgj (w W:World)(ao:Option Addr)(cap B3:Nat)(os:List OpC)(nm:ByteArray)(n:Int)(gens:List (List Int))(go:Option Addr)(gl gc:Nat)(hbe:Below w.heap.size w W)(hops:OpsN w (.slice ao os.length cap) os)(hl:∀ q∈os,q.o.v.length≤10)(hl4:os.length≤1000)(hx:ThreeV W B3 (.string nm) (.int .i64 n) (.slice go gl gc))(hin:NcIn w ⟨⟨nm,n,gens⟩,go,gl,gc⟩)(hg1:gens.length≤14)(hg2:∀ g∈gens,g.length≤10){sl1 sl2 sl4 sl5 sl6 sl7 sl8 sl9 sl10 sl11 sl12 sl13 sl14 sl15 sl16 sl17 sl18 sl19 sl20 sl21 sl22 sl23 sl24 sl25 sl26 sl27 sl28 sl29 sl30 sl31 sl32 sl33 sl34 sl35 sl36 sl37 sl38 sl39 sl40 sl41 sl42 sl43 sl44 sl45 sl46 sl47 sl48 sl49 sl50 sl51 sl52 sl53 sl54 sl55 sl56 sl57 sl58 sl59 sl60 sl61 sl62 sl63 sl64 sl65 sl66 sl67 sl68 sl69 sl70 sl71 sl72 sl73 sl74 sl75 sl76 sl77 sl78 sl79 sl80 sl81 sl82 sl83 sl84 sl85 sl86 sl87 sl88 sl89 sl90 sl91 sl92 sl93 sl94 sl95 sl96 sl97 sl98 sl99 sl100 sl101 sl102 sl103 sl104 sl105 sl106 sl107 sl108 sl109 sl110 sl111 sl112 sl113 sl114 sl115 sl116 sl117 sl118 sl119 sl120 sl121 sl122 sl123 sl124 sl125 sl126 sl127 sl128 sl129 sl130 sl131 sl132 sl133 sl134 sl135 sl136 sl137 sl138 sl139 sl140 sl141 sl142 sl143 sl144 sl145 sl146 sl147 sl148 sl149 sl150 sl151 sl152 sl153 sl154 sl155 sl156 sl157 sl158 sl159 sl160 sl161 sl162 sl163 sl164 sl165 sl166 sl167 sl168 sl169 sl170 sl171 sl172 sl173 sl174 sl175 sl176 sl177 sl178 sl179 sl180 sl181 sl182 sl183 sl184 sl185 sl186 sl187 sl188 sl189 sl190 sl191 sl192 sl193:Value}:
  (Code.tail (Code.tail (Code.tail (Code.tail ((Tryz.f3.body).getD .skip))))).wp Tryz.prog (bodyPost Tryz.prog Tryz.f3 (fun e w'=>e=.returned (.bool true)∧Below w.heap.size w w')) ⟨#[(.slice ao os.length cap),sl1,sl2,(.pointer (some ⟨B3,0,none⟩)),sl4,sl5,sl6,sl7,sl8,sl9,sl10,sl11,sl12,sl13,sl14,sl15,sl16,sl17,sl18,sl19,sl20,sl21,sl22,sl23,sl24,sl25,sl26,sl27,sl28,sl29,sl30,sl31,sl32,sl33,sl34,sl35,sl36,sl37,sl38,sl39,sl40,sl41,sl42,sl43,sl44,sl45,sl46,sl47,sl48,sl49,sl50,sl51,sl52,sl53,sl54,sl55,sl56,sl57,sl58,sl59,sl60,sl61,sl62,sl63,sl64,sl65,sl66,sl67,sl68,sl69,sl70,sl71,sl72,sl73,sl74,sl75,sl76,sl77,sl78,sl79,sl80,sl81,sl82,sl83,sl84,sl85,sl86,sl87,sl88,sl89,sl90,sl91,sl92,sl93,sl94,sl95,sl96,sl97,sl98,sl99,sl100,sl101,sl102,sl103,sl104,sl105,sl106,sl107,sl108,sl109,sl110,sl111,sl112,sl113,sl114,sl115,sl116,sl117,sl118,sl119,sl120,sl121,sl122,sl123,sl124,sl125,sl126,sl127,sl128,sl129,sl130,sl131,sl132,sl133,sl134,sl135,sl136,sl137,sl138,sl139,sl140,sl141,sl142,sl143,sl144,sl145,sl146,sl147,sl148,sl149,sl150,sl151,sl152,sl153,sl154,sl155,sl156,sl157,sl158,sl159,sl160,sl161,sl162,sl163,sl164,sl165,sl166,sl167,sl168,sl169,sl170,sl171,sl172,sl173,sl174,sl175,sl176,sl177,sl178,sl179,sl180,sl181,sl182,sl183,sl184,sl185,sl186,sl187,sl188,sl189,sl190,sl191,sl192,sl193],[]⟩ W:=by
 simp only [Code.tail,Tryz.f3,Option.getD_some];have HOPS:=hide hops;have HL:=hide hl;have HB:=hide hbe;have X3:=hide hx;have HIN:=hide (NcIn.below hin hbe);have HG:Hid (gens.length≤1000∧∀ g∈gens,g.length≤1000000):=⟨by omega,fun g hg=>by have:=hg2 g hg;omega⟩;clear hops hl hbe hx hin hg1 hg2;obtain⟨F,hF⟩:∃ F,nmF ⟨nm,n,gens⟩=F:=⟨_,rfl⟩;have HF:=hide hF;clear hF;obtain⟨c0,c1,c2,-⟩:=X3.out;go_wp2_with fail;clear c0 c1 c2;refine(zit W ⟨⟨nm,n,gens⟩,go,gl,gc⟩ HIN.out HG.out.1 HG.out.2).mono ?_;rintro e w1 ⟨rfl,hb1⟩;dsimp only;rw [HF.out];have X3':=hide (X3.out.later hb1);clear X3;have X3:=X3';clear X3';have HIN':=hide (HIN.out.below hb1);clear HIN;have HIN:=HIN';clear HIN';have HB':=hide (HB.out.trans (hb1.mono HB.out.size));clear HB;have HB:=HB';clear HB';clear hb1;obtain⟨c0,c1,c2,-⟩:=X3.out;go_wp2_with fail;clear c0 c1 c2;refine(zgp w1 ⟨⟨nm,n,gens⟩,go,gl,gc⟩ HIN.out HG.out.1 HG.out.2).mono ?_;rintro e w2 hres;obtain⟨N0,uo,ul,uc,rfl,hbs,hb2⟩:=zgo hres;dsimp only at hbs;rw [HF.out];have HBS:=hide hbs;clear hbs hres;have X3':=hide (X3.out.later hb2);clear X3;have X3:=X3';clear X3';have HIN':=hide (HIN.out.below hb2);clear HIN;have HIN:=HIN';clear HIN';have HB':=hide (HB.out.trans (hb2.mono HB.out.size));clear HB;have HB:=HB';clear HB';clear hb2;have hNw:=zi w2 (.cells #[.int .i64 N0,.slice uo ul uc] 33);have X8:=hide (BoxL.new w2 (.int .i64 N0) (.slice uo ul uc) 33);have X3':=hide (X3.out.later hNw);clear X3;have X3:=X3';clear X3';have HIN':=hide (HIN.out.below hNw);clear HIN;have HIN:=HIN';clear HIN';have HBS':=hide (HBS.out.later hNw);clear HBS;have HBS:=HBS';clear HBS';have HB':=hide (HB.out.trans (hNw.mono HB.out.size));clear HB;have HB:=HB';clear HB';clear hNw;go_upto_region 11 with fail;go_cut [80] from 19 to 80 (fun v wx=>v=.bool false∧Below (w2.alloc (.cells #[.int .i64 N0,.slice uo ul uc] 33)).heap.size (w2.alloc (.cells #[.int .i64 N0,.slice uo ul uc] 33)) wx)
 case first=>
  obtain⟨WA,hWA⟩:∃ WA,w2.alloc (.cells #[.int .i64 N0,.slice uo ul uc] 33)=WA:=⟨_,rfl⟩;rw [hWA] at X3 HIN X8 HB;rw [hWA];obtain⟨c0,c1,c2,-⟩:=X3.out;have gne:(nmOk nm != nmOk nm)=false:=bne_self_eq_false _;refine wp_region_held_drew (S:=(fun w'=>w'.cell? ⟨B3,0,none⟩=some (.string nm)∧w'.cell? ⟨B3,1,none⟩=some (.int .i64 n)∧w'.cell? ⟨B3,2,none⟩=some (.slice go gl gc))) (by kernel_rfl) (by(try dsimp only);go_keep) (fun hHeld=>?_);refine ze 0 61 ?_;try simp only [zA]
  refine ze 2 63 ?_;try simp only [zA]
  refine wpAnyH_ready (rs:=[1]) (by kernel_rfl) (by simp) (AllReadyH.cons (o:=_) rfl (fun K hK=>?_) AllReadyH.nil);go_simp
  (refine(zd0 _ ⟨⟨nm,n,gens⟩,go,gl,gc⟩ (HIN.out.below (zB _ _).drew) HG.out.1 HG.out.2).mono ?_;rintro e w4 ⟨rfl,hb4'⟩;dsimp only;rw [HF.out];have hb4:Below WA.heap.size WA w4:=(zB _ _).drew.trans (hb4'.mono (by simp));clear hb4';obtain⟨c0,c1,c2,-⟩:=X3.out.later hb4)
  go_wp2_with fail;refine hK.out _ _ (by(try dsimp only);go_keep) (fun hHeld=>?_);clear hK K;try simp only [zA]
  refine wpAnyH_ready (rs:=[3]) (by kernel_rfl) (by simp) (AllReadyH.cons (o:=_) rfl (fun K hK=>?_) AllReadyH.nil);go_simp
  (refine(zbk F _).mono ?_;rintro e w5 ⟨rfl,rfl⟩)
  go_wp2_with fail;refine hK.out _ _ (by(try dsimp only);go_keep) (fun hHeld=>?_);clear hK K;try simp only [zA]
  refine ze 4 65 ?_;try simp only [zA]
  refine ze 5 66 ?_;try simp only [zA]
  refine ze 6 67 ?_;try simp only [zA]
  refine ze 7 68 ?_;try simp only [zA]
  refine wpAnyH_ready (rs:=[8]) (by kernel_rfl) (by simp) (AllReadyH.cons (o:=_) rfl (fun K hK=>?_) AllReadyH.nil);go_simp
  (refine(zbk F _).mono ?_;rintro e w6 ⟨rfl,rfl⟩)
  go_wp2_with fail;refine hK.out _ _ (by(try dsimp only);go_keep) (fun hHeld=>?_);clear hK K;try simp only [zA]
  refine ze 9 70 ?_;try simp only [zA]
  refine ze 10 71 ?_;try simp only [zA]
  refine ze 11 72 ?_;try simp only [zA]
  refine ze 12 73 ?_;try simp only [zA]
  refine ze 13 74 ?_;try simp only [zA]
  refine ze 15 76 ?_;try simp only [zA]
  refine ze 16 77 ?_;try simp only [zA]
  refine wpAnyH_ready (rs:=[14]) (by kernel_rfl) (by simp) (AllReadyH.cons (o:=_) rfl (fun K hK=>?_) AllReadyH.nil);go_simp
  (refine(zJ nm _).mono ?_;rintro e w7 ⟨rfl,rfl⟩)
  go_wp2_with fail;refine hK.out _ _ (by(try dsimp only);go_keep) (fun hHeld=>?_);clear hK K;try simp only [zA]
  refine wpAnyH_ready (rs:=[17]) (by kernel_rfl) (by simp) (AllReadyH.cons (o:=_) rfl (fun K hK=>?_) AllReadyH.nil);go_simp
  (refine(zaO nm _).mono ?_;rintro e w8 ⟨rfl,rfl⟩)
  go_wp2_with fail;refine hK.out _ _ (by(try dsimp only);go_keep) (fun hHeld=>?_);clear hK K;try simp only [zA]
  refine ze 18 79 ?_;try simp only [zA]
  refine ze 19 80 ?_;try simp only [zA]
  refine wpAnyH_done (by kernel_rfl) ?_ _;go_wp2_with fail;go_meet
  case rel=>exact⟨rfl,by rw [hWA];exact hb4⟩
 case rest=>
  obtain⟨rfl,hb4⟩:=hcut;apply_assumption;generalize w2.alloc (.cells #[.int .i64 N0,.slice uo ul uc] 33)=W3 at *;generalize w2.heap.size=B8 at *;have X3':=hide (X3.out.later hb4);clear X3;have X3:=X3';clear X3';have HIN':=hide (HIN.out.below hb4);clear HIN;have HIN:=HIN';clear HIN';have HBS':=hide (HBS.out.later hb4);clear HBS;have HBS:=HBS';clear HBS';have X8':=hide (X8.out.later hb4);clear X8;have X8:=X8';clear X8';have HB':=hide (HB.out.trans (hb4.mono HB.out.size));clear HB;have HB:=HB';clear HB';clear hb4;go_upto_region 13 with fail;go_cut [99] from 19 to 99 (fun v wx=>v=.bool false∧Below wc.heap.size wc wx)
  case first=>
   by_cases hF0:F=0
   ·subst hF0;have HNO:Hid (NmOk ⟨nm,n,gens⟩):=zeT.1 HF.out;obtain⟨N1,hs,hn1,-,hN4,hlt,hal⟩:=HBS.out.2 HF.out;have HLT:=hide hlt;have HAL:=hide hal;have HN1:=hide hn1;have HN4:=hide hN4;clear hlt hal hn1 hN4;obtain⟨c0,c1,c2,-⟩:=X3.out;obtain⟨⟨d0,d1,-,-⟩,-⟩:=X8.out;refine wp_region_held_drew (S:=(fun w'=>w'.cell? ⟨B3,0,none⟩=some (.string nm)∧w'.cell? ⟨B3,1,none⟩=some (.int .i64 n)∧w'.cell? ⟨B3,2,none⟩=some (.slice go gl gc)∧w'.cell? ⟨B8,0,none⟩=some (.int .i64 N0)∧w'.cell? ⟨B8,1,none⟩=some (.slice uo ul uc))) (by kernel_rfl) (by(try dsimp only);go_keep) (fun hHeld=>?_);refine ze 0 81 ?_;try simp only [zA]
    refine ze 1 82 ?_;try simp only [zA]
    refine ze 2 83 ?_;try simp only [zA]
    refine ze 3 84 ?_;try simp only [zA]
    refine ze 4 85 ?_;try simp only [zA]
    refine wpAnyH_ready (rs:=[5]) (by kernel_rfl) (by simp) (AllReadyH.cons (o:=_) rfl (fun K hK=>?_) AllReadyH.nil);go_simp
    (refine(zhG _ ⟨⟨nm,n,gens⟩,go,gl,gc⟩ (HIN.out.below (zB _ _).drew) HNO.out).mono ?_;rintro e w9 ⟨N2,nv2,v2,ks,hn2,rfl,hl2,ha2,hb9'⟩;have hb9:Below wc.heap.size wc w9:=(zB _ _).drew.trans (hb9'.mono (by simp));clear hb9';obtain⟨c0,c1,c2,-⟩:=X3.out.later hb9;obtain⟨⟨d0,d1,-,-⟩,-⟩:=X8.out.later hb9;have HL2:=hide hl2;have HA2:=hide ha2;have HN2:=hide hn2;clear hl2 ha2 hn2)
    go_wp2_with fail;refine hK.out _ _ (by(try dsimp only);go_keep) (fun hHeld=>?_);clear hK K;try simp only [zA]
    refine wpAnyH_ready (rs:=[6]) (by kernel_rfl) (by simp) (AllReadyH.cons (o:=_) rfl (fun K hK=>?_) AllReadyH.nil);go_simp
    (refine(zje _ _ _ N1 (N1*2+2) nv2 hs ks (HLT.out.below hb9) (by have h1:=HN2.out;have h2:=HN1.out;(try dsimp only at h1 h2);have h3:N1=N2:=(by omega);rw [h3];exact HL2.out) (by have:=HN4.out;omega)).mono ?_;rintro e w10 ⟨rfl,hb10⟩;rw [decide_eq_true (show hs=ks from by have h1:=HN2.out;have h2:=HN1.out;(try dsimp only at h1 h2);have h3:N1=N2:=(by omega);subst h3;exact zhB HLT.out.2 HL2.out.2 HAL.out HA2.out)];have hb11:Below wc.heap.size wc w10:=hb9.trans (hb10.mono hb9.size);obtain⟨c0,c1,c2,-⟩:=X3.out.later hb11;obtain⟨⟨d0,d1,-,-⟩,-⟩:=X8.out.later hb11)
    go_wp2_with fail;refine hK.out _ _ (by(try dsimp only);go_keep) (fun hHeld=>?_);clear hK K;try simp only [zA]
    refine ze 7 88 ?_;try simp only [zA]
    refine ze 8 89 ?_;try simp only [zA]
    refine ze 9 90 ?_;try simp only [zA]
    refine ze 10 91 ?_;try simp only [zA]
    refine ze 11 92 ?_;try simp only [zA]
    refine ze 12 93 ?_;try simp only [zA]
    refine zj 13 94 ?_;try simp only [zA]
    refine zj 14 95 ?_;try simp only [zA]
    refine zj 15 96 ?_;try simp only [zA]
    refine zj 16 97 ?_;try simp only [zA]
    refine ze 17 98 ?_;try simp only [zA]
    refine ze 18 99 ?_;try simp only [zA]
    refine wpAnyH_done (by kernel_rfl) ?_ _;go_wp2_with fail;go_meet
    case rel=>exact⟨rfl,hb11⟩
   ·have hul:ul=0:=HBS.out.1 (by rw [HF.out];exact hF0);obtain⟨Z,hZ⟩:∃ Z:Int,((F:Nat):Int)=Z:=⟨_,rfl⟩;rw [hZ];have gF:(Z==0)=false:=by rw [beq_eq_false_iff_ne];omega
    have gF2:decide (Z=0)=false:=decide_eq_false (by omega);have gF3:decide ((0:Int)<Z)=true:=decide_eq_true (by omega);subst hul;have HZ:=hide hZ;clear hZ hF0;obtain⟨c0,c1,c2,-⟩:=X3.out;obtain⟨⟨d0,d1,-,-⟩,-⟩:=X8.out;refine wp_region_held_drew (S:=(fun w'=>w'.cell? ⟨B3,0,none⟩=some (.string nm)∧w'.cell? ⟨B3,1,none⟩=some (.int .i64 n)∧w'.cell? ⟨B3,2,none⟩=some (.slice go gl gc)∧w'.cell? ⟨B8,0,none⟩=some (.int .i64 N0)∧w'.cell? ⟨B8,1,none⟩=some (.slice uo 0 uc))) (by kernel_rfl) (by(try dsimp only);go_keep) (fun hHeld=>?_);refine ze 0 81 ?_;try simp only [zA]
    refine ze 1 82 ?_;try simp only [zA]
    refine ze 2 83 ?_;try simp only [zA]
    refine zj 3 84 ?_;try simp only [zA]
    refine zj 4 85 ?_;try simp only [zA]
    refine zj 5 86 ?_;try simp only [zA]
    refine zj 6 87 ?_;try simp only [zA]
    refine zj 7 88 ?_;try simp only [zA]
    refine ze 8 89 ?_;try simp only [zA]
    refine ze 9 90 ?_;try simp only [zA]
    refine ze 10 91 ?_;try simp only [zA]
    refine ze 11 92 ?_;try simp only [zA]
    refine ze 12 93 ?_;try simp only [zA]
    refine ze 13 94 ?_;try simp only [zA]
    refine ze 14 95 ?_;try simp only [zA]
    refine ze 15 96 ?_;try simp only [zA]
    refine ze 16 97 ?_;try simp only [zA]
    refine ze 17 98 ?_;try simp only [zA]
    refine ze 18 99 ?_;try simp only [zA]
    refine wpAnyH_done (by kernel_rfl) ?_ _;go_wp2_with fail;obtain rfl:((F:Nat):Int)=Z:=HZ.out;go_meet
    case rel=>exact⟨rfl,(zB _ _).drew⟩
  case rest=>
   obtain⟨rfl,hb5⟩:=hcut;apply_assumption;have X3':=hide (X3.out.later hb5);clear X3;have X3:=X3';clear X3';have HB':=hide (HB.out.trans (hb5.mono HB.out.size));clear HB;have HB:=HB';clear HB';clear hb5 X8 HBS HIN HF HG;have hNw:=zi wc (.cells #[.slice none 0 0] 45);have X10:=hide (One.new wc (.slice none 0 0) 45);have HBN:=hide (HB.out.trans (hNw.mono HB.out.size));clear hNw;go_upto_region 16 with fail;go_cut [11] from 19 (fun v wx=>v=.slice none 0 0∧wx=wc.alloc (.cells #[.slice none 0 0] 45))
   case first=>
    go_wp2;go_meet
    case rel=>exact⟨rfl,rfl⟩
   case rest=>
    obtain⟨rfl,rfl⟩:=hcut;apply_assumption;exact zgk w _ ao cap _ os HBN.out HOPS.out HL.out hl4 HB.out.size X10.out
theorem zdX:applyC [] ⟨1,⟨#[97]⟩,2,[]⟩=(0,[⟨⟨#[97]⟩,2,[]⟩]):=by rfl
theorem zcF:applyC [⟨⟨#[97]⟩,2,[]⟩] ⟨3,⟨#[97]⟩,0,[3,4]⟩=(0,[⟨⟨#[97]⟩,2,[[3,4]]⟩]):=by
 have h1:placeL [⟨⟨#[97]⟩,2,[]⟩] ⟨#[97]⟩=0:=by simp [placeL,zcq,List.findIdx_cons]
 have h2:hasL [⟨⟨#[97]⟩,2,[]⟩] ⟨#[97]⟩=true:=by simp [hasL]
 have h3:genF [3,4] 2=0:=zag.2 ⟨rfl,by decide⟩;have h4:opOk ⟨3,⟨#[97]⟩,0,[3,4]⟩=true:=by rfl
 unfold applyC;simp [h1,h2,h3,h4]
theorem row34 (W:World):RowS (W.alloc (.cells #[.int .i64 3,.int .i64 4] 3)) (.slice (some ⟨W.heap.size,0,none⟩) 2 2) [3,4]:=by
 refine⟨_,2,rfl,Nat.le_refl _,fun i=>?_,fun _=>⟨W.heap.size,0,rfl,by simp,fun i hi=>?_⟩⟩
 ·match i with
  | 0=>simp
  | 1=>simp
  | i+2=>simp
 ·match i,hi with
  | 0,_=>exact(World.news_of_block (heap_alloc_new W _)) 0 _ rfl
  | 1,_=>exact(World.news_of_block (heap_alloc_new W _)) 1 _ rfl
theorem rows34 (W:World):RowsS ((W.alloc (.cells #[.int .i64 3,.int .i64 4] 3)).alloc (.cells #[.slice (some ⟨W.heap.size,0,none⟩) 2 2] 28)) (.slice (some ⟨W.heap.size+1,0,none⟩) 1 1) [[3,4]]:=by
 refine⟨_,1,rfl,Nat.le_refl _,fun _=>⟨W.heap.size+1,0,rfl,by simp,fun i r hi=>?_⟩⟩
 match i,hi with
 | 0,hi=>
  simp only [List.getElem?_cons_zero,Option.some.injEq] at hi;subst hi;refine⟨.slice (some ⟨W.heap.size,0,none⟩) 2 2,?_,(row34 W).below (zi _ _) zL⟩;simp
 | i+1,hi=>simp at hi
theorem zgn (w:World):Calls Tryz.prog 4 #[] w fun e w'=>e=.returned (.bool true)∧Below w.heap.size w w':=by
 have HBE:=hide (zi w (.cells #[.slice none 0 0] 45));have X0:=hide (One.new w (.slice none 0 0) 45);obtain⟨p0,p1,-⟩:=X0.out;go_enter Tryz.func4,Tryz.ntmps4;go_wp2_with fail;generalize w.alloc (.cells #[.slice none 0 0] 45)=W0 at *;refine(zcG W0 _ [] ⟨1,⟨#[97]⟩,2,[]⟩ none 0 ⟨_,rfl,none,0,rfl,Nat.le_refl _,fun h=>absurd h (by simp)⟩ zcM ⟨none,0,rfl,Nat.le_refl _,fun i=>by simp,fun h=>absurd h (by simp)⟩ (by simp)).mono ?_;rintro e w1 hres;obtain⟨o,l,k',ev,rfl,hg,hb1⟩:=zcL hres;rw [show applyC (List.map (fun x=>x.x) ([]:List Nc)) ⟨1,⟨#[97]⟩,2,[]⟩=(0,[⟨⟨#[97]⟩,2,[]⟩]) from zdX] at hg;have X1:=hide (X0.out.later hb1);have HB1:=hide (HBE.out.trans (hb1.mono HBE.out.size));clear hres hb1 X0 HBE p0 p1;rcases hg with⟨h,-⟩ |⟨-,rfl,qs,hq,hc⟩
 ·exact absurd rfl h
 have hok:CatOk (qs.map (·.x)):=by rw [hq];exact zbu zcM ⟨1,⟨#[97]⟩,2,[]⟩ (by rw [zdX])
 have X2:=hide (X1.out.write (.slice o l k'));have HB2:=hide (HB1.out.setCell (p:=⟨w.heap.size,0,none⟩) zL (.slice o l k'));have HC2:=hide (hc.setOne (zar hok.all) X1.out.1 (.slice o l k'));have HOK:=hide hok;have HQ:=hide hq;obtain⟨p0,p1,-⟩:=X1.out;obtain⟨p2,p3,-⟩:=X2.out;clear hc hq hok;go_wp2_with fail;have HSZ:=hide (show(w1.setCell ⟨w.heap.size,0,none⟩ (.slice o l k')).heap.size=w1.heap.size by simp);generalize w1.setCell ⟨w.heap.size,0,none⟩ (.slice o l k')=W2 at *;clear p0 p1 p2 p3 X1 HB1;have hbA:=zi W2 (.cells #[.int .i64 3,.int .i64 4] 3);have hr34:=row34 W2;rw [HSZ.out] at hr34;have HR34:=hide hr34;clear hr34 HSZ;have X3:=hide (X2.out.later hbA);have HB3:=hide (HB2.out.trans (hbA.mono HB2.out.size));have HC3:=hide (HC2.out.below hbA);clear hbA X2 HB2 HC2;generalize W2.alloc (.cells #[.int .i64 3,.int .i64 4] 3)=W3 at *;generalize w1.heap.size=B3 at *;refine(zcG W3 _ qs ⟨3,⟨#[97]⟩,0,[3,4]⟩ (some ⟨B3,0,none⟩) 2 ⟨_,rfl,HC3.out⟩ HOK.out HR34.out (by simp)).mono ?_;rintro e w4 hres;obtain⟨o4,l4,k4,ev4,rfl,hg,hb4⟩:=zcL hres;rw [HQ.out,zcF] at hg;have X4:=hide (X3.out.later hb4);have HB4:=hide (HB3.out.trans (hb4.mono HB3.out.size));have HC4:=hide (HC3.out.below hb4);clear hres hb4 X3 HB3 HC3 HR34;rcases hg with⟨h,-⟩ |⟨-,rfl,qs4,hq4,hc4⟩
 ·exact absurd rfl h
 have hok4:CatOk (qs4.map (·.x)):=by rw [hq4];have h:=zbu HOK.out ⟨3,⟨#[97]⟩,0,[3,4]⟩ (by rw [HQ.out,zcF]);rw [HQ.out,zcF] at h;exact h
 have hql:qs4.length=1:=by have:=congrArg List.length hq4;simpa using this
 have X5:=hide (X4.out.write (.slice o4 l4 k4));have HB5:=hide (HB4.out.setCell (p:=⟨w.heap.size,0,none⟩) zL (.slice o4 l4 k4));have HC5:=hide (hc4.setVar (zar hok4.all) X4.out.1 HC4.out (.slice o4 l4 k4));have HOK4:=hide hok4;have HQ4:=hide hq4;have HQL:=hide hql;obtain⟨p0,p1,-⟩:=X4.out;obtain⟨p2,p3,-⟩:=X5.out;clear hc4 hq4 hok4 hql HOK HQ HC4;go_wp2_with fail;generalize w4.setCell ⟨w.heap.size,0,none⟩ (.slice o4 l4 k4)=W5 at *;clear p0 p1 p2 p3 X4 HB4;refine(zcZ W5 _ qs4 ⟨_,rfl,HC5.out⟩ (by have:=HQL.out;omega) HOK4.out.all).mono ?_;rintro e w6 ⟨u,rs,rfl,hcr,hrs,hb6⟩;have hrl:rs.length=1:=by have:=congrArg List.length hrs;simp only [List.length_map] at this;rw [this];exact HQL.out
 have HB6:=hide (HB5.out.trans (hb6.mono HB5.out.size));rw [HQ4.out] at hrs;obtain⟨b,off,rc,rfl⟩:=hcr.form (by omega);obtain⟨hltb,d0,d1,d2,hin⟩:=hcr.at 0 (by omega);have hx0:rs[0].x=⟨⟨#[97]⟩,2,[[3,4]]⟩:=by
  match rs,hrl,hrs with
  | [p],_,hrs=>simpa using hrs
 generalize rs[0]=p at *;obtain⟨px,po,pl,pc⟩:=p;dsimp only at hx0 d0 d1 d2;subst hx0;rw [hrl];have HIN:=hide hin;clear hb6 hrs hrl X5 HB5 HC5 HOK4 HQL HQ4 hcr hin;go_wp2_with fail;refine(zbk 0 _).mono ?_;rintro e w7 ⟨rfl,rfl⟩;rw [Nat.zero_mul,Nat.add_zero] at d0 d1 d2;have HRW:=hide (rows34 w7);have hbA:=zi w7 (.cells #[.int .i64 3,.int .i64 4] 3);have hbB:=hbA.trans ((zi (w7.alloc (.cells #[.int .i64 3,.int .i64 4] 3)) (.cells #[.slice (some ⟨w7.heap.size,0,none⟩) 2 2] 28)).mono hbA.size);have HBB:=hide hbB;clear hbA hbB;go_wp2_with fail;refine(zdt _ ⟨⟨⟨#[97]⟩,2,[[3,4]]⟩,po,pl,pc⟩ ⟨⟨⟨#[97]⟩,2,[[3,4]]⟩,some ⟨w7.heap.size+1,0,none⟩,1,1⟩ (HIN.out.below HBB.out) HRW.out (by simp) (by simp) true ⟨fun _=>rfl,fun _=>rfl⟩).mono ?_;rintro e w8 ⟨rfl,hb8⟩;go_wp2;go_ret;exact⟨rfl,(HB6.out.trans (HBB.out.mono HB6.out.size)).trans (hb8.mono (Nat.le_trans HB6.out.size HBB.out.size))⟩
end Go.Proofs.YtncamilanceahaaGreat
