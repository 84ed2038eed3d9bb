import Derived.Test.YtdedolkgcdlmeaaGreatDoorFilR
set_option maxRecDepth 100000
set_option maxHeartbeats 6400000
set_option linter.unusedSimpArgs false
namespace Go.Proofs.YtdedolkgcdlmeaaGreatDoor
open Go.RowKit Limbs Digs
variable{W:World}{v:Value}
theorem ziF (w W:World)(PA PB B8 B11 n nb la lb ca cb kA kB cA cB vcap:Nat)(ga gb oA oB mA mB vo:Option Addr)(hs ks:List (List Int))(p q:Nat→Nat)(vs:List Int)(hbe:Below w.heap.size w W)(hL:LaS W PA PB B8 B11 n nb la lb ca cb kA kB cA cB vcap ga gb oA oB mA mB vo hs ks p q vs)(sl0 sl1 sl5 sl6 sl7 sl10 sl13 sl14 sl15 sl16 sl17 sl18 sl19 sl20 sl21 sl22 sl23 sl24 sl25 sl26 sl27 sl28 sl29 sl30 sl31 sl32 sl33 sl34 sl35 sl36 sl37 sl38 sl39 sl40 sl41 sl42 sl43 sl44 sl45 sl46 sl47 sl48 sl49 sl50 sl51 sl52 sl53 sl54 sl55 sl56 sl57 sl58 sl59 sl60 sl61 sl62 sl63 sl64 sl65 sl66 sl67 sl68 sl69 sl70 sl71 sl72 sl73 sl74 sl75 sl76 sl77 sl78 sl79 sl80 sl81 sl82 sl83 sl84 sl85 sl86 sl87 sl88 sl89 sl90 sl91 sl92 sl93 sl94 sl95 sl96 sl97 sl98 sl99 sl100 sl101 sl102 sl103 sl104 sl105 sl106 sl107 sl108 sl109 sl110 sl111 sl112 sl113 sl114 sl115 sl116 sl117 sl118 sl119 sl120 sl121 sl122 sl123 sl124 sl125 sl126 sl127 sl128 sl129 sl130 sl131 sl132 sl133 sl134 sl135 sl136 sl137 sl138 sl139 sl140 sl141 sl142 sl143 sl144 sl145 sl146 sl147 sl148 sl149 sl150 sl151 sl152 sl153 sl154 sl155 sl156 sl157 sl158 sl159 sl160 sl161 sl162 sl163 sl164 sl165 sl166 sl167 sl168 sl169 sl170 sl171 sl172 sl173 sl174 sl175 sl176 sl177 sl178 sl179 sl180 sl181 sl182 sl183 sl184 sl185 sl186 sl187 sl188 sl189 sl190 sl191 sl192 sl193 sl194 sl195 sl196 sl197 sl198 sl199 sl200 sl201 sl202 sl203 sl204 sl205 sl206 sl207 sl208 sl209 sl210 sl211 sl212 sl213 sl214 sl215 sl216 sl217 sl218 sl219 sl220 sl221 sl222 sl223:Value):
  (Code.tl (Code.tl (Code.tl (Code.tl (Code.tl (Code.tl (Code.tl ((Tryz.f5.body).getD .skip)))))))).wp Tryz.prog (bodyPost Tryz.prog Tryz.f5 (fun e w'=>e=.returned (.bool true)∧Below w.heap.size w w')) ⟨#[sl0,sl1,(.slice vo vs.length vcap),(.pointer (some ⟨PA,0,none⟩)),(.pointer (some ⟨PB,0,none⟩)),sl5,sl6,sl7,(.pointer (some ⟨B8,0,none⟩)),(.slice mA hs.length cA),sl10,(.pointer (some ⟨B11,0,none⟩)),(.slice mB ks.length cB),sl13,sl14,sl15,sl16,sl17,sl18,sl19,sl20,sl21,sl22,sl23,sl24,sl25,sl26,sl27,sl28,sl29,sl30,sl31,sl32,sl33,sl34,sl35,sl36,sl37,sl38,sl39,sl40,sl41,sl42,sl43,sl44,sl45,sl46,sl47,sl48,sl49,sl50,sl51,sl52,sl53,sl54,sl55,sl56,sl57,sl58,sl59,sl60,sl61,sl62,sl63,sl64,sl65,sl66,sl67,sl68,sl69,sl70,sl71,sl72,sl73,sl74,sl75,sl76,sl77,sl78,sl79,sl80,sl81,sl82,sl83,sl84,sl85,sl86,sl87,sl88,sl89,sl90,sl91,sl92,sl93,sl94,sl95,sl96,sl97,sl98,sl99,sl100,sl101,sl102,sl103,sl104,sl105,sl106,sl107,sl108,sl109,sl110,sl111,sl112,sl113,sl114,sl115,sl116,sl117,sl118,sl119,sl120,sl121,sl122,sl123,sl124,sl125,sl126,sl127,sl128,sl129,sl130,sl131,sl132,sl133,sl134,sl135,sl136,sl137,sl138,sl139,sl140,sl141,sl142,sl143,sl144,sl145,sl146,sl147,sl148,sl149,sl150,sl151,sl152,sl153,sl154,sl155,sl156,sl157,sl158,sl159,sl160,sl161,sl162,sl163,sl164,sl165,sl166,sl167,sl168,sl169,sl170,sl171,sl172,sl173,sl174,sl175,sl176,sl177,sl178,sl179,sl180,sl181,sl182,sl183,sl184,sl185,sl186,sl187,sl188,sl189,sl190,sl191,sl192,sl193,sl194,sl195,sl196,sl197,sl198,sl199,sl200,sl201,sl202,sl203,sl204,sl205,sl206,sl207,sl208,sl209,sl210,sl211,sl212,sl213,sl214,sl215,sl216,sl217,sl218,sl219,sl220,sl221,sl222,sl223],[]⟩ W:=by
 simp only [Code.tl,Tryz.f5,Option.getD_some];have LL0:=hide hL;have BW0:=hide hbe;have h1:=hL.h1;have h4:=hL.h4;clear hL hbe;obtain⟨c0,c1,c2,c3,c4,c5⟩:=LL0.out.cells;go_wp2_with fail;refine(zlh W n h1 h4).mono ?_;rintro e w1 ⟨o14,k14,rfl,l1,hb1⟩;have hN1:=zQ w1 (.cells #[(.int .i64 (n:Int)),.slice o14 n k14] 55);have hbn1:=hb1.trans (hN1.mono hb1.size);have XS1:=hide (BoxL.new w1 (.int .i64 (n:Int)) (.slice o14 n k14) 55);have KS1:=hide (l1.below hN1);have LL1:=hide (LL0.out.later hbn1);have BW1:=hide (BW0.out.trans (hbn1.mono BW0.out.size));clear LL0 BW0 hN1 hbn1 hb1 l1 c0 c1 c2 c3 c4 c5;obtain⟨c0,c1,c2,c3,c4,c5⟩:=LL1.out.cells;go_upto_region 11 with fail;generalize (w1.alloc (.cells #[(.int .i64 (n:Int)),.slice o14 n k14] 55))=W1 at *;generalize w1.heap.size=B14 at *;go_cut [16,17] from 27 (fun v16 v17 wc=>∃(B16 k16 N16:Nat) (o16:Option Addr) (ms fs:List (List Int)),v16=(.pointer (some ⟨B16,0,none⟩))∧v17=.nilIface∧BoxL wc B16 (.int .i64 (n:Int)) (.slice o16 fs.length k16)∧LatN wc (.agg #[(.int .i64 (n:Int)),.slice o16 fs.length k16]) n fs N16∧KerOf n hs ms∧KerOf n ms fs∧Below W1.heap.size W1 wc)
 case first=>
  go_wp2_with fail;refine(zhV W1 _ n 6 hs LL1.out.la' h1 h4 (by decide) (roomF6 n (by omega)).1 (roomF6 n (by omega)).2.1).mono ?_;rintro e w2 ⟨v2,ms,fs,rfl,l2,K1,K2,-,hb2⟩;have l2':=l2;obtain⟨⟨u2,rfl,⟨o16,k16,rfl,-,-⟩⟩,-⟩:=l2';have hN2:=zQ w2 (.cells #[(.int .i64 (n:Int)),.slice o16 fs.length k16] 55);have XT2:=hide (BoxL.new w2 (.int .i64 (n:Int)) (.slice o16 fs.length k16) 55);have KT2:=hide (l2.below hN2);have HB2:=hide (hb2.trans (hN2.mono hb2.size));have HK1:=hide K1;have HK2:=hide K2;clear hN2 hb2 l2 K1 K2 c0 c1 c2 c3 c4 c5;go_wp2;go_meet
  case rel=>exact⟨_,_,_,_,_,_,rfl,rfl,XT2.out,KT2.out,HK1.out,HK2.out,HB2.out⟩
 case rest=>
  obtain⟨B16,k16,N16,o16,ms,fs,rfl,rfl,x16,l16,K1,K2,hb⟩:=hcut;apply_assumption;exact ziG w _ PA PB B8 B11 n nb la lb ca cb kA kB cA cB vcap ga gb oA oB mA mB vo hs ks p q vs (BW1.out.trans (hb.mono BW1.out.size)) (LL1.out.later hb) B14 B16 k14 k16 N16 o14 o16 ms fs (XS1.out.later hb) x16 (KS1.out.below hb) l16 K1 K2 _ _ _ _ _ _ _ _ _ _ _ _ _ _ _ _ _ _ _ _ _ _ _ _ _ _ _ _ _ _ _ _ _ _ _ _ _ _ _ _ _ _ _ _ _ _ _ _ _ _ _ _ _ _ _ _ _ _ _ _ _ _ _ _ _ _ _ _ _ _ _ _ _ _ _ _ _ _ _ _ _ _ _ _ _ _ _ _ _ _ _ _ _ _ _ _ _ _ _ _ _ _ _ _ _ _ _ _ _ _ _ _ _ _ _ _ _ _ _ _ _ _ _ _ _ _ _ _ _ _ _ _ _ _ _ _ _ _ _ _ _ _ _ _ _ _ _ _ _ _ _ _ _ _ _ _ _ _ _ _ _ _ _ _ _ _ _ _ _ _ _ _ _ _ _ _ _ _ _ _ _ _ _ _ _ _ _ _ _ _ _ _ _ _ _ _ _ _ _ _ _ _ _ _ _ _ _ _ _ _ _ _ _
theorem ziE (w W:World)(PA PB B8 B11 n nb la lb ca cb kA kB cA cB vcap:Nat)(ga gb oA oB mA mB vo:Option Addr)(hs ks:List (List Int))(p q:Nat→Nat)(vs:List Int)(hbe:Below w.heap.size w W)(hL:LaS W PA PB B8 B11 n nb la lb ca cb kA kB cA cB vcap ga gb oA oB mA mB vo hs ks p q vs)(sl0 sl1 sl5 sl6 sl7 sl10 sl13 sl14 sl15 sl16 sl17 sl18 sl19 sl20 sl21 sl22 sl23 sl24 sl25 sl26 sl27 sl28 sl29 sl30 sl31 sl32 sl33 sl34 sl35 sl36 sl37 sl38 sl39 sl40 sl41 sl42 sl43 sl44 sl45 sl46 sl47 sl48 sl49 sl50 sl51 sl52 sl53 sl54 sl55 sl56 sl57 sl58 sl59 sl60 sl61 sl62 sl63 sl64 sl65 sl66 sl67 sl68 sl69 sl70 sl71 sl72 sl73 sl74 sl75 sl76 sl77 sl78 sl79 sl80 sl81 sl82 sl83 sl84 sl85 sl86 sl87 sl88 sl89 sl90 sl91 sl92 sl93 sl94 sl95 sl96 sl97 sl98 sl99 sl100 sl101 sl102 sl103 sl104 sl105 sl106 sl107 sl108 sl109 sl110 sl111 sl112 sl113 sl114 sl115 sl116 sl117 sl118 sl119 sl120 sl121 sl122 sl123 sl124 sl125 sl126 sl127 sl128 sl129 sl130 sl131 sl132 sl133 sl134 sl135 sl136 sl137 sl138 sl139 sl140 sl141 sl142 sl143 sl144 sl145 sl146 sl147 sl148 sl149 sl150 sl151 sl152 sl153 sl154 sl155 sl156 sl157 sl158 sl159 sl160 sl161 sl162 sl163 sl164 sl165 sl166 sl167 sl168 sl169 sl170 sl171 sl172 sl173 sl174 sl175 sl176 sl177 sl178 sl179 sl180 sl181 sl182 sl183 sl184 sl185 sl186 sl187 sl188 sl189 sl190 sl191 sl192 sl193 sl194 sl195 sl196 sl197 sl198 sl199 sl200 sl201 sl202 sl203 sl204 sl205 sl206 sl207 sl208 sl209 sl210 sl211 sl212 sl213 sl214 sl215 sl216 sl217 sl218 sl219 sl220 sl221 sl222 sl223:Value):
  (Code.tl (Code.tl (Code.tl (Code.tl (Code.tl (Code.tl ((Tryz.f5.body).getD .skip))))))).wp Tryz.prog (bodyPost Tryz.prog Tryz.f5 (fun e w'=>e=.returned (.bool true)∧Below w.heap.size w w')) ⟨#[sl0,sl1,(.slice vo vs.length vcap),(.pointer (some ⟨PA,0,none⟩)),(.pointer (some ⟨PB,0,none⟩)),sl5,sl6,sl7,(.pointer (some ⟨B8,0,none⟩)),(.slice mA hs.length cA),sl10,(.pointer (some ⟨B11,0,none⟩)),(.slice mB ks.length cB),sl13,sl14,sl15,sl16,sl17,sl18,sl19,sl20,sl21,sl22,sl23,sl24,sl25,sl26,sl27,sl28,sl29,sl30,sl31,sl32,sl33,sl34,sl35,sl36,sl37,sl38,sl39,sl40,sl41,sl42,sl43,sl44,sl45,sl46,sl47,sl48,sl49,sl50,sl51,sl52,sl53,sl54,sl55,sl56,sl57,sl58,sl59,sl60,sl61,sl62,sl63,sl64,sl65,sl66,sl67,sl68,sl69,sl70,sl71,sl72,sl73,sl74,sl75,sl76,sl77,sl78,sl79,sl80,sl81,sl82,sl83,sl84,sl85,sl86,sl87,sl88,sl89,sl90,sl91,sl92,sl93,sl94,sl95,sl96,sl97,sl98,sl99,sl100,sl101,sl102,sl103,sl104,sl105,sl106,sl107,sl108,sl109,sl110,sl111,sl112,sl113,sl114,sl115,sl116,sl117,sl118,sl119,sl120,sl121,sl122,sl123,sl124,sl125,sl126,sl127,sl128,sl129,sl130,sl131,sl132,sl133,sl134,sl135,sl136,sl137,sl138,sl139,sl140,sl141,sl142,sl143,sl144,sl145,sl146,sl147,sl148,sl149,sl150,sl151,sl152,sl153,sl154,sl155,sl156,sl157,sl158,sl159,sl160,sl161,sl162,sl163,sl164,sl165,sl166,sl167,sl168,sl169,sl170,sl171,sl172,sl173,sl174,sl175,sl176,sl177,sl178,sl179,sl180,sl181,sl182,sl183,sl184,sl185,sl186,sl187,sl188,sl189,sl190,sl191,sl192,sl193,sl194,sl195,sl196,sl197,sl198,sl199,sl200,sl201,sl202,sl203,sl204,sl205,sl206,sl207,sl208,sl209,sl210,sl211,sl212,sl213,sl214,sl215,sl216,sl217,sl218,sl219,sl220,sl221,sl222,sl223],[]⟩ W:=by
 simp only [Code.tl,Tryz.f5,Option.getD_some];have LL0:=hide hL;have BW0:=hide hbe;have h1:=hL.h1;have h4:=hL.h4;have k1:=hL.k1;have k4:=hL.k4;clear hL hbe;have HFA:=hide LL0.out.fa;have HFB:=hide LL0.out.fb;obtain⟨c0,c1,c2,c3,c4,c5⟩:=LL0.out.cells;go_wp2_with fail
 go_region_held3 (fun w'=>w'.cell? ⟨PA,0,none⟩=some (.int .i64 (n:Int))∧w'.cell? ⟨PB,0,none⟩=some (.int .i64 (nb:Int))∧w'.cell? ⟨B8,0,none⟩=some (.int .i64 (n:Int))∧w'.cell? ⟨B8,1,none⟩=some (.slice oA hs.length kA)∧w'.cell? ⟨B11,0,none⟩=some (.int .i64 (nb:Int))∧w'.cell? ⟨B11,1,none⟩=some (.slice oB ks.length kB)) (go_keep)
  (first
   |(go_at_call 25;refine(zaA w4 _ n 6 hs (by exact LL4.out.la') h1 h4).mono ?_;rintro e w5 ⟨rfl,hb5⟩;have LL5:=hide (LL4.out.later hb5);have BW5:=hide (BW4.out.trans (hb5.mono BW4.out.size));obtain⟨yi0,yi1,yi2,yi3,yi4,yi5⟩:=LL5.out.cells;clear hb5)
   |(go_at_call 23;refine(zbx w3 _ _ nb 6 18 ks ks (by exact LL3.out.lb') (by exact KH.out) k4 rfl).mono ?_;rintro e w4 ⟨rfl,hb4⟩;have LL4:=hide (LL3.out.later hb4);have BW4:=hide (BW3.out.trans (hb4.mono BW3.out.size));obtain⟨yg0,yg1,yg2,yg3,yg4,yg5⟩:=LL4.out.cells;clear hb4)
   |(go_at_call 24;refine(zcS w2 _ nb 18 ks q LL2.out.mb HFB.out k1 k4 (by decide)).mono ?_;rintro e w3 ⟨o3,c3',rfl,l3,hb3⟩;have KH:=hide l3;have LL3:=hide (LL2.out.later hb3);have BW3:=hide (BW2.out.trans (hb3.mono BW2.out.size));obtain⟨yf0,yf1,yf2,yf3,yf4,yf5⟩:=LL3.out.cells;clear l3 hb3)
   |(go_at_call 23;refine(zbx w1 _ _ n 6 18 hs hs (by exact LL1.out.la') (by exact KG.out) h4 rfl).mono ?_;rintro e w2 ⟨rfl,hb2⟩;have LL2:=hide (LL1.out.later hb2);have BW2:=hide (BW1.out.trans (hb2.mono BW1.out.size));obtain⟨ye0,ye1,ye2,ye3,ye4,ye5⟩:=LL2.out.cells;clear hb2)
   |(go_at_call 24;refine(zcS _ _ n 18 hs p (LL0.out.ma.below (zB _ _).drew zL) HFA.out h1 h4 (by decide)).mono ?_;rintro e w1 ⟨o1,c1,rfl,l1,hb1'⟩;have hb1:Below W.heap.size W w1:=(zB _ _).drew.trans (hb1'.mono (by simp));have KG:=hide l1;have LL1:=hide (LL0.out.later hb1);have BW1:=hide (BW0.out.trans (hb1.mono BW0.out.size));obtain⟨yd0,yd1,yd2,yd3,yd4,yd5⟩:=LL1.out.cells;clear l1 hb1 hb1'))
 go_upto_if 73 with fail;go_cut [] from 27 (fun wx=>wx=w5)
 case first=>
  go_wp2;go_meet
  case rel=>rfl
 case rest=>
  subst hcut;apply_assumption;exact ziF w _ PA PB B8 B11 n nb la lb ca cb kA kB cA cB vcap ga gb oA oB mA mB vo hs ks p q vs BW5.out LL5.out _ _ _ _ _ _ _ _ _ _ _ _ _ _ _ _ _ _ _ _ _ _ _ _ _ _ _ _ _ _ _ _ _ _ _ _ _ _ _ _ _ _ _ _ _ _ _ _ _ _ _ _ _ _ _ _ _ _ _ _ _ _ _ _ _ _ _ _ _ _ _ _ _ _ _ _ _ _ _ _ _ _ _ _ _ _ _ _ _ _ _ _ _ _ _ _ _ _ _ _ _ _ _ _ _ _ _ _ _ _ _ _ _ _ _ _ _ _ _ _ _ _ _ _ _ _ _ _ _ _ _ _ _ _ _ _ _ _ _ _ _ _ _ _ _ _ _ _ _ _ _ _ _ _ _ _ _ _ _ _ _ _ _ _ _ _ _ _ _ _ _ _ _ _ _ _ _ _ _ _ _ _ _ _ _ _ _ _ _ _ _ _ _ _ _ _ _ _ _ _ _ _ _ _ _ _ _ _ _ _ _ _ _ _ _ _ _
theorem txtTwoL:txt 2=[50]:=by
 unfold txt Lib.itoa;rw [if_neg (by decide),show(2:Int).toNat=2 from rfl,Lib.decDigits,dif_pos (by decide)];rfl
theorem txtOneL:txt 1=[49]:=by
 unfold txt Lib.itoa;rw [if_neg (by decide),show(1:Int).toNat=1 from rfl,Lib.decDigits,dif_pos (by decide)];rfl
theorem text21L:vtxt [2,1]=[40,50,32,49,41]:=by
 unfold vtxt;rw [List.map_cons,List.map_cons,List.map_nil,txtTwoL,txtOneL];rfl
theorem zcv:FormL 2 [[2,0],[0,3]] (fun k=>k):=by
 have two:∀ i:Nat,i<[[(2:Int),0],[0,3]].length→i=0∨i=1:=fun i hi=>by
  simp only [List.length_cons,List.length_nil] at hi;omega
 refine⟨fun r hr=>?_,⟨fun i k hik _=>hik,fun i hi=>?_,fun i b hi hb=>?_,fun i hi=>?_,fun i k hik hk=>?_⟩⟩
 ·simp only [List.mem_cons,List.mem_nil_iff,or_false] at hr;rcases hr with rfl | rfl <;> rfl
 ·rcases two i hi with rfl | rfl <;> decide
 ·rcases two i hi with rfl | rfl
  ·exact absurd hb (Nat.not_lt_zero b)
  ·obtain rfl:b=0:=by omega
   rfl
 ·rcases two i hi with rfl | rfl <;> decide
 ·rcases two k hk with rfl | rfl
  ·exact absurd hik (Nat.not_lt_zero i)
  ·obtain rfl:i=0:=by omega
   decide
theorem zip:Gens 2 (InL [[2,0],[0,3]]) [4,3]:=by
 refine(zbn zcv.len rfl).1 ((zdT zcv rfl).2 ⟨fun k hk=>?_,by decide⟩);simp only [List.length_cons,List.length_nil] at hk;rcases(by omega:k=0∨k=1) with rfl | rfl <;> decide
theorem zjn:muchL [[2,0],[0,3]] (fun k=>k) [4,3]=[2,1]:=by decide
theorem zdL (W:World)(x y:Int)(hx:-9223372036854775808≤x∧x≤9223372036854775807)(hy:-9223372036854775808≤y∧y≤9223372036854775807):RowS (W.alloc (.cells #[.int .i64 x,.int .i64 y] 3)) (.slice (some ⟨W.heap.size,0,none⟩) 2 2) [x,y]:=by
 refine⟨_,_,rfl,Nat.le_refl _,fun i=>?_,fun _=>⟨_,_,rfl,by simp,fun i hi=>?_⟩⟩
 ·match i with
  | 0=>exact hx
  | 1=>exact hy
  | i+2=>simp
 ·match i,hi with
  | 0,_=>rw [World.cell?_alloc_new];rfl
  | 1,_=>rw [World.cell?_alloc_new];rfl
theorem zj1 (w:World):RowsS (((w.alloc (.cells #[.int .i64 2,.int .i64 0] 3)).alloc (.cells #[.int .i64 0,.int .i64 3] 3)).alloc (.cells #[.slice (some ⟨w.heap.size,0,none⟩) 2 2,.slice (some ⟨w.heap.size+1,0,none⟩) 2 2] 38)) (.slice (some ⟨w.heap.size+2,0,none⟩) 2 2) [[2,0],[0,3]]:=by
 have e1:(w.alloc (.cells #[.int .i64 2,.int .i64 0] 3)).heap.size=w.heap.size+1:=by simp
 have e2:((w.alloc (.cells #[.int .i64 2,.int .i64 0] 3)).alloc (.cells #[.int .i64 0,.int .i64 3] 3)).heap.size=w.heap.size+2:=by simp
 have r1:=zdL w 2 0 (by decide) (by decide);have r2:=zdL (w.alloc (.cells #[.int .i64 2,.int .i64 0] 3)) 0 3 (by decide) (by decide);rw [e1] at r2;have b2:Below (w.alloc (.cells #[.int .i64 2,.int .i64 0] 3)).heap.size (w.alloc (.cells #[.int .i64 2,.int .i64 0] 3)) ((w.alloc (.cells #[.int .i64 2,.int .i64 0] 3)).alloc (.cells #[.int .i64 0,.int .i64 3] 3)):=(zB _ _).alloc zL _;have b3:Below ((w.alloc (.cells #[.int .i64 2,.int .i64 0] 3)).alloc (.cells #[.int .i64 0,.int .i64 3] 3)).heap.size ((w.alloc (.cells #[.int .i64 2,.int .i64 0] 3)).alloc (.cells #[.int .i64 0,.int .i64 3] 3)) (((w.alloc (.cells #[.int .i64 2,.int .i64 0] 3)).alloc (.cells #[.int .i64 0,.int .i64 3] 3)).alloc (.cells #[.slice (some ⟨w.heap.size,0,none⟩) 2 2,.slice (some ⟨w.heap.size+1,0,none⟩) 2 2] 38)):=(zB _ _).alloc zL _;refine⟨_,_,rfl,Nat.le_refl _,fun _=>⟨_,_,rfl,by simp,fun i r hi=>?_⟩⟩
 match i,hi with
 | 0,hi=>
  obtain rfl:=zI hi;refine⟨.slice (some ⟨w.heap.size,0,none⟩) 2 2,?_,(r1.below b2 zL).below b3 zL⟩;rw [← e2,World.cell?_alloc_new];rfl
 | 1,hi=>
  obtain rfl:=zI hi;refine⟨.slice (some ⟨w.heap.size+1,0,none⟩) 2 2,?_,r2.below b3 zL⟩;rw [← e2,World.cell?_alloc_new];rfl
theorem ziP (w:World)(ht:Tab w):Calls Tryz.prog 21 #[] w fun e w'=>e=.returned (.bool true)∧Below w.heap.size w w':=by
 have HT:=hide ht;have HRW:=hide (zj1 w);have HB3:Hid (Below w.heap.size w (((w.alloc (.cells #[.int .i64 2,.int .i64 0] 3)).alloc (.cells #[.int .i64 0,.int .i64 3] 3)).alloc (.cells #[.slice (some ⟨w.heap.size,0,none⟩) 2 2,.slice (some ⟨w.heap.size+1,0,none⟩) 2 2] 38))):=(((zB w.heap.size w).alloc zL _).alloc (by simp) _).alloc (by simp;omega) _;clear ht;go_enter Tryz.func21,Tryz.ntmps21;go_wp2_with fail;generalize (((w.alloc (.cells #[.int .i64 2,.int .i64 0] 3)).alloc (.cells #[.int .i64 0,.int .i64 3] 3)).alloc (.cells #[.slice (some ⟨w.heap.size,0,none⟩) 2 2,.slice (some ⟨w.heap.size+1,0,none⟩) 2 2] 38))=W3 at *;refine(zfm W3 2 _ _ [[2,0],[0,3]] (by exact HRW.out)).mono ?_;rintro e w4 ⟨hb4,hcase⟩;rcases hcase with⟨hno,-⟩ |⟨-,u,m,hs,rfl,hL,hA,-⟩
 ·exact absurd hno (by decide)
 obtain⟨⟨u',eu,hm⟩,p,hF⟩:=hL;simp only [Value.agg.injEq,Array.mk.injEq,List.cons.injEq,and_true] at eu;obtain⟨-,rfl⟩:=eu;obtain rfl:hs=[[2,0],[0,3]]:=zar hF zcv hA;obtain⟨uo,uc,rfl,-,-⟩:=id hm;have hN4:=(zB w4.heap.size w4).alloc zL (.cells #[.int .i64 2,.slice uo 2 uc] 55);have HMB:Hid (MatN (w4.alloc (.cells #[.int .i64 2,.slice uo 2 uc] 55)) (.slice uo 2 uc) [[2,0],[0,3]] 6):=hm.below hN4 zL;have HX4:=hide (zf w4 (.int .i64 2) (.slice uo 2 uc) 55 _ rfl);have HLB:Hid (w4.heap.size<(w4.alloc (.cells #[.int .i64 2,.slice uo 2 uc] 55)).heap.size):=by show _<_;simp
 have HB5:=hide (HB3.out.trans ((hb4.trans (hN4.mono hb4.size)).mono HB3.out.size));clear hb4 hF hA hm hN4;try rw [show([[2,0],[0,3]]:List (List Int)).length=2 from rfl]
 obtain⟨c0,c1,-,-⟩:=HX4.out;go_wp2_with fail;generalize (w4.alloc (.cells #[.int .i64 2,.slice uo 2 uc] 55))=W5 at *;generalize w4.heap.size=B at *;refine zla (A:=fun _=>true) (S:=(fun w'=>w'.cell? ⟨B,0,none⟩=some (.int .i64 2)∧w'.cell? ⟨B,1,none⟩=some (.slice uo 2 uc))) (by kernel_rfl) (by exact⟨c0,c1⟩) (fun hHeld=>?_);refine zaI 0 19 [] ?_;try simp only [zA]
 refine zd5 1 (by kernel_rfl) rfl (fun K hK=>?_);go_simp;have hbA:Below W5.heap.size W5 (W5.drew.alloc (.cells #[.int .i64 4,.int .i64 3] 3)):=(zB _ _).drew.alloc zL _;have d0:=(hbA.cell (p:=⟨B,0,none⟩) HLB.out).trans c0;have d1:=(hbA.cell (p:=⟨B,1,none⟩) HLB.out).trans c1;have HRS:=hide (zdL W5.drew 4 3 (by decide) (by decide));have HBA:=hide hbA;refine hK.out _ _ (fun _=>⟨d0,d1⟩) ?_;clear hK K hHeld hbA;try simp only [zA]
 refine zd5 2 (by kernel_rfl) rfl (fun K hK=>?_);go_simp;refine(zaW _ _ [4,3] (by exact HRS.out) (by decide)).mono ?_;rintro e w6 ⟨P6,rfl,ho6⟩;have HB6:=hide (HBA.out.trans (ho6.below.mono HBA.out.size));have HV6:=hide ho6.vec;have e0:=(HB6.out.cell (p:=⟨B,0,none⟩) HLB.out).trans c0;have e1:=(HB6.out.cell (p:=⟨B,1,none⟩) HLB.out).trans c1;clear ho6;go_wp2_with fail;refine hK.out _ _ (fun _=>⟨e0,e1⟩) ?_;clear hK K;try simp only [zA]
 refine zd5 3 (by kernel_rfl) rfl (fun K hK=>?_);go_simp;refine(zft w6 _ _ 2 6 2 [[2,0],[0,3]] (fun k=>k) [4,3] ⟨_,rfl,HMB.out.below HB6.out zL⟩ zcv (by exact HV6.out) rfl (by decide) (by decide) (by decide)).mono ?_;rintro e w7 ⟨hb7,hcase⟩;rcases hcase with⟨-,P7,rfl,ho7⟩ |⟨hno,-⟩
 rotate_left
 ·exact absurd zip hno
 have HB7:=hide (HB6.out.trans (hb7.mono HB6.out.size));have HV7:=hide ho7.vec;rw [zjn] at HV7;have f0:=(HB7.out.cell (p:=⟨B,0,none⟩) HLB.out).trans c0;have f1:=(HB7.out.cell (p:=⟨B,1,none⟩) HLB.out).trans c1;clear hb7 ho7;go_wp2_with fail;refine hK.out _ _ (fun _=>⟨f0,f1⟩) ?_;clear hK K;try simp only [zA]
 have hHeld2:(fun w'=>w'.cell? ⟨B,0,none⟩=some (.int .i64 2)∧w'.cell? ⟨B,1,none⟩=some (.slice uo 2 uc)) w7:=⟨f0,f1⟩;refine zaI 4 18 [] ?_;try simp only [zA]
 refine zaI 5 23 [] ?_;try simp only [zA]
 refine zaI 6 24 [] ?_;try simp only [zA]
 refine zaI 7 25 [] ?_;try simp only [zA]
 refine zaI 8 4 [] ?_;try simp only [zA]
 refine zaI 9 5 [] ?_;try simp only [zA]
 refine zaI 10 6 [] ?_;try simp only [zA]
 refine zk7 (by kernel_rfl) ?_;clear hHeld2 c0 c1 d0 d1 e0 e1 f0 f1 HRS HV6;have HTX:Hid (Calls Tryz.prog 50 #[.slice (some ⟨P7,0,none⟩) 2 2] w7 fun e w'=>e=.returned (.string ⟨#[40,50,32,49,41]⟩)∧Below w7.heap.size w7 w'):=by
  have:=zle w7 _ [2,1] _ ((HT.out.below HB5.out).below HB7.out) HV7.out (by decide) (by decide) (by decide) (by
   rw [List.map_cons,List.map_cons,List.map_nil,txtTwoL,txtOneL];decide)
  rw [text21L] at this;exact this
 go_wp2_with fail;refine(zf8 w7).mono ?_;rintro e w7' ⟨rfl,rfl⟩;go_wp2_with fail;refine HTX.out.mono ?_;rintro e w8 ⟨rfl,hb8⟩;have HB8:=hide ((HB5.out.trans (HB7.out.mono HB5.out.size)).trans (hb8.mono (HB5.out.trans (HB7.out.mono HB5.out.size)).size));clear hb8 HTX HV7;go_wp2;go_ret;exact⟨rfl,HB8.out⟩
theorem zia{nI:Int}{rs:List (List Int)}(h:goodG nI rs=true):(1≤nI∧nI≤4∧rs.length≤8)∧∀ r∈rs,goodRow nI r=true:=by
 unfold goodG at h;rw [Bool.and_eq_true,decide_eq_true_eq,List.all_eq_true] at h;exact h
theorem zdz (w:World)(nI:Int)(go:Option Addr)(gcap:Nat)(rs:List (List Int))(hv:RowsS w (.slice go rs.length gcap) rs):
  Calls Tryz.prog 22 #[.agg #[.int .i64 nI,.slice go rs.length gcap]] w fun e w'=>Below w.heap.size w w'∧(e=.returned (.tuple #[.agg #[.int .i64 0,.slice none 0 0],.slice none 0 0,.bool false]) ∨
   ∃ n o c mo mc hs,nI=((n:Nat):Int)∧1≤n∧n≤4∧e=.returned (.tuple #[.agg #[.int .i64 (n:Int),.slice o hs.length c],.slice mo hs.length mc,.bool true])∧LatN w' (.agg #[.int .i64 (n:Int),.slice o hs.length c]) n hs 6∧MatR w' (.slice mo hs.length mc) hs 18):=by
 refine(zfm w nI go gcap rs hv).mono fun e w' ⟨hb,hc⟩=>⟨hb,?_⟩;rcases hc with⟨-,rfl⟩ |⟨hg,u,m,hs,rfl,hl,-,hm⟩
 ·exact .inl rfl
 ·obtain⟨⟨h1,h4,-⟩,-⟩:=zia hg;obtain⟨n,rfl⟩:=Int.eq_ofNat_of_zero_le (show 0≤nI by omega);rw [Int.toNat_natCast] at hl;have hl':=hl;obtain⟨⟨u',e,⟨o,c,rfl,-,-⟩⟩,-⟩:=hl;simp only [Value.agg.injEq,Array.mk.injEq,List.cons.injEq,and_true] at e;obtain⟨-,rfl⟩:=e;have hm':=hm;obtain⟨mo,mc,rfl,-,-⟩:=hm;exact .inr ⟨n,o,c,mo,mc,hs,rfl,by omega,by omega,rfl,hl',hm'⟩
theorem ziM (w:World)(ht:Tab w)(nA nB:Int)(ga gb vo:Option Addr)(ca cb vcap:Nat)(ra rb:List (List Int))(vs:List Int)(ha:RowsS w (.slice ga ra.length ca) ra)(hb:RowsS w (.slice gb rb.length cb) rb)(hv:RowS w (.slice vo vs.length vcap) vs):
  Calls Tryz.prog 5 #[.agg #[.int .i64 nA,.slice ga ra.length ca],.agg #[.int .i64 nB,.slice gb rb.length cb],.slice vo vs.length vcap] w fun e w'=>e=.returned (.bool true)∧Below w.heap.size w w':=by
 have HT:=hide ht;have HA:=hide ha;have HB:=hide hb;have HV:=hide hv;clear ht ha hb hv;have XA:=hide ((BoxL.new w (.int .i64 nA) (.slice ga ra.length ca) 53).later (zQ _ (.cells #[.int .i64 nB,.slice gb rb.length cb] 53)));have XB:=hide (BoxL.new (w.alloc (.cells #[.int .i64 nA,.slice ga ra.length ca] 53)) (.int .i64 nB) (.slice gb rb.length cb) 53);have HBW:=hide (((zB w.heap.size w).alloc zL (.cells #[.int .i64 nA,.slice ga ra.length ca] 53)).alloc (by simp) (.cells #[.int .i64 nB,.slice gb rb.length cb] 53));have HS1:Hid ((w.alloc (.cells #[.int .i64 nA,.slice ga ra.length ca] 53)).heap.size=w.heap.size+1):=by show _=_;simp
 rw [HS1.out] at XB;clear HS1;go_enter Tryz.func5,Tryz.ntmps5;go_wp2_with fail;generalize ((w.alloc (.cells #[.int .i64 nA,.slice ga ra.length ca] 53)).alloc (.cells #[.int .i64 nB,.slice gb rb.length cb] 53))=W0 at *;refine(ziP W0 (HT.out.below HBW.out)).mono ?_;rintro e w1 ⟨rfl,hb1⟩;have XA':=hide (XA.out.later hb1);have XB':=hide (XB.out.later hb1);have HBW':=hide (HBW.out.trans (hb1.mono HBW.out.size));clear XA XB HBW;have XA:=XA';have XB:=XB';have HBW:=HBW';clear XA' XB' HBW';clear hb1;obtain⟨a0,a1,-,-⟩:=XA.out.1;go_wp2_with fail;refine(zdz w1 nA ga ca ra (HA.out.below HBW.out)).mono ?_;rintro e w2 ⟨hb2,hcase⟩;clear a0 a1;have XA':=hide (XA.out.later hb2);have XB':=hide (XB.out.later hb2);have HBW':=hide (HBW.out.trans (hb2.mono HBW.out.size));clear XA XB HBW;have XA:=XA';have XB:=XB';have HBW:=HBW';clear XA' XB' HBW';clear hb2;rcases hcase with rfl |⟨n,oA,kA,moA,mkA,hs,rfl,h1,h4,rfl,hLA,hMA⟩
 ·have hN2:=zQ w2 (.cells #[.int .i64 0,.slice none 0 0] 55);have XB2:=hide (XB.out.later hN2);have HBW2:=hide (HBW.out.trans (hN2.mono HBW.out.size));obtain⟨b0,b1,-,-⟩:=XB2.out.1;clear hN2 XA XB;go_wp2_with fail;generalize (w2.alloc (.cells #[.int .i64 0,.slice none 0 0] 55))=W3 at *;refine(zdz W3 nB gb cb rb (HB.out.below HBW2.out)).mono ?_;rintro e w4 ⟨hb4,hcase⟩;have HBW4:=hide (HBW2.out.trans (hb4.mono HBW2.out.size));clear hb4 b0 b1;rcases hcase with rfl |⟨n,oB,kB,moB,mkB,ks,rfl,h1,h4,rfl,-,-⟩
  ·have HBW5:=hide (HBW4.out.alloc HBW4.out.size (.cells #[.int .i64 0,.slice none 0 0] 55));go_wp2;go_ret;exact⟨rfl,HBW5.out⟩
  ·have HBW5:=hide (HBW4.out.alloc HBW4.out.size (.cells #[.int .i64 (n:Int),.slice oB ks.length kB] 55));go_wp2;go_ret;exact⟨rfl,HBW5.out⟩
 ·have hN2:=zQ w2 (.cells #[.int .i64 (n:Int),.slice oA hs.length kA] 55);have X6:=hide (BoxL.new w2 (.int .i64 (n:Int)) (.slice oA hs.length kA) 55);have XA2:=hide (XA.out.later hN2);have XB2:=hide (XB.out.later hN2);have HBW2:=hide (HBW.out.trans (hN2.mono HBW.out.size));have HLA:=hide (hLA.below hN2);have HMA:=hide (hMA.below hN2 zL);obtain⟨b0,b1,-,-⟩:=XB2.out.1;clear hN2 XA XB HBW hLA hMA;go_wp2_with fail;generalize (w2.alloc (.cells #[.int .i64 (n:Int),.slice oA hs.length kA] 55))=W3 at *;generalize w2.heap.size=B8 at *;refine(zdz W3 nB gb cb rb (HB.out.below HBW2.out)).mono ?_;rintro e w4 ⟨hb4,hcase⟩;have HBW:=hide (HBW2.out.trans (hb4.mono HBW2.out.size));have XA:=hide (XA2.out.later hb4);have XB:=hide (XB2.out.later hb4);have X6':=hide (X6.out.later hb4);have HLA':=hide (HLA.out.below hb4);have HMA':=hide (HMA.out.below hb4 zL);clear hb4 b0 b1 HBW2 XA2 XB2 X6 HLA HMA;rcases hcase with rfl |⟨nb,oB,kB,moB,mkB,ks,rfl,h1b,h4b,rfl,hLB,hMB⟩
  ·have HBW5:=hide (HBW.out.alloc HBW.out.size (.cells #[.int .i64 0,.slice none 0 0] 55));go_wp2;go_ret;exact⟨rfl,HBW5.out⟩
  ·have hN4:=zQ w4 (.cells #[.int .i64 (nb:Int),.slice oB ks.length kB] 55);have X9:=hide (BoxL.new w4 (.int .i64 (nb:Int)) (.slice oB ks.length kB) 55);have XA5:=hide (XA.out.later hN4);have XB5:=hide (XB.out.later hN4);have X6:=hide (X6'.out.later hN4);have HBW5:=hide (HBW.out.trans (hN4.mono HBW.out.size));have HLA:=hide (HLA'.out.below hN4);have HMA:=hide (HMA'.out.below hN4 zL);have HLB:=hide (hLB.below hN4);have HMB:=hide (hMB.below hN4 zL);obtain⟨-,p,hF⟩:=HLA.out;obtain⟨-,pk,hG⟩:=HLB.out;have HF:=hide hF;have HG:=hide hG;clear hN4 XA XB HBW X6' HLA' HMA' hLB hMB hF hG;by_cases hv10:10<(vs.length:Int)
   ·have g0:decide (10<(vs.length:Int))=true:=decide_eq_true hv10;go_wp2;go_ret;exact⟨rfl,HBW5.out⟩
   ·have g0:decide (10<(vs.length:Int))=false:=decide_eq_false hv10;go_upto_if 52 with fail;generalize (w4.alloc (.cells #[.int .i64 (nb:Int),.slice oB ks.length kB] 55))=W5 at *;generalize w4.heap.size=B11 at *;go_cut [] from 27 (fun wx=>wx=W5)
    case first=>
     go_wp2;go_meet
     case rel=>rfl
    case rest=>
     subst hcut;apply_assumption;exact ziE w _ _ _ B8 B11 n nb _ _ ca cb kA kB mkA mkB vcap ga gb oA oB moA moB vo hs ks p pk vs HBW5.out ⟨XA5.out,XB5.out,X6.out,X9.out,HLA.out,HLB.out,HMA.out,HMB.out,HF.out,HG.out,HV.out.below HBW5.out zL,h1,h4,h1b,h4b,by omega⟩ _ _ _ _ _ _ _ _ _ _ _ _ _ _ _ _ _ _ _ _ _ _ _ _ _ _ _ _ _ _ _ _ _ _ _ _ _ _ _ _ _ _ _ _ _ _ _ _ _ _ _ _ _ _ _ _ _ _ _ _ _ _ _ _ _ _ _ _ _ _ _ _ _ _ _ _ _ _ _ _ _ _ _ _ _ _ _ _ _ _ _ _ _ _ _ _ _ _ _ _ _ _ _ _ _ _ _ _ _ _ _ _ _ _ _ _ _ _ _ _ _ _ _ _ _ _ _ _ _ _ _ _ _ _ _ _ _ _ _ _ _ _ _ _ _ _ _ _ _ _ _ _ _ _ _ _ _ _ _ _ _ _ _ _ _ _ _ _ _ _ _ _ _ _ _ _ _ _ _ _ _ _ _ _ _ _ _ _ _ _ _ _ _ _ _ _ _ _ _ _ _ _ _ _ _ _ _ _ _ _ _ _ _ _ _ _ _
open Go.ChangeShapes Go.WideShapes Go.ChangeAt Go.Joins
theorem Tryz.cellsGens:Tryz.prog.cellsOf 53=2:=by kernel_rfl
theorem Tryz.cellsIntS:Tryz.prog.cellsOf 38=1:=by kernel_rfl
theorem Tryz.cellsInt:Tryz.prog.cellsOf 3=1:=by kernel_rfl
theorem zfG {H:Type}{enc:TypeId × Value→H}{n:Nat}{y:DataW H × List MemPlace}
  (h:DataW.trod enc Tryz.prog W 0 (fun _=>true) true n 38 [v]=some y):∃ ks,RowS W v ks:=by
 rcases open_ints Tryz.underlying38 Tryz.underlying3 Tryz.cellsInt h with⟨hcs,_⟩ |⟨x,l,c,zs,hcs,_,hl,hm,hz,_,hcell,hwz⟩
 ·simp only [List.cons.injEq,and_true] at hcs;subst hcs;exact⟨[],none,0,rfl,Nat.le_refl _,fun i=>by simp,fun h=>absurd h (by simp)⟩
 ·simp only [List.cons.injEq,and_true] at hcs;subst hcs;have hz':zs.length=c:=by simpa using hz
  have hlen:(zs.take l).length=l:=by rw [List.length_take];omega
  refine⟨zs.take l,some x,c,by rw [hlen],by rw [hlen];exact hl,fun i=>?_,fun h0=>?_⟩
  ·by_cases hi:i<(zs.take l).length
   ·rw [zG,List.getElem?_eq_getElem hi,Option.getD_some];have:=hwz _ (List.mem_of_mem_take (List.getElem_mem hi));simp [Lit.wf,IntKind.min,IntKind.max,IntKind.signed,IntKind.bits] at this;rw [List.getElem_take];omega
   ·rw [zG,List.getElem?_eq_none (by omega)];simp
  ·obtain⟨blk,off,spot⟩:=x;rw [hlen] at h0;have h00:=hcell 0 (by omega);have hspot:spot=none:=by simpa [Addr.add] using World.cell?_spot h00
   subst hspot;refine⟨blk,off,rfl,World.block_lt_of_cell? W _ h00,fun i hi=>?_⟩;rw [hlen] at hi;have:=hcell i (by omega);rw [zaC zs l i (by omega)];by_cases hi0:i=0
   ·subst hi0;simpa [Addr.add] using this
   ·simpa [Addr.add,hi0] using this
theorem zfF {H:Type}{enc:TypeId × Value→H}{r:Reach}{b0:Nat}{d:DataW H}{p:List MemPlace}
  (hv:Value.okWide Tryz.prog W r b0 53 v) (h:DataW.Trod enc Tryz.prog W 0 (fun _=>true) true 53 v d p):
  ∃ nI go gcap rs,v=.agg #[.int .i64 nI,.slice go rs.length gcap]∧RowsS W (.slice go rs.length gcap) rs:=by
 obtain⟨c0,c1,y0,y1,m,rfl,rfl,rfl,hy0,hy1⟩:=open_agg2 Tryz.underlying53 (by kernel_rfl) Tryz.cellsGens hv h;obtain⟨nI,e0,-,-⟩:=DataW.trod_int Tryz.underlying3 hy0;simp only [List.cons.injEq,and_true] at e0;subst e0;rcases Go.Deep.open_slice1 Tryz.underlying51 Tryz.cellsIntS hy1 with⟨hcs,_⟩ |⟨a,l,c,m,n,V,D,Pl,hcs,_,hl,hm,hmm,_,hc⟩
 ·simp only [List.cons.injEq,and_true] at hcs;subst hcs;exact⟨nI,none,0,[],rfl,none,0,rfl,by simp,fun h=>absurd h (by simp)⟩
 ·simp only [List.cons.injEq,and_true] at hcs;subst hcs;have hm':l≤m:=by simp at hmm;omega
  have each:∀ i,i<l→∃ ks:List Int,RowS W (V i) ks:=fun i hi=>zfG (hc i (by omega)).2;obtain⟨q,hq⟩:=Go.Deep.choose_lt each;have hlen:((List.range l).map q).length=l:=by simp
  refine⟨nI,some a,c,(List.range l).map q,by rw [hlen],some a,c,rfl,by rw [hlen];exact hl,fun h0=>?_⟩;rw [hlen] at h0;obtain⟨k0,-⟩:=hc 0 (by omega);obtain⟨blk,off,spot⟩:=a;have hsp:spot=none:=by simpa [Addr.add] using World.cell?_spot k0
  subst hsp;refine⟨blk,off,rfl,by simpa [Addr.add] using World.block_lt_of_cell? W _ k0,fun i rs hi=>?_⟩;obtain⟨hi',e⟩:=List.getElem?_eq_some_iff.1 hi;rw [hlen] at hi';have e':rs=q i:=by simpa using e.symm
  obtain⟨c0,-⟩:=hc i (by omega);rw [Go.WideShapes.add_plain] at c0;rw [e'];exact⟨_,c0,hq i hi'⟩
end Go.Proofs.YtdedolkgcdlmeaaGreatDoor
