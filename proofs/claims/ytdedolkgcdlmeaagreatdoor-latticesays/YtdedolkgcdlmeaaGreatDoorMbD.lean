import Derived.Test.YtdedolkgcdlmeaaGreatDoorZRows
import Derived.Test.YtdedolkgcdlmeaaGreatDoorCoR
import Derived.Deep.CutRange
import Derived.Deep.CutBlock
import Derived.Test.YtdedolkgcdlmeaaGreatDoorDrawn
set_option maxRecDepth 100000
set_option maxHeartbeats 6400000
set_option linter.unusedSimpArgs false
namespace Go.Proofs.YtdedolkgcdlmeaaGreatDoor
open Go.RowKit Limbs Digs
variable{W W' w:World}{vs:List Int}
def Told (W:World)(n:Nat)(hs:List (List Int))(p:Nat→Nat)(vs:List Int)(kv:Value)(is:Bool)(NK:Nat):Prop:=
 (Gens n (InL hs) vs∧is=true∧∃ ko kc,kv=.slice ko hs.length kc∧VecN W kv (muchL hs p vs) NK)∨(¬ Gens n (InL hs) vs∧is=false∧kv=.slice none 0 0)
theorem Told.later{n:Nat}{hs:List (List Int)}{p:Nat→Nat}{kv:Value}{is:Bool}{NK:Nat}(h:Told W n hs p vs kv is NK)(hb:Below W.heap.size W W'):Told W' n hs p vs kv is NK:=by
 rcases h with⟨h1,h2,ko,kc,h3,h4⟩ | h
 ·exact .inl ⟨h1,h2,ko,kc,h3,h4.below hb zL⟩
 ·exact .inr h
theorem eBd:∀ n,n<5→∀ m,m<10→eB (dT 18 m+7) n≤1000000:=by decide +kernel
theorem zjl (w W:World)(n B NK NB:Nat)(mo bo:Option Addr)(mc bc:Nat)(hs ks:List (List Int))(p:Nat→Nat)(vs:List Int)(kv rv:Value)(is:Bool)(hbe:Below w.heap.size w W)(h1:1≤n)(h4:n≤4)(hF:FormL n hs p)(hM:MatR W (.slice mo hs.length mc) hs 18)(hvl:vs.length=n)(hR:RowR W rv vs 18)(hT:Told W n hs p vs kv is NK)(hX:BoxL W B (.int .i64 (n:Int)) (.slice bo ks.length bc))(hL:LatN W (.agg #[.int .i64 (n:Int),.slice bo ks.length bc]) n ks NB)(hA:Alikes n (InL ks) (InL (hs++[vs])))(sl0 sl3 sl4 sl5 sl6 sl7 sl8 sl15 sl16 sl17 sl18 sl19 sl20 sl21 sl22 sl23 sl24 sl25 sl26 sl27 sl28 sl29 sl30 sl31 sl32 sl33 sl34 sl35 sl36 sl37 sl38 sl39 sl40 sl41 sl42 sl43 sl44 sl45 sl46 sl47 sl48 sl49 sl50 sl51 sl52 sl53 sl54 sl55 sl56 sl57 sl58 sl59 sl60 sl61 sl62 sl63 sl64 sl65 sl66 sl67 sl68 sl69 sl70 sl71 sl72 sl73 sl74 sl75 sl76 sl77 sl78 sl79 sl80 sl81 sl82 sl83 sl84 sl85 sl86 sl87 sl88 sl89 sl90 sl91 sl92 sl93 sl94 sl95 sl96 sl97 sl98 sl99 sl100 sl101 sl102 sl103 sl104 sl105 sl106 sl107 sl108 sl109 sl110 sl111 sl112 sl113 sl114 sl115 sl116 sl117 sl118 sl119 sl120 sl121 sl122:Value):
  (Code.tl (Code.tl (Code.tl (Code.tl (Code.tl (Code.tl ((Tryz.f29.body).getD .skip))))))).wp Tryz.prog (bodyPost Tryz.prog Tryz.f29 (fun e w'=>e=.returned (.bool true)∧Below w.heap.size w w')) ⟨#[sl0,(.slice mo hs.length mc),(.int .i64 (n:Int)),sl3,sl4,sl5,sl6,sl7,sl8,kv,(.bool is),.nilIface,(.pointer (some ⟨B,0,none⟩)),.nilIface,rv,sl15,sl16,sl17,sl18,sl19,sl20,sl21,sl22,sl23,sl24,sl25,sl26,sl27,sl28,sl29,sl30,sl31,sl32,sl33,sl34,sl35,sl36,sl37,sl38,sl39,sl40,sl41,sl42,sl43,sl44,sl45,sl46,sl47,sl48,sl49,sl50,sl51,sl52,sl53,sl54,sl55,sl56,sl57,sl58,sl59,sl60,sl61,sl62,sl63,sl64,sl65,sl66,sl67,sl68,sl69,sl70,sl71,sl72,sl73,sl74,sl75,sl76,sl77,sl78,sl79,sl80,sl81,sl82,sl83,sl84,sl85,sl86,sl87,sl88,sl89,sl90,sl91,sl92,sl93,sl94,sl95,sl96,sl97,sl98,sl99,sl100,sl101,sl102,sl103,sl104,sl105,sl106,sl107,sl108,sl109,sl110,sl111,sl112,sl113,sl114,sl115,sl116,sl117,sl118,sl119,sl120,sl121,sl122],[]⟩ W:=by
 simp only [Code.tl,Tryz.f29,Option.getD_some];have HM:=hide hM;have HR:=hide hR;have HF:=hide hF;have HA:=hide hA;have HVL:=hide hvl;have hsl:=hF.short;clear hM hR hF hA hvl;obtain⟨ro,rl,rc,rfl⟩:∃ ro rl rc,rv=.slice ro rl rc:=by
  obtain⟨so,sc,e,-⟩:=HR.out;exact⟨_,_,_,e⟩
 obtain⟨j0,hj,hy0,hy1,hy2⟩:=info_parts Tryz.infoRRow;rcases hT with⟨hg,rfl,ko,kc,rfl,hk⟩ |⟨hg,rfl,rfl⟩
 ·have HG0:=hide hg;go_wp2_with fail;refine(zdb W _ _ n 18 18 hs p vs HM.out HF.out HR.out HVL.out h4 (by decide) (by decide)).mono ?_;rintro e w1 ⟨hb1,hcase⟩;have HCO:=hide hcase;clear hcase;obtain⟨cu,rfl,hcu⟩:∃ u,e=.returned (.tuple #[u,.bool true])∧RowR w1 u (muchL hs p vs) (18+4 *(18+8)+6):=by
   rcases HCO.out with⟨-,h⟩ |⟨h,-⟩
   ·exact h
   ·exact absurd HG0.out h
  have HCU:=hide hcu;obtain⟨co,cl,cc,rfl⟩:∃ co cl cc,cu=.slice co cl cc:=by
   obtain⟨so,sc,e,-⟩:=hcu;exact⟨_,_,_,e⟩
  have HK:=hide (hk.below hb1 zL);clear hcu hk;clear HCO HG0 hg;have HB1:=hide (hbe.trans (hb1.mono hbe.size));have HM1:=hide (HM.out.below hb1 zL);have HR1:=hide (HR.out.below hb1 zL);have XB1:=hide (hX.later hb1);have LB1:=hide (hL.below hb1);clear hb1 HM HR hX hL;obtain⟨o2,l2,c2,w2,rs,hr2,hg2,hrs,hb2⟩:=zdN w1 _ hs 18 HM1.out (by omega);have HR2:=hide hr2;have HG2:=hide hg2;have HB2:=hide hb2;have HRS:=hide hrs;have HRL:Hid (rs.length=hs.length):=by
   have:=congrArg List.length hrs;rw [zM] at this;exact this
  have HRR:=hide (HR1.out.below hb2 zL);have hown:=hg2.1;have hbs:=hb2.size;clear hr2 hg2 hb2 hrs;go_wp2_with (at_builtin;first | refine Lib.wpList_append_run _ rfl _ _ _ _ rfl _ _ rfl rfl _ _ HR2.out ?_ | refine wpList_append_lies _ rfl _ _ 43 rfl w1.heap.size 106 j0 (.slice none 0 0) 1 24 (by kernel_rfl) hj hy0 hy1 hy2 rfl (by decide) (.slice o2 l2 c2) rs.length (rs.map (·.1)) rfl (hown.alloc _) ⟨w2.heap.size,0,none⟩ 1 1 [.slice ro rl rc] rfl rfl (World.news_of_block (heap_alloc_new w2 _)) (fun u hu=>by rw [List.mem_singleton] at hu;subst hu;rfl) (by decide) (by unfold maxLen;have:=HRL.out;omega) (by have:=HRL.out;omega) (by simp;omega) (w2.heap.size+1) (by simp) ?_);intro g3 c3 w3 hown3 hgrow3 hat3 hlt3;have hm3:=(zbm HG2.out HRR.out hown3 hgrow3).mat;rw [List.map_append,HRS.out] at hm3;have HM3:Hid (MatR w3 (.slice (some ⟨g3,0,none⟩) (rs.length+1) c3) (hs++[vs]) 18):=hm3;have hb13:=HB2.out.trans (zP hown hbs hgrow3);have HB3:=hide (HB1.out.trans (hb13.mono HB1.out.size));have XB3:=hide (XB1.out.later hb13);have LB3:=hide (LB1.out.below hb13);have HK3:=hide (HK.out.below hb13 zL);have HCU3:=hide (HCU.out.below hb13 zL);clear HK HCU;clear hown hown3 hgrow3 hat3 hlt3 hm3 HR2 HG2 HB2 HRR HRS HM1 HR1 XB1 LB1 HB1 hb13 hbs;go_wp2_with fail;refine(zbR w3 _ (hs++[vs]) n 18 HM3.out (fun us hus=>by
   rcases List.mem_append.1 hus with h | h
   ·exact HF.out.len us h
   ·rw [List.mem_singleton] at h;rw [h];exact HVL.out) h1 (by omega) (by rw [List.length_append,List.length_singleton];omega) (Nat.le_trans (zt (j:=10) (by rw [List.length_append,List.length_singleton];omega)) (by decide))).mono ?_
  rintro e w5 ⟨hu5,gs,q,rfl,m5,l5,f5,a5,b5⟩;have HH:Hid (MatR w5 hu5 gs 1000000):=m5.mono (eBd n (by omega) _ (by rw [List.length_append,List.length_singleton];omega));have HEQ:Hid (ks=gs):=by
   obtain⟨-,pk,hG⟩:=LB3.out;exact zar hG f5 (fun v=>(HA.out v).trans (a5 v).symm)
  have HG:=hide f5;have HGS:=hide l5;have HB5:=hide (HB3.out.trans (b5.mono HB3.out.size));have XB:=hide (XB3.out.later b5);have LB:=hide (LB3.out.below b5);have HK5:=hide (HK3.out.below b5 zL);have HCU5:=hide (HCU3.out.below b5 zL);clear HK3 HCU3;clear m5 l5 f5 a5 b5 HM3 HB3 XB3 LB3 HA;obtain⟨ho,hl',hc,rfl⟩:∃ ho hl' hc,hu5=.slice ho hl' hc:=by
   obtain⟨so,sc,e,-⟩:=HH.out;exact⟨_,_,_,e⟩
  obtain⟨p0,p1,-,-⟩:=XB.out.1;go_wp2_with fail
  go_region_held3 (fun w'=>w'.cell? ⟨B,0,none⟩=some (.int .i64 (n:Int))∧w'.cell? ⟨B,1,none⟩=some (.slice bo ks.length bc)) (go_keep)
   (first
    |(go_at_call 24;refine(zcl _ _ n 1000000 gs q HG.out h1 (fun W' hb'=>zcE W' _ gs 1000000 ((HH.out.below (zB _ _).drew zL).below hb' (by simp)) (by have:=HGS.out;omega) (fun zs hz=>by rw [HG.out.len zs hz];omega) zL)).mono ?_;rintro e wa ⟨oa,ca,rfl,hla,hba⟩;have HBa:=hide (show Below w5.heap.size w5 wa from(zB _ _).drew.trans (hba.mono (by simp)));have HLA:=hide hla;have XBa:=hide (XB.out.later HBa.out);have LBa:=hide (LB.out.below HBa.out);obtain⟨p2,p3,-,-⟩:=XBa.out.1;clear hla hba)
    |(go_at_call 23;refine(zdO wa _ _ n NB 1000000 ks gs (by exact LBa.out) (by exact HLA.out) (by omega)).mono ?_;rintro e wb ⟨rfl,hbb⟩;rw [decide_eq_true HEQ.out];have HBb:=hide (HBa.out.trans (hbb.mono HBa.out.size));have XBb:=hide (XBa.out.later hbb);obtain⟨p4,p5,-,-⟩:=XBb.out.1;clear hbb))
  have HWb:=hide (HB5.out.trans (HBb.out.mono HB5.out.size));have HKb:=hide (HK5.out.below HBb.out zL);have HCb:=hide (HCU5.out.below HBb.out zL);clear p0 p1 p2 p3 p4 p5 XB XBa XBb LB LBa HLA HBa HBb HK5 HCU5 HB5 HH HG HGS HEQ;have HM1:=hide (zjb HCb.out 106);go_wp2_with fail;refine(zcE _ _ [muchL hs p vs] _ HM1.out (by simp) (fun zs hz=>by rw [List.mem_singleton] at hz;subst hz;rw [zat];omega) (by decide)).mono ?_;rintro e w8 ⟨u8,rfl,m8,b8⟩;have hbn:=(zQ wb (.cells #[.slice co cl cc] 106)).trans (b8.mono (by simp));have HK8:=hide (HKb.out.below hbn zL);have HW8:=hide (HWb.out.trans (hbn.mono HWb.out.size));obtain⟨b',off',cap',e8,-,x8,cx8,vx8⟩:=m8.at 0 (by simp);have HV8:=hide vx8;obtain⟨xo,xc,e9,-,-⟩:=vx8;subst e8;subst e9;clear m8 b8 hbn HKb HCb HWb HM1;try simp only [Nat.add_zero] at cx8
  go_wp2_with fail;refine(zf6 w8 _ _ (muchL hs p vs) (muchL hs p vs) NK _ HK8.out HV8.out (by rw [zat];omega) true (by simp)).mono ?_;rintro e w9 ⟨rfl,b9⟩;have HW9:=hide (HW8.out.trans (b9.mono HW8.out.size));clear b9 HK8 HV8 HW8;go_wp2;go_ret;exact⟨rfl,HW9.out⟩
 ·have HG0:=hide hg;go_wp2_with fail;refine(zdb W _ _ n 18 18 hs p vs HM.out HF.out HR.out HVL.out h4 (by decide) (by decide)).mono ?_;rintro e w1 ⟨hb1,hcase⟩;have HCO:=hide hcase;clear hcase;obtain rfl:e=.returned (.tuple #[.slice none 0 0,.bool false]):=by
   rcases HCO.out with⟨h,-⟩ |⟨-,h⟩
   ·exact absurd h HG0.out
   ·exact h
  clear HCO HG0 hg;have HB1:=hide (hbe.trans (hb1.mono hbe.size));have HM1:=hide (HM.out.below hb1 zL);have HR1:=hide (HR.out.below hb1 zL);have XB1:=hide (hX.later hb1);have LB1:=hide (hL.below hb1);clear hb1 HM HR hX hL;obtain⟨o2,l2,c2,w2,rs,hr2,hg2,hrs,hb2⟩:=zdN w1 _ hs 18 HM1.out (by omega);have HR2:=hide hr2;have HG2:=hide hg2;have HB2:=hide hb2;have HRS:=hide hrs;have HRL:Hid (rs.length=hs.length):=by
   have:=congrArg List.length hrs;rw [zM] at this;exact this
  have HRR:=hide (HR1.out.below hb2 zL);have hown:=hg2.1;have hbs:=hb2.size;clear hr2 hg2 hb2 hrs;go_wp2_with (at_builtin;first | refine Lib.wpList_append_run _ rfl _ _ _ _ rfl _ _ rfl rfl _ _ HR2.out ?_ | refine wpList_append_lies _ rfl _ _ 43 rfl w1.heap.size 106 j0 (.slice none 0 0) 1 24 (by kernel_rfl) hj hy0 hy1 hy2 rfl (by decide) (.slice o2 l2 c2) rs.length (rs.map (·.1)) rfl (hown.alloc _) ⟨w2.heap.size,0,none⟩ 1 1 [.slice ro rl rc] rfl rfl (World.news_of_block (heap_alloc_new w2 _)) (fun u hu=>by rw [List.mem_singleton] at hu;subst hu;rfl) (by decide) (by unfold maxLen;have:=HRL.out;omega) (by have:=HRL.out;omega) (by simp;omega) (w2.heap.size+1) (by simp) ?_);intro g3 c3 w3 hown3 hgrow3 hat3 hlt3;have hm3:=(zbm HG2.out HRR.out hown3 hgrow3).mat;rw [List.map_append,HRS.out] at hm3;have HM3:Hid (MatR w3 (.slice (some ⟨g3,0,none⟩) (rs.length+1) c3) (hs++[vs]) 18):=hm3;have hb13:=HB2.out.trans (zP hown hbs hgrow3);have HB3:=hide (HB1.out.trans (hb13.mono HB1.out.size));have XB3:=hide (XB1.out.later hb13);have LB3:=hide (LB1.out.below hb13);clear hown hown3 hgrow3 hat3 hlt3 hm3 HR2 HG2 HB2 HRR HRS HM1 HR1 XB1 LB1 HB1 hb13 hbs;go_wp2_with fail;refine(zbR w3 _ (hs++[vs]) n 18 HM3.out (fun us hus=>by
   rcases List.mem_append.1 hus with h | h
   ·exact HF.out.len us h
   ·rw [List.mem_singleton] at h;rw [h];exact HVL.out) h1 (by omega) (by rw [List.length_append,List.length_singleton];omega) (Nat.le_trans (zt (j:=10) (by rw [List.length_append,List.length_singleton];omega)) (by decide))).mono ?_
  rintro e w5 ⟨hu5,gs,q,rfl,m5,l5,f5,a5,b5⟩;have HH:Hid (MatR w5 hu5 gs 1000000):=m5.mono (eBd n (by omega) _ (by rw [List.length_append,List.length_singleton];omega));have HEQ:Hid (ks=gs):=by
   obtain⟨-,pk,hG⟩:=LB3.out;exact zar hG f5 (fun v=>(HA.out v).trans (a5 v).symm)
  have HG:=hide f5;have HGS:=hide l5;have HB5:=hide (HB3.out.trans (b5.mono HB3.out.size));have XB:=hide (XB3.out.later b5);have LB:=hide (LB3.out.below b5);clear m5 l5 f5 a5 b5 HM3 HB3 XB3 LB3 HA;obtain⟨ho,hl',hc,rfl⟩:∃ ho hl' hc,hu5=.slice ho hl' hc:=by
   obtain⟨so,sc,e,-⟩:=HH.out;exact⟨_,_,_,e⟩
  obtain⟨p0,p1,-,-⟩:=XB.out.1;go_wp2_with fail
  go_region_held3 (fun w'=>w'.cell? ⟨B,0,none⟩=some (.int .i64 (n:Int))∧w'.cell? ⟨B,1,none⟩=some (.slice bo ks.length bc)) (go_keep)
   (first
    |(go_at_call 24;refine(zcl _ _ n 1000000 gs q HG.out h1 (fun W' hb'=>zcE W' _ gs 1000000 ((HH.out.below (zB _ _).drew zL).below hb' (by simp)) (by have:=HGS.out;omega) (fun zs hz=>by rw [HG.out.len zs hz];omega) zL)).mono ?_;rintro e wa ⟨oa,ca,rfl,hla,hba⟩;have HBa:=hide (show Below w5.heap.size w5 wa from(zB _ _).drew.trans (hba.mono (by simp)));have HLA:=hide hla;have XBa:=hide (XB.out.later HBa.out);have LBa:=hide (LB.out.below HBa.out);obtain⟨p2,p3,-,-⟩:=XBa.out.1;clear hla hba)
    |(go_at_call 23;refine(zdO wa _ _ n NB 1000000 ks gs (by exact LBa.out) (by exact HLA.out) (by omega)).mono ?_;rintro e wb ⟨rfl,hbb⟩;rw [decide_eq_true HEQ.out];have HBb:=hide (HBa.out.trans (hbb.mono HBa.out.size));have XBb:=hide (XBa.out.later hbb);obtain⟨p4,p5,-,-⟩:=XBb.out.1;clear hbb))
  have HWb:=hide (HB5.out.trans (HBb.out.mono HB5.out.size));clear p0 p1 p2 p3 p4 p5 XB XBa XBb LB LBa HLA HBa HBb HB5 HH HG HGS HEQ;go_wp2;go_ret;exact⟨rfl,HWb.out⟩
theorem zji (w W:World)(n B NK NB:Nat)(mo bo:Option Addr)(mc bc:Nat)(hs ks:List (List Int))(p:Nat→Nat)(vs:List Int)(kv:Value)(vo:Option Addr)(vcap:Nat)(is:Bool)(hbe:Below w.heap.size w W)(h1:1≤n)(h4:n≤4)(hF:FormL n hs p)(hM:MatR W (.slice mo hs.length mc) hs 18)(hvl:vs.length=n)(hV:RowS W (.slice vo vs.length vcap) vs)(hT:Told W n hs p vs kv is NK)(hX:BoxL W B (.int .i64 (n:Int)) (.slice bo ks.length bc))(hL:LatN W (.agg #[.int .i64 (n:Int),.slice bo ks.length bc]) n ks NB)(hA:Alikes n (InL ks) (InL (hs++[vs])))(sl0 sl4 sl5 sl6 sl7 sl8 sl15 sl16 sl17 sl18 sl19 sl20 sl21 sl22 sl23 sl24 sl25 sl26 sl27 sl28 sl29 sl30 sl31 sl32 sl33 sl34 sl35 sl36 sl37 sl38 sl39 sl40 sl41 sl42 sl43 sl44 sl45 sl46 sl47 sl48 sl49 sl50 sl51 sl52 sl53 sl54 sl55 sl56 sl57 sl58 sl59 sl60 sl61 sl62 sl63 sl64 sl65 sl66 sl67 sl68 sl69 sl70 sl71 sl72 sl73 sl74 sl75 sl76 sl77 sl78 sl79 sl80 sl81 sl82 sl83 sl84 sl85 sl86 sl87 sl88 sl89 sl90 sl91 sl92 sl93 sl94 sl95 sl96 sl97 sl98 sl99 sl100 sl101 sl102 sl103 sl104 sl105 sl106 sl107 sl108 sl109 sl110 sl111 sl112 sl113 sl114 sl115 sl116 sl117 sl118 sl119 sl120 sl121 sl122:Value):
  (Code.tl (Code.tl (Code.tl (Code.tl (Code.tl ((Tryz.f29.body).getD .skip)))))).wp Tryz.prog (bodyPost Tryz.prog Tryz.f29 (fun e w'=>e=.returned (.bool true)∧Below w.heap.size w w')) ⟨#[sl0,(.slice mo hs.length mc),(.int .i64 (n:Int)),(.slice vo vs.length vcap),sl4,sl5,sl6,sl7,sl8,kv,(.bool is),.nilIface,(.pointer (some ⟨B,0,none⟩)),.nilIface,(.slice none 0 0),sl15,sl16,sl17,sl18,sl19,sl20,sl21,sl22,sl23,sl24,sl25,sl26,sl27,sl28,sl29,sl30,sl31,sl32,sl33,sl34,sl35,sl36,sl37,sl38,sl39,sl40,sl41,sl42,sl43,sl44,sl45,sl46,sl47,sl48,sl49,sl50,sl51,sl52,sl53,sl54,sl55,sl56,sl57,sl58,sl59,sl60,sl61,sl62,sl63,sl64,sl65,sl66,sl67,sl68,sl69,sl70,sl71,sl72,sl73,sl74,sl75,sl76,sl77,sl78,sl79,sl80,sl81,sl82,sl83,sl84,sl85,sl86,sl87,sl88,sl89,sl90,sl91,sl92,sl93,sl94,sl95,sl96,sl97,sl98,sl99,sl100,sl101,sl102,sl103,sl104,sl105,sl106,sl107,sl108,sl109,sl110,sl111,sl112,sl113,sl114,sl115,sl116,sl117,sl118,sl119,sl120,sl121,sl122],[]⟩ W:=by
 simp only [Code.tl,Tryz.f29,Option.getD_some];have HV:=hide hV;have HVL:=hide hvl;obtain⟨i0,hi,hz0,hz1,hz2⟩:=info_parts Tryz.infoRNum;clear hV hvl;go_upto_block 0 with fail;go_cut [14,15] from 59 to 71 (fun r _ wc=>RowR wc r vs 18∧Below W.heap.size W wc)
 case first=>
  clear hT hX hL hA hM hF hbe;go_wp2_with fail;go_loopw [14,15] (fun r i wr=>∃(k:Nat) (ps:List (Rn × Int)),k≤n∧i=.int .i64 k∧Hid (GrowR wr W.heap.size r ps 5)∧Hid (ps.map (·.2)=vs.take k)∧Hid (Below W.heap.size W wr)) (fun _ i _=>n-(intOf i).toNat)
  case atStart=>exact⟨0,[],Nat.zero_le _,rfl,hide (GrowR.nil _ _ _),hide (by simp),hide (zB _ _)⟩
  case round=>
   obtain⟨k,ps,hk,rfl,HGR,HP,HBE⟩:=hrel;have HPL:Hid (ps.length=k):=by
    have:=congrArg List.length HP.out;rw [zM,List.length_take] at this;show ps.length=k;have h:=HVL.out;omega
   by_cases hkl:k<n
   ·have hkv:k<vs.length:=by have h:=HVL.out;omega
    have hrow:=HV.out.below HBE.out zL;obtain⟨ao,cap,e,-,h64,hcell⟩:=hrow;simp only [zV,true_and] at e;obtain⟨rfl,rfl⟩:=e;obtain⟨lb,loff,rfl,llt,hcell⟩:=hcell (by omega);have cz:=hcell k (by omega);obtain⟨z1,z2⟩:=h64 k;have HP':Hid (∀ r:Rn,(ps++[(r,vs.getD k 0)]).map (·.2)=vs.take (k+1)):=fun r=>by
     rw [List.map_append,HP.out,List.take_succ_eq_append_getElem hkv,zG,List.getElem?_eq_getElem hkv];rfl
    generalize vs.getD k 0=z at *;clear hcell h64 HP;go_wp2_with fail;refine(zad wr z z1 z2).mono ?_;rintro e w3 ⟨r,rfl,hr3,hb3⟩;obtain⟨rs,ro,rl,rc,rfl,-⟩:=hr3.form;have NA:Hid (NumR w3 (Rn.val ⟨rs,ro,rl,rc⟩) z 5):=hr3;have HG3:=hide (HGR.out.later hb3);have HB3:=hide (HBE.out.trans (hb3.mono HBE.out.size));have hown:=HG3.out.1;have hbs:=HB3.out.size;clear hr3 hb3 HGR HBE cz;go_wp2_with (at_builtin;refine wpList_append_lies _ rfl _ _ 106 rfl W.heap.size 40 i0 (.agg #[.int .i64 0,.slice none 0 0]) 2 32 (by kernel_rfl) hi hz0 hz1 hz2 rfl (by decide) u14 ps.length (ps.flatMap rcells) rfl (hown.alloc _) ⟨w3.heap.size,0,none⟩ 1 1 [.int .i64 rs,.slice ro rl rc] rfl rfl (World.news_of_block (heap_alloc_new w3 _)) (fun u hu=>by simp only [List.mem_cons,List.mem_nil_iff,or_false] at hu;rcases hu with rfl | rfl <;> rfl) (by decide) (by unfold maxLen;have:=HPL.out;omega) (by have:=HPL.out;omega) (by simp;omega) (w3.heap.size+1) (by simp) ?_);intro g cap' w5 hown5 hgrow5 hat5 hlt5;have HN:=hide (zaU HG3.out NA.out hown5 hgrow5);have HB5:=hide (HB3.out.trans (zP hown HB3.out.size hgrow5));have HP5:=hide (HP'.out ⟨rs,ro,rl,rc⟩);clear hown hown5 hgrow5 hat5 hlt5 HG3 NA HB3 HP';go_wp2;go_roundw
    case rel=>exact⟨k+1,_,by omega,by go_num,HN,HP5,HB5⟩
    case measure=>simp [intOf];omega
   ·obtain rfl:k=n:=by omega
    have HRR:=HGR.out.row;rw [HP.out,List.take_of_length_le (by have h:=HVL.out;omega)] at HRR;have HR2:=hide (HRR.mono (m:=18) (by decide));clear HRR HGR HP HPL;go_wp2_with fail;go_meet
    case rel=>exact⟨HR2.out,HBE.out⟩
 case rest=>
  obtain⟨hR,hb⟩:=hcut;apply_assumption;exact zjl w _ n B NK NB mo bo mc bc hs ks p vs kv _ is (hbe.trans (hb.mono hbe.size)) h1 h4 hF (hM.below hb zL) HVL.out hR (hT.later hb) (hX.later hb) (hL.below hb) hA _ _ _ _ _ _ _ _ _ _ _ _ _ _ _ _ _ _ _ _ _ _ _ _ _ _ _ _ _ _ _ _ _ _ _ _ _ _ _ _ _ _ _ _ _ _ _ _ _ _ _ _ _ _ _ _ _ _ _ _ _ _ _ _ _ _ _ _ _ _ _ _ _ _ _ _ _ _ _ _ _ _ _ _ _ _ _ _ _ _ _ _ _ _ _ _ _ _ _ _ _ _ _ _ _ _ _ _ _ _ _ _ _ _ _
theorem FS.put {deps:Nat→List Nat}{kv:Nat→Option Value}{Sp Sp':Nat→(Nat→Value)→World→Prop}{L:Array Bool}{c:Nat→Value}(h:FS deps kv Sp w L c W){i:Nat}(hn:L.getD i true=false)(hd:∀ j∈deps i,L.getD j false=true)(hB:Below w.heap.size w W'){v:Value}(hk:∀ u,kv i=some u→v=u)
  (hkeep:∀ j,j≠i→L.getD j false=true→Sp j c W→Sp' j (upd c i v) W') (hnew:Sp' i (upd c i v) W'):FS deps kv Sp' w (L.setIfInBounds i true) (upd c i v) W' where
 below:=hB
 plain:=fun j u hj hu=>by
  by_cases e:j=i
  ·subst e;rw [zc];exact hk u hu
  ·rw [zb _ _ e];exact h.plain j u (za (fun e'=>e e'.symm) hj) hu
 spec:=fun j hj=>by
  by_cases e:j=i
  ·subst e;exact hnew
  ·have hj':=za (fun e'=>e e'.symm) hj;exact hkeep j e hj' (h.spec j hj')
 closed:=fun j hj k hjk=>by
  by_cases ek:i=k
  ·subst ek;exact zaD hn
  ·rw [getD_set_ne false ek];by_cases e:j=i
   ·subst e;exact hd k hjk
   ·exact h.closed j (za (fun e'=>e e'.symm) hj) k hjk
def mbD:Nat→List Nat
 | 2=>[1]
 | 3=>[0,2]
 | 4=>[3]
 | 5=>[4]
 | 6=>[4]
 | 8=>[5,7]
 | 9=>[6]
 | _=>[]
def mbK (x v:Value):Nat→Option Value
 | 0=>some x
 | 1=>some v
 | _=>none
def mbS (vs:List Int)(Rg:World→Int→Option Addr→Nat→Nat→Value→Prop)(C:Nat)(b:Bool)(i:Nat)(c:Nat→Value)(W:World):Prop:=
 match i with
 | 2=>b=false→VecN W (c 2) vs 2
 | 3=>∃ x o l k e,c 3=.tuple #[.agg #[.int .i64 x,.slice o l k],e]∧Rg W x o l k e
 | 4=>c 4=c 3
 | 5=>∃ x o l k e,c 4=.tuple #[.agg #[.int .i64 x,.slice o l k],e]∧c 5=.agg #[.int .i64 x,.slice o l k]
 | 6=>∃ x e,c 4=.tuple #[x,e]∧c 6=e
 | 7=>∃ B,c 7=.pointer (some ⟨B,0,none⟩)∧C≤B∧(b=false→BoxL W B (.int .i64 0) (.slice none 0 0))
 | 8=>∃ B x o l k,c 7=.pointer (some ⟨B,0,none⟩)∧c 5=.agg #[.int .i64 x,.slice o l k]∧C≤B∧BoxL W B (.int .i64 x) (.slice o l k)
 | 9=>c 9=c 6
 | _=>True
theorem mbStays (vs:List Int)(Rg:World→Int→Option Addr→Nat→Nat→Value→Prop)(hRg:∀ W W' x o l k e,Below W.heap.size W W'→Rg W x o l k e→Rg W' x o l k e)(C:Nat)(b:Bool):Stays mbD (mbS vs Rg C b) where
 later:=fun i c W W' hb h=>by
  unfold mbS at h ⊢;split at h
  ·exact fun hf=>(h hf).below hb zL
  ·obtain⟨x,o,l,k,e,h1,h2⟩:=h;exact⟨x,o,l,k,e,h1,hRg _ _ _ _ _ _ _ hb h2⟩
  ·exact h
  ·exact h
  ·exact h
  ·obtain⟨B,h1,h2,h3⟩:=h;exact⟨B,h1,h2,fun hf=>(h3 hf).later hb⟩
  ·obtain⟨B,x,o,l,k,h1,h2,h3,h4⟩:=h;exact⟨B,x,o,l,k,h1,h2,h3,h4.later hb⟩
  ·exact h
  ·trivial
 other:=fun i j c v W hne hm h=>by
  unfold mbS at h ⊢;split at h
  ·rw [zb _ _ hne];exact h
  ·rw [zb _ _ hne];exact h
  ·simp [mbD] at hm;rw [zb _ _ hne,zb _ _ (fun e=>hm e.symm)];exact h
  ·simp [mbD] at hm;rw [zb _ _ hne,zb _ _ (fun e=>hm e.symm)];exact h
  ·simp [mbD] at hm;rw [zb _ _ hne,zb _ _ (fun e=>hm e.symm)];exact h
  ·rw [zb _ _ hne];exact h
  ·simp [mbD] at hm;rw [zb _ _ (fun e=>hm.1 e.symm),zb _ _ (fun e=>hm.2 e.symm)];exact h
  ·simp [mbD] at hm;rw [zb _ _ hne,zb _ _ (fun e=>hm e.symm)];exact h
  ·trivial
theorem zfr{Rg:World→Int→Option Addr→Nat→Nat→Value→Prop}{C:Nat}{kv:Nat→Option Value}{L:Array Bool}{c:Nat→Value}(R:FS mbD kv (mbS vs Rg C true) w L c W)(hall:∀ i,i<10→L.getD i false=true):
  ∃ B x o l k e,c 7=.pointer (some ⟨B,0,none⟩)∧c 9=e∧C≤B∧BoxL W B (.int .i64 x) (.slice o l k)∧Rg W x o l k e:=by
 obtain⟨x,o,l,k,e,e3,hR⟩:∃ x o l k e,c 3=.tuple #[.agg #[.int .i64 x,.slice o l k],e]∧Rg W x o l k e:=R.spec 3 (hall 3 (by decide));have e4:c 4=c 3:=R.spec 4 (hall 4 (by decide));obtain⟨x',o',l',k',e',e5,e5'⟩:∃ x o l k e,c 4=.tuple #[.agg #[.int .i64 x,.slice o l k],e]∧c 5=.agg #[.int .i64 x,.slice o l k]:=R.spec 5 (hall 5 (by decide));obtain⟨y,f,e6,e6'⟩:∃ x e,c 4=.tuple #[x,e]∧c 6=e:=R.spec 6 (hall 6 (by decide));obtain⟨B,x8,o8,l8,k8,e8,e8',h1,h2⟩:∃ B x o l k,c 7=.pointer (some ⟨B,0,none⟩)∧c 5=.agg #[.int .i64 x,.slice o l k]∧C≤B∧BoxL W B (.int .i64 x) (.slice o l k):=R.spec 8 (hall 8 (by decide));have e9:c 9=c 6:=R.spec 9 (hall 9 (by decide));rw [e4,e3] at e5 e6;rw [e5'] at e8';simp only [Value.tuple.injEq,Array.mk.injEq,List.cons.injEq,Value.agg.injEq,Value.int.injEq,zV,and_true,true_and] at e5 e6 e8';obtain⟨⟨rfl,rfl,rfl,rfl⟩,rfl⟩:=e5;obtain⟨-,rfl⟩:=e6;obtain⟨rfl,rfl,rfl,rfl⟩:=e8';exact⟨B,_,_,_,_,_,e8,e9.trans e6',h1,h2,hR⟩
end Go.Proofs.YtdedolkgcdlmeaaGreatDoor
