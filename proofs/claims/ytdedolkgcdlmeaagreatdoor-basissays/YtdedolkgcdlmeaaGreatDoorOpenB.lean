import Derived.Test.YtdedolkgcdlmeaaGreatDoorLatL
import Derived.Test.YtdedolkgcdlmeaaGreatDoorBsB
set_option maxRecDepth 100000
set_option maxHeartbeats 6400000
set_option linter.unusedSimpArgs false
namespace Go.Proofs.YtdedolkgcdlmeaaGreatDoor
open Go.RowKit Limbs Digs
theorem txtTwoL:txt 2=[50]:=by
 unfold txt Lib.itoa;rw [if_neg (by decide),show(2:Int).toNat=2 from rfl,Lib.decDigits,dif_pos (by decide)];rfl
theorem txtOneL:txt 1=[49]:=by
 unfold txt Lib.itoa;rw [if_neg (by decide),show(1:Int).toNat=1 from rfl,Lib.decDigits,dif_pos (by decide)];rfl
theorem text21L:vtxt [2,1]=[40,50,32,49,41]:=by
 unfold vtxt;rw [List.map_cons,List.map_cons,List.map_nil,txtTwoL,txtOneL];rfl
theorem zcO:FormL 2 [[2,0],[0,3]] (fun k=>k):=by
 have two:∀ i:Nat,i<[[(2:Int),0],[0,3]].length→i=0∨i=1:=fun i hi=>by
  simp only [List.length_cons,List.length_nil] at hi;omega
 refine⟨fun r hr=>?_,⟨fun i k hik _=>hik,fun i hi=>?_,fun i b hi hb=>?_,fun i hi=>?_,fun i k hik hk=>?_⟩⟩
 ·simp only [List.mem_cons,List.mem_nil_iff,or_false] at hr;rcases hr with rfl | rfl <;> rfl
 ·rcases two i hi with rfl | rfl <;> decide
 ·rcases two i hi with rfl | rfl
  ·exact absurd hb (Nat.not_lt_zero b)
  ·obtain rfl:b=0:=by omega
   rfl
 ·rcases two i hi with rfl | rfl <;> decide
 ·rcases two k hk with rfl | rfl
  ·exact absurd hik (Nat.not_lt_zero i)
  ·obtain rfl:i=0:=by omega
   decide
theorem zjL:Gens 2 (InL [[2,0],[0,3]]) [4,3]:=by
 refine(zca zcO.len rfl).1 ((zha zcO rfl).2 ⟨fun k hk=>?_,by decide⟩);simp only [List.length_cons,List.length_nil] at hk;rcases(by omega:k=0∨k=1) with rfl | rfl <;> decide
theorem zkC:muchL [[2,0],[0,3]] (fun k=>k) [4,3]=[2,1]:=by decide
theorem zec (W:World)(x y:Int)(hx:-9223372036854775808≤x∧x≤9223372036854775807)(hy:-9223372036854775808≤y∧y≤9223372036854775807):RowS (W.alloc (.cells #[.int .i64 x,.int .i64 y] 3)) (.slice (some ⟨W.heap.size,0,none⟩) 2 2) [x,y]:=by
 refine⟨_,_,rfl,Nat.le_refl _,fun i=>?_,fun _=>⟨_,_,rfl,by simp,fun i hi=>?_⟩⟩
 ·match i with
  | 0=>exact hx
  | 1=>exact hy
  | i+2=>simp
 ·match i,hi with
  | 0,_=>rw [World.cell?_alloc_new];rfl
  | 1,_=>rw [World.cell?_alloc_new];rfl
theorem zlj (w:World):RowsS (((w.alloc (.cells #[.int .i64 2,.int .i64 0] 3)).alloc (.cells #[.int .i64 0,.int .i64 3] 3)).alloc (.cells #[.slice (some ⟨w.heap.size,0,none⟩) 2 2,.slice (some ⟨w.heap.size+1,0,none⟩) 2 2] 38)) (.slice (some ⟨w.heap.size+2,0,none⟩) 2 2) [[2,0],[0,3]]:=by
 have e1:(w.alloc (.cells #[.int .i64 2,.int .i64 0] 3)).heap.size=w.heap.size+1:=by simp
 have e2:((w.alloc (.cells #[.int .i64 2,.int .i64 0] 3)).alloc (.cells #[.int .i64 0,.int .i64 3] 3)).heap.size=w.heap.size+2:=by simp
 have r1:=zec w 2 0 (by decide) (by decide);have r2:=zec (w.alloc (.cells #[.int .i64 2,.int .i64 0] 3)) 0 3 (by decide) (by decide);rw [e1] at r2;have b2:Below (w.alloc (.cells #[.int .i64 2,.int .i64 0] 3)).heap.size (w.alloc (.cells #[.int .i64 2,.int .i64 0] 3)) ((w.alloc (.cells #[.int .i64 2,.int .i64 0] 3)).alloc (.cells #[.int .i64 0,.int .i64 3] 3)):=(zB _ _).alloc zL _;have b3:Below ((w.alloc (.cells #[.int .i64 2,.int .i64 0] 3)).alloc (.cells #[.int .i64 0,.int .i64 3] 3)).heap.size ((w.alloc (.cells #[.int .i64 2,.int .i64 0] 3)).alloc (.cells #[.int .i64 0,.int .i64 3] 3)) (((w.alloc (.cells #[.int .i64 2,.int .i64 0] 3)).alloc (.cells #[.int .i64 0,.int .i64 3] 3)).alloc (.cells #[.slice (some ⟨w.heap.size,0,none⟩) 2 2,.slice (some ⟨w.heap.size+1,0,none⟩) 2 2] 38)):=(zB _ _).alloc zL _;refine⟨_,_,rfl,Nat.le_refl _,fun _=>⟨_,_,rfl,by simp,fun i r hi=>?_⟩⟩
 match i,hi with
 | 0,hi=>
  obtain rfl:=zI hi;refine⟨.slice (some ⟨w.heap.size,0,none⟩) 2 2,?_,(r1.below b2 zL).below b3 zL⟩;rw [← e2,World.cell?_alloc_new];rfl
 | 1,hi=>
  obtain rfl:=zI hi;refine⟨.slice (some ⟨w.heap.size+1,0,none⟩) 2 2,?_,r2.below b3 zL⟩;rw [← e2,World.cell?_alloc_new];rfl
theorem zj3 (w:World)(ht:Tab w):Calls Tryz.prog 21 #[] w fun e w'=>e=.returned (.bool true)∧Below w.heap.size w w':=by
 have HT:=hide ht;have HRW:=hide (zlj w);have HB3:Hid (Below w.heap.size w (((w.alloc (.cells #[.int .i64 2,.int .i64 0] 3)).alloc (.cells #[.int .i64 0,.int .i64 3] 3)).alloc (.cells #[.slice (some ⟨w.heap.size,0,none⟩) 2 2,.slice (some ⟨w.heap.size+1,0,none⟩) 2 2] 38))):=(((zB w.heap.size w).alloc zL _).alloc (by simp) _).alloc (by simp;omega) _;clear ht;go_enter Tryz.func21,Tryz.ntmps21;go_wp2_with fail;generalize (((w.alloc (.cells #[.int .i64 2,.int .i64 0] 3)).alloc (.cells #[.int .i64 0,.int .i64 3] 3)).alloc (.cells #[.slice (some ⟨w.heap.size,0,none⟩) 2 2,.slice (some ⟨w.heap.size+1,0,none⟩) 2 2] 38))=W3 at *;refine(zkq W3 2 _ _ [[2,0],[0,3]] (by exact HRW.out)).mono ?_;rintro e w4 ⟨hb4,hcase⟩;rcases hcase with⟨hno,-⟩ |⟨-,u,m,hs,rfl,hL,hA,-⟩
 ·exact absurd hno (by decide)
 obtain⟨⟨u',eu,hm⟩,p,hF⟩:=hL;simp only [Value.agg.injEq,Array.mk.injEq,List.cons.injEq,and_true] at eu;obtain⟨-,rfl⟩:=eu;obtain rfl:hs=[[2,0],[0,3]]:=zcN hF zcO hA;obtain⟨uo,uc,rfl,-,-⟩:=id hm;have hN4:=(zB w4.heap.size w4).alloc zL (.cells #[.int .i64 2,.slice uo 2 uc] 55);have HMB:Hid (MatN (w4.alloc (.cells #[.int .i64 2,.slice uo 2 uc] 55)) (.slice uo 2 uc) [[2,0],[0,3]] 6):=hm.below hN4 zL;have HX4:=hide (zg w4 (.int .i64 2) (.slice uo 2 uc) 55 _ rfl);have HLB:Hid (w4.heap.size<(w4.alloc (.cells #[.int .i64 2,.slice uo 2 uc] 55)).heap.size):=by show _<_;simp
 have HB5:=hide (HB3.out.trans ((hb4.trans (hN4.mono hb4.size)).mono HB3.out.size));clear hb4 hF hA hm hN4;try rw [show([[2,0],[0,3]]:List (List Int)).length=2 from rfl]
 obtain⟨c0,c1,-,-⟩:=HX4.out;go_wp2_with fail;generalize (w4.alloc (.cells #[.int .i64 2,.slice uo 2 uc] 55))=W5 at *;generalize w4.heap.size=B at *;refine zew (A:=fun _=>true) (S:=(fun w'=>w'.cell? ⟨B,0,none⟩=some (.int .i64 2)∧w'.cell? ⟨B,1,none⟩=some (.slice uo 2 uc))) (by kernel_rfl) (by exact⟨c0,c1⟩) (fun hHeld=>?_);refine zas 0 19 [] ?_;try simp only [zA]
 refine zaK 1 (by kernel_rfl) rfl (fun K hK=>?_);go_simp;have hbA:Below W5.heap.size W5 (W5.drew.alloc (.cells #[.int .i64 4,.int .i64 3] 3)):=(zB _ _).drew.alloc zL _;have d0:=(hbA.cell (p:=⟨B,0,none⟩) HLB.out).trans c0;have d1:=(hbA.cell (p:=⟨B,1,none⟩) HLB.out).trans c1;have HRS:=hide (zec W5.drew 4 3 (by decide) (by decide));have HBA:=hide hbA;refine hK.out _ _ (fun _=>⟨d0,d1⟩) ?_;clear hK K hHeld hbA;try simp only [zA]
 refine zaK 2 (by kernel_rfl) rfl (fun K hK=>?_);go_simp;refine(zgm _ _ [4,3] (by exact HRS.out) (by decide)).mono ?_;rintro e w6 ⟨P6,rfl,ho6⟩;have HB6:=hide (HBA.out.trans (ho6.below.mono HBA.out.size));have HV6:=hide ho6.vec;have e0:=(HB6.out.cell (p:=⟨B,0,none⟩) HLB.out).trans c0;have e1:=(HB6.out.cell (p:=⟨B,1,none⟩) HLB.out).trans c1;clear ho6;go_wp2_with fail;refine hK.out _ _ (fun _=>⟨e0,e1⟩) ?_;clear hK K;try simp only [zA]
 refine zaK 3 (by kernel_rfl) rfl (fun K hK=>?_);go_simp;refine(zf9 w6 _ _ 2 6 2 [[2,0],[0,3]] (fun k=>k) [4,3] ⟨_,rfl,HMB.out.below HB6.out zL⟩ zcO (by exact HV6.out) rfl (by decide) (by decide) (by decide)).mono ?_;rintro e w7 ⟨hb7,hcase⟩;rcases hcase with⟨-,P7,rfl,ho7⟩ |⟨hno,-⟩
 rotate_left
 ·exact absurd zjL hno
 have HB7:=hide (HB6.out.trans (hb7.mono HB6.out.size));have HV7:=hide ho7.vec;rw [zkC] at HV7;have f0:=(HB7.out.cell (p:=⟨B,0,none⟩) HLB.out).trans c0;have f1:=(HB7.out.cell (p:=⟨B,1,none⟩) HLB.out).trans c1;clear hb7 ho7;go_wp2_with fail;refine hK.out _ _ (fun _=>⟨f0,f1⟩) ?_;clear hK K;try simp only [zA]
 have hHeld2:(fun w'=>w'.cell? ⟨B,0,none⟩=some (.int .i64 2)∧w'.cell? ⟨B,1,none⟩=some (.slice uo 2 uc)) w7:=⟨f0,f1⟩;refine zas 4 18 [] ?_;try simp only [zA]
 refine zas 5 23 [] ?_;try simp only [zA]
 refine zas 6 24 [] ?_;try simp only [zA]
 refine zas 7 25 [] ?_;try simp only [zA]
 refine zas 8 4 [] ?_;try simp only [zA]
 refine zas 9 5 [] ?_;try simp only [zA]
 refine zas 10 6 [] ?_;try simp only [zA]
 refine zev (by kernel_rfl) ?_;clear hHeld2 c0 c1 d0 d1 e0 e1 f0 f1 HRS HV6;have HTX:Hid (Calls Tryz.prog 50 #[.slice (some ⟨P7,0,none⟩) 2 2] w7 fun e w'=>e=.returned (.string ⟨#[40,50,32,49,41]⟩)∧Below w7.heap.size w7 w'):=by
  have:=zmy w7 _ [2,1] _ ((HT.out.below HB5.out).below HB7.out) HV7.out (by decide) (by decide) (by decide) (by
   rw [List.map_cons,List.map_cons,List.map_nil,txtTwoL,txtOneL];decide)
  rw [text21L] at this;exact this
 go_wp2_with fail;refine(zg4 w7).mono ?_;rintro e w7' ⟨rfl,rfl⟩;go_wp2_with fail;refine HTX.out.mono ?_;rintro e w8 ⟨rfl,hb8⟩;have HB8:=hide ((HB5.out.trans (HB7.out.mono HB5.out.size)).trans (hb8.mono (HB5.out.trans (HB7.out.mono HB5.out.size)).size));clear hb8 HTX HV7;go_wp2;go_ret;exact⟨rfl,HB8.out⟩
theorem zhV (w:World)(ht:Tab w)(ua ub x:Value)(Na Nb:Int){ra rb:List (List Raw)}{rs:List Raw}(hA:MatC w ua ra)(hB:MatC w ub rb)(hX:VecC w x rs):
  Calls Tryz.prog 6 #[.agg #[.int .i64 Na,ua],.agg #[.int .i64 Nb,ub],x] w fun e w'=>e=.returned (.bool true)∧Below w.heap.size w w':=by
 have HT:=hide ht;have HA:=hide hA;have HBB:=hide hB;have HX:=hide hX;obtain⟨ao,acap,rfl,-,-,-⟩:=hA;obtain⟨bo,bcap,rfl,-,-,-⟩:=hB;obtain⟨xo,xcap,rfl,-⟩:=hX;clear ht;have YA:=hide ((BoxL.new w (.int .i64 Na) (.slice ao ra.length acap) 55).later (zbm _ (.cells #[.int .i64 Nb,.slice bo rb.length bcap] 55)));have YB:=hide (BoxL.new (w.alloc (.cells #[.int .i64 Na,.slice ao ra.length acap] 55)) (.int .i64 Nb) (.slice bo rb.length bcap) 55);have HB:=hide (((zB w.heap.size w).alloc zL (.cells #[.int .i64 Na,.slice ao ra.length acap] 55)).alloc (by simp) (.cells #[.int .i64 Nb,.slice bo rb.length bcap] 55));have HS1:Hid ((w.alloc (.cells #[.int .i64 Na,.slice ao ra.length acap] 55)).heap.size=w.heap.size+1):=by show _=_;simp
 rw [HS1.out] at YB;clear HS1;go_enter Tryz.func6,Tryz.ntmps6;go_wp2_with fail;generalize ((w.alloc (.cells #[.int .i64 Na,.slice ao ra.length acap] 55)).alloc (.cells #[.int .i64 Nb,.slice bo rb.length bcap] 55))=W0 at *;refine(zj3 W0 (HT.out.below HB.out)).mono ?_;rintro e w1 ⟨rfl,hb1⟩;replace HB:=hide (HB.out.trans (hb1.mono HB.out.size));replace YA:=hide (YA.out.later hb1);replace YB:=hide (YB.out.later hb1);clear hb1;obtain⟨a0,a1,-,-⟩:=YA.out.1;obtain⟨b0,b1,-,-⟩:=YB.out.1;have HL1:=hide (zfU w1 _ ra 20 (HA.out.below HB.out) (lightM ra 20) rfl);have HL2:=hide (zfU w1 _ rb 20 (HBB.out.below HB.out) (lightM rb 20) rfl);have HL3:=hide (zfW w1 _ rs (HX.out.below HB.out) (lightV rs) rfl);cases hl1:lightM ra 20
 ·rw [hl1] at HL1;clear hl1;go_wp2_with fail;refine HL1.out.mono ?_;rintro e w1' ⟨rfl,rfl⟩;go_wp2;go_ret;exact⟨rfl,HB.out⟩
 rw [hl1] at HL1;cases hl2:lightM rb 20
 ·rw [hl2] at HL2;clear hl1 hl2;go_wp2_with fail;refine HL1.out.mono ?_;rintro e w1' ⟨rfl,rfl⟩;go_wp2_with fail;refine HL2.out.mono ?_;rintro e w1'' ⟨rfl,rfl⟩;go_wp2;go_ret;exact⟨rfl,HB.out⟩
 rw [hl2] at HL2;cases hl3:lightV rs
 ·rw [hl3] at HL3;clear hl1 hl2 hl3;go_wp2_with fail;refine HL1.out.mono ?_;rintro e w1' ⟨rfl,rfl⟩;go_wp2_with fail;refine HL2.out.mono ?_;rintro e w1'' ⟨rfl,rfl⟩;go_wp2_with fail;refine HL3.out.mono ?_;rintro e w1c ⟨rfl,rfl⟩;go_wp2;go_ret;exact⟨rfl,HB.out⟩
 rw [hl3] at HL3;obtain⟨-,hla⟩:=zfV hl1;obtain⟨-,hlb⟩:=zfV hl2;have hlx:=hl3;have hrl:rs.length≤1000000:=by
  have h:=hl3;unfold lightV at h;rw [Bool.and_eq_true] at h;have:=of_decide_eq_true h.1;omega
 have HML:=hide (HA.out.light hla);have HMLB:=hide (HBB.out.light hlb);have HXL:=hide (HX.out.light (fun r hr=>Nat.le_trans (zaH hlx r hr) (by decide)));obtain⟨ca,hba⟩:=BF.is Na ra;obtain⟨cb,hbb⟩:=BF.is Nb rb;clear hl1 hl2;have HL3':=HL3;have HLX:=hide hlx;clear hl3 HL3;clear hlx;go_wp2_with fail;refine HL1.out.mono ?_;rintro e w1' ⟨rfl,rfl⟩;go_wp2_with fail;refine HL2.out.mono ?_;rintro e w1'' ⟨rfl,rfl⟩;go_wp2_with fail;refine HL3'.out.mono ?_;rintro e w1c ⟨rfl,rfl⟩;have hlx:=HLX.out;clear HL1 HL2 HL3';go_wp2_with fail;refine(zeT _ _ Na ra ca (HML.out.below HB.out zL) hla hba).mono ?_;rintro e w4 ⟨rfl,hb4⟩;clear a0 a1 b0 b1;replace HB:=hide (HB.out.trans (hb4.mono HB.out.size));replace YA:=hide (YA.out.later hb4);replace YB:=hide (YB.out.later hb4);clear hb4;obtain⟨a0,a1,-,-⟩:=YA.out.1;obtain⟨b0,b1,-,-⟩:=YB.out.1;go_wp2_with fail;refine(zeT _ _ Nb rb cb (HMLB.out.below HB.out zL) hlb hbb).mono ?_;rintro e w5 ⟨rfl,hb5⟩;clear a0 a1 b0 b1;replace HB:=hide (HB.out.trans (hb5.mono HB.out.size));replace YA:=hide (YA.out.later hb5);replace YB:=hide (YB.out.later hb5);clear hb5;obtain⟨a0,a1,-,-⟩:=YA.out.1;obtain⟨b0,b1,-,-⟩:=YB.out.1;have HLX':=HLX;clear HLX hlx;by_cases h1:ca=0
 ·have g1:(ca==0)=true:=by rw [beq_iff_eq];exact h1
  by_cases h2:cb=0
  ·have g2:(cb==0)=true:=by rw [beq_iff_eq];exact h2
   by_cases h3:Na=Nb
   ·have HFE:Hid (bothC ca cb Na Nb=cb):=by show _=_;unfold bothC;rw [if_neg (fun h=>h h1),if_neg (fun h=>h h2),if_neg (fun h=>h h3),h2]
    have g3:(Na != Nb)=false:=by rw [bne_eq_false_iff_eq];exact h3
    have g4:(Na==Nb)=true:=by rw [beq_iff_eq];exact h3
    have hlx:=HLX'.out;clear h1 h2 h3;go_upto_if 65 with fail;go_cut [10] from 57 (fun v wc=>v=.int .i64 (bothC ca cb Na Nb)∧wc=w5)
    case first=>
     go_wp2;go_meet
     case rel=>exact⟨by rw [HFE.out],rfl⟩
    case rest=>
     obtain⟨rfl,rfl⟩:=hcut;apply_assumption;exact zcy w _ xo ao bo xcap acap bcap _ _ Na Nb ca cb _ ra rb rs HB.out HXL.out hlx hrl HML.out hla hba YA.out HMLB.out hlb hbb rfl YB.out _ _ _ _ _ _ _ _ _ _ _ _ _ _ _ _ _ _ _ _ _ _ _ _ _ _ _ _ _ _ _ _ _ _ _ _ _ _ _ _ _ _ _ _ _ _ _ _ _ _ _ _ _ _ _ _ _ _ _ _ _ _ _ _ _ _ _ _ _ _ _ _ _ _ _ _ _ _ _ _ _ _ _ _ _ _ _ _ _ _ _ _ _ _ _ _ _ _ _ _ _ _ _ _ _ _ _ _ _ _ _ _ _ _ _ _ _ _ _ _ _ _ _ _ _ _ _ _ _ _ _ _ _ _ _ _ _ _ _ _ _ _ _ _ _ _ _ _ _ _ _ _ _ _ _ _ _ _ _ _ _ _ _ _ _ _ _ _ _ _ _
   ·have HFE:Hid (bothC ca cb Na Nb=6):=by show _=_;unfold bothC;rw [if_neg (fun h=>h h1),if_neg (fun h=>h h2),if_pos h3]
    have g3:(Na != Nb)=true:=by rw [bne_iff_ne];exact h3
    have g4:(Na==Nb)=false:=beq_eq_false_iff_ne.2 h3;have hlx:=HLX'.out;clear h1 h2;go_upto_if 65 with fail;go_cut [10] from 57 (fun v wc=>v=.int .i64 (bothC ca cb Na Nb)∧wc=w5)
    case first=>
     go_wp2;go_meet
     case rel=>exact⟨by rw [HFE.out],rfl⟩
    case rest=>
     obtain⟨rfl,rfl⟩:=hcut;apply_assumption;exact zcy w _ xo ao bo xcap acap bcap _ _ Na Nb ca cb _ ra rb rs HB.out HXL.out hlx hrl HML.out hla hba YA.out HMLB.out hlb hbb rfl YB.out _ _ _ _ _ _ _ _ _ _ _ _ _ _ _ _ _ _ _ _ _ _ _ _ _ _ _ _ _ _ _ _ _ _ _ _ _ _ _ _ _ _ _ _ _ _ _ _ _ _ _ _ _ _ _ _ _ _ _ _ _ _ _ _ _ _ _ _ _ _ _ _ _ _ _ _ _ _ _ _ _ _ _ _ _ _ _ _ _ _ _ _ _ _ _ _ _ _ _ _ _ _ _ _ _ _ _ _ _ _ _ _ _ _ _ _ _ _ _ _ _ _ _ _ _ _ _ _ _ _ _ _ _ _ _ _ _ _ _ _ _ _ _ _ _ _ _ _ _ _ _ _ _ _ _ _ _ _ _ _ _ _ _ _ _ _ _ _ _ _ _
  ·have HFE:Hid (bothC ca cb Na Nb=cb):=by show _=_;unfold bothC;rw [if_neg (fun h=>h h1),if_pos h2]
   have g2:(cb==0)=false:=beq_eq_false_iff_ne.2 h2;have hlx:=HLX'.out;clear h1;go_upto_if 65 with fail;go_cut [10] from 57 (fun v wc=>v=.int .i64 (bothC ca cb Na Nb)∧wc=w5)
   case first=>
    go_wp2;go_meet
    case rel=>exact⟨by rw [HFE.out],rfl⟩
   case rest=>
    obtain⟨rfl,rfl⟩:=hcut;apply_assumption;exact zcy w _ xo ao bo xcap acap bcap _ _ Na Nb ca cb _ ra rb rs HB.out HXL.out hlx hrl HML.out hla hba YA.out HMLB.out hlb hbb rfl YB.out _ _ _ _ _ _ _ _ _ _ _ _ _ _ _ _ _ _ _ _ _ _ _ _ _ _ _ _ _ _ _ _ _ _ _ _ _ _ _ _ _ _ _ _ _ _ _ _ _ _ _ _ _ _ _ _ _ _ _ _ _ _ _ _ _ _ _ _ _ _ _ _ _ _ _ _ _ _ _ _ _ _ _ _ _ _ _ _ _ _ _ _ _ _ _ _ _ _ _ _ _ _ _ _ _ _ _ _ _ _ _ _ _ _ _ _ _ _ _ _ _ _ _ _ _ _ _ _ _ _ _ _ _ _ _ _ _ _ _ _ _ _ _ _ _ _ _ _ _ _ _ _ _ _ _ _ _ _ _ _ _ _ _ _ _ _ _ _ _ _ _
 ·have HFE:Hid (bothC ca cb Na Nb=ca):=by show _=_;unfold bothC;rw [if_pos h1]
  have g1:(ca==0)=false:=beq_eq_false_iff_ne.2 h1;have hlx:=HLX'.out;go_upto_if 65 with fail;go_cut [10] from 57 (fun v wc=>v=.int .i64 (bothC ca cb Na Nb)∧wc=w5)
  case first=>
   go_wp2;go_meet
   case rel=>exact⟨by rw [HFE.out],rfl⟩
  case rest=>
   obtain⟨rfl,rfl⟩:=hcut;apply_assumption;exact zcy w _ xo ao bo xcap acap bcap _ _ Na Nb ca cb _ ra rb rs HB.out HXL.out hlx hrl HML.out hla hba YA.out HMLB.out hlb hbb rfl YB.out _ _ _ _ _ _ _ _ _ _ _ _ _ _ _ _ _ _ _ _ _ _ _ _ _ _ _ _ _ _ _ _ _ _ _ _ _ _ _ _ _ _ _ _ _ _ _ _ _ _ _ _ _ _ _ _ _ _ _ _ _ _ _ _ _ _ _ _ _ _ _ _ _ _ _ _ _ _ _ _ _ _ _ _ _ _ _ _ _ _ _ _ _ _ _ _ _ _ _ _ _ _ _ _ _ _ _ _ _ _ _ _ _ _ _ _ _ _ _ _ _ _ _ _ _ _ _ _ _ _ _ _ _ _ _ _ _ _ _ _ _ _ _ _ _ _ _ _ _ _ _ _ _ _ _ _ _ _ _ _ _ _ _ _ _ _ _ _ _ _ _
open Go.ChangeShapes Go.WideShapes Go.ChangeAt Go.Joins
theorem Tryz.cellsBasisB:Tryz.prog.cellsOf 55=2:=by kernel_rfl
theorem zgq {H:Type}{enc:TypeId × Value→H}{W:World}{r:Reach}{b0:Nat}{v:Value}{d:DataW H}{p:List MemPlace}
  (hv:Value.okWide Tryz.prog W r b0 55 v) (h:DataW.Trod enc Tryz.prog W 0 (fun _=>true) true 55 v d p):
  ∃ nI u rss,v=.agg #[.int .i64 nI,u]∧MatC W u rss:=by
 obtain⟨c0,c1,y0,y1,m,rfl,rfl,rfl,hy0,hy1⟩:=open_agg2 Tryz.underlying55 (by kernel_rfl) Tryz.cellsBasisB hv h;obtain⟨nI,e0,-,-⟩:=DataW.trod_int Tryz.underlying3 hy0;simp only [List.cons.injEq,and_true] at e0;subst e0;rcases Go.Deep.open_slice1 Tryz.underlying23 Tryz.cellsVec hy1 with⟨hcs,_⟩ |⟨a,l,c,m,n,V,D,Pl,hcs,_,hl,hm,hmm,_,hc⟩
 ·simp only [List.cons.injEq,and_true] at hcs;subst hcs;exact⟨nI,_,[],rfl,none,0,rfl,by simp,by simp,fun h=>absurd h (by simp)⟩
 ·simp only [List.cons.injEq,and_true] at hcs;subst hcs;have hm':l≤m:=by simp at hmm;omega
  have each:∀ i,i<l→∃ rs:List Raw,VecC W (V i) rs:=fun i hi=>zkV (hc i (by omega)).2;obtain⟨q,hq⟩:=Go.Deep.choose_lt each;have hlen:((List.range l).map q).length=l:=by simp
  refine⟨nI,_,(List.range l).map q,rfl,some a,c,by rw [hlen],by rw [hlen];exact hl,by rw [hlen];unfold maxLen at hm;omega,fun h0=>?_⟩;rw [hlen] at h0;obtain⟨k0,-⟩:=hc 0 (by omega);obtain⟨blk,off,spot⟩:=a;have hsp:spot=none:=by simpa [Addr.add] using World.cell?_spot k0
  subst hsp;refine⟨blk,off,rfl,by simpa [Addr.add] using World.block_lt_of_cell? W _ k0,fun i rs hi=>?_⟩;obtain⟨hi',e⟩:=List.getElem?_eq_some_iff.1 hi;rw [hlen] at hi';have e':rs=q i:=by simpa using e.symm
  obtain⟨c0,-⟩:=hc i (by omega);rw [Go.WideShapes.add_plain] at c0;rw [e'];exact⟨_,c0,hq i hi'⟩
end Go.Proofs.YtdedolkgcdlmeaaGreatDoor
