import Derived.Test.YtdedolkgcdlmeaaGreatDoorLatK
set_option maxRecDepth 100000
set_option maxHeartbeats 4000000
namespace Go.Proofs.YtdedolkgcdlmeaaGreatDoor
open Go.RowKit Limbs Digs
theorem nb6:∀ n,n<5→nbK n (n*6+2) 6 n≤100000:=by decide
theorem zi7 (w:World)(n:Nat)(go:Option Addr)(gcap:Nat)(rs:List (List Int))(hv:RowsS w (.slice go rs.length gcap) rs)(h1:1≤n)(h4:n≤4)(h8:rs.length≤8):
  Calls Tryz.prog 22 #[.agg #[.int .i64 (n:Int),.slice go rs.length gcap]] w fun e w'=>MadePostR w n rs e w':=by
 obtain⟨i0,hi,hz0,hz1,hz2⟩:=info_parts Tryz.infoRNum;obtain⟨j0,hj,hy0,hy1,hy2⟩:=info_parts Tryz.infoRRow;have HI0:=hide hi;have HZ0:=hide hz0;have HZ1:=hide hz1;have HZ2:=hide hz2;have HJ:=hide hj;have HY0:=hide hy0;have HY1:=hide hy1;have HY2:=hide hy2;clear hi hz0 hz1 hz2 hj hy0 hy1 hy2;have hNB:=nb6 n (by omega);have HV:=hide hv;have HX:=hide (z8 w (.int .i64 (n:Int)) (.slice go rs.length gcap) (.int .i64 0) (.slice none 0 0) 53 55);obtain⟨⟨c0,c1,z0,z1⟩,⟨d0,d1,y0,y1⟩,-,-⟩:=HX.out;have HBT:Hid (∃ cs,((w.alloc (.cells #[.int .i64 (n:Int),.slice go rs.length gcap] 53)).alloc (.cells #[.int .i64 0,.slice none 0 0] 55)).heap[w.heap.size+1]?=some (.cells cs 55 (0,0))):=by
  have h:=heap_alloc_new (w.alloc (.cells #[.int .i64 (n:Int),.slice go rs.length gcap] 53)) (.cells #[.int .i64 0,.slice none 0 0] 55);have e:(w.alloc (.cells #[.int .i64 (n:Int),.slice go rs.length gcap] 53)).heap.size=w.heap.size+1:=by simp
  rw [e] at h;exact⟨_,h⟩
 have g1:decide ((n:Int)<1)=false:=decide_eq_false (by omega);have g2:decide (4<(n:Int))=false:=decide_eq_false (by omega);have g3:decide (8<(rs.length:Int))=false:=decide_eq_false (by omega);clear hv;go_enter Tryz.func22,Tryz.ntmps22;go_wp2_with fail;clear c0 c1 z0 z1 d0 d1 y0 y1 g1 g2 g3;generalize ((w.alloc (.cells #[.int .i64 (n:Int),.slice go rs.length gcap] 53)).alloc (.cells #[.int .i64 0,.slice none 0 0] 55))=WA at *;refine(zjt WA n 6 h1 h4).mono ?_;rintro e W0 ⟨rfl,-,hb⟩;have HG0:=hide (HX.out.1.later hb (by have:=HX.out.2.2.2;omega));have HR0:=hide (HX.out.2.1.later hb HX.out.2.2.2);have HB0T:Hid (∃ cs,W0.heap[w.heap.size+1]?=some (.cells cs 55 (0,0))):=by
  obtain⟨cs,h⟩:=HBT.out;exact⟨cs,(hb.block _ HX.out.2.2.2).trans h⟩
 have HGL:=hide (zT HX.out.2.2.2 hb.size);have HW0:=hide (HX.out.2.2.1.trans (hb.mono HX.out.2.2.1.size));have HS:=hide (MadeI.start (W0:=W0) n rs);obtain⟨c0,c1,z0,z1⟩:=HG0.out.later HS.out.below (by have:=HGL.out;omega);clear hb HX HBT;go_wp2;clear c0 c1 z0 z1;generalize (W0.alloc (.cells #[.int .i64 (n:Int),.slice none 0 0] 55))=WB at *;go_loopw [5,7,8] (fun m err i wr=>∃(k:Nat) (qs:List (Value × List Int)) (u:Value) (hs:List (List Int)),k≤rs.length∧i=.int .i64 k∧err=.nilIface∧Hid (MadeI W0 wr n rs k k m qs u hs)) (fun _ _ i _=>rs.length-(intOf i).toNat)
 case atStart=>exact⟨0,[],_,[],Nat.zero_le _,rfl,rfl,HS⟩
 case round=>
  clear HS;obtain⟨k,qs,u,hs,hk,rfl,rfl,HI⟩:=hrel;obtain⟨uo,uc,rfl,-,-⟩:=HI.out.mat;have HBW:=hide (HW0.out.trans (HI.out.below.mono HW0.out.size));obtain⟨c0,c1,z0,z1⟩:=HG0.out.later HI.out.below (by have:=HGL.out;omega);by_cases hkl:k<rs.length
  ·obtain⟨b,off,_,e,hlt,x,cuw,hxw⟩:=HV.out.at k hkl;simp only [zV,true_and] at e;obtain⟨rfl,rfl⟩:=e;have HXW:=hide hxw;have HMEM:=hide (List.getElem_mem hkl);have HRK:Hid (rs[k]?=some rs[k]):=List.getElem?_eq_getElem hkl;obtain⟨xo,xcap,rfl,-,-,-⟩:=hxw;generalize rs[k]=rk at *;have cu:=(HBW.out.cell (p:=⟨b,off+k,none⟩) hlt).trans cuw;have HCU:=hide cuw;clear cuw;by_cases hln:(rk.length:Int)=n
   ·have hlk:rk.length=n:=by omega
    have HIO:=hide (HI.out.later (zB _ _).drew);have HBWO:=hide HBW.out.drew;go_wp2_with fail;refine wp_region_held_drew (S:=(fun w'=>w'.cell? ⟨w.heap.size,0,none⟩=some (.int .i64 (n:Int))∧w'.cell? ⟨w.heap.size,1,none⟩=some (.slice (some ⟨b,off,none⟩) rs.length gcap)∧w'.cell? ⟨b,off+k,none⟩=some (.slice xo rk.length xcap))) (by kernel_rfl) (by(try dsimp only);go_keep) (fun hHeld=>?_);refine zr 0 40 ?_;try simp only [zA]
    refine zr 1 41 ?_;try simp only [zA]
    refine zr 2 42 ?_;try simp only [zA]
    refine zr 3 43 ?_;try simp only [zA]
    refine zr 4 44 ?_;try simp only [zA]
    refine zr 5 45 ?_;try simp only [zA]
    refine zr 6 46 ?_;try simp only [zA]
    refine zr 7 47 ?_;try simp only [zA]
    refine zr 8 48 ?_;try simp only [zA]
    refine zr 9 49 ?_;try simp only [zA]
    refine zr 10 50 ?_;try simp only [zA]
    refine zr 11 51 ?_;try simp only [zA]
    refine zr 12 52 ?_;try simp only [zA]
    refine wpAnyH_done (by kernel_rfl) ?_ _;go_wp2;clear c0 c1 z0 z1 cu HI HBW;generalize wr.drew=wo at *;clear wr;go_loopw [9,10] (fun r i wr=>∃(q:Nat) (ps:List (Rn × Int)),q≤n∧i=.int .i64 q∧GrowR wr wo.heap.size r ps 5∧Hid (ps.map (·.2)=rk.take q)∧Hid (Below wo.heap.size wo wr)∧Hid (∀ z∈rk.take q,-1000000≤z∧z≤1000000)) (fun _ i _=>n-(intOf i).toNat)
    case atStart=>exact⟨0,[],Nat.zero_le _,rfl,GrowR.nil _ _ _,(by show _=_;simp),hide (zB _ _),(fun z hz=>by rw [List.take_zero] at hz;cases hz)⟩
    case round=>
     obtain⟨q,ps,hq,rfl,hgr,HP,HBI,HSM⟩:=hrel;have HGR:=hide hgr;have HPL:Hid (ps.length=q):=by
      have:=congrArg List.length HP.out;rw [zM,List.length_take] at this;show ps.length=q;omega
     have HBO:=hide (HIO.out.below.trans (HBI.out.mono HIO.out.below.size));have HBW:=hide (HBWO.out.trans (HBI.out.mono HBWO.out.size));obtain⟨c0,c1,z0,z1⟩:=HG0.out.later HBO.out (by have:=HGL.out;omega);clear hgr;by_cases hqn:q<n
     ·have cu:=(HBW.out.cell (p:=⟨b,off+k,none⟩) hlt).trans HCU.out;obtain⟨_,_,e,-,hrg,hc⟩:=HXW.out.below HBW.out zL;simp only [zV,true_and] at e;obtain⟨rfl,rfl⟩:=e;obtain⟨xb,xoff,rfl,hxlt,hc⟩:=hc (by omega);have cx:=hc q (by omega);obtain⟨zlo,zhi⟩:=hrg q;have hqk:q<rk.length:=by omega
      have HZM:Hid (rk.getD q 0∈rk):=by
       show _∈_;rw [zG,List.getElem?_eq_getElem hqk,Option.getD_some];exact List.getElem_mem hqk
      have HP':Hid (∀ r:Rn,(ps++[(r,rk.getD q 0)]).map (·.2)=rk.take (q+1)):=fun r=>by
       rw [List.map_append,HP.out,List.take_succ_eq_append_getElem hqk,zG,List.getElem?_eq_getElem hqk];rfl
      have HSM':Hid ((-1000000≤rk.getD q 0∧rk.getD q 0≤1000000)→∀ z∈rk.take (q+1),-1000000≤z∧z≤1000000):=fun h z hz=>by
       rw [List.take_succ_eq_append_getElem hqk] at hz;rcases List.mem_append.1 hz with hz | hz
       ·exact HSM.out z hz
       ·rw [List.mem_singleton] at hz;rw [zG,List.getElem?_eq_getElem hqk,Option.getD_some] at h;rw [hz];exact h
      clear hc hrg;generalize rk.getD q 0=z at *;obtain⟨r0,r1,y0,y1⟩:=HR0.out.later HBO.out HGL.out;have HB:=hide ((HBW.out.setCell (p:=⟨w.heap.size+1,0,none⟩) (by simp) (.int .i64 0)).setCell (p:=⟨w.heap.size+1,1,none⟩) (by simp) (.slice none 0 0));by_cases hz1:z < -1000000
      ·have HBAD:=hide (zdo (n:=n) HMEM.out (zeX HZM.out (.inl hz1)));have g1:decide (z < -1000000)=true:=decide_eq_true hz1;clear HSM' HP';go_wp2;exact bodyPost_ret (v:=.tuple #[.agg #[.int .i64 0,.slice none 0 0],.slice none 0 0,.bool false]) (by simp [results,Tryz.results22,go_sem,r0,r1]) rfl ⟨HB.out,.inl ⟨HBAD.out,rfl⟩⟩
      ·have g1:decide (z < -1000000)=false:=decide_eq_false hz1;by_cases hz2:1000000<z
       ·have HBAD:=hide (zdo (n:=n) HMEM.out (zeX HZM.out (.inr hz2)));have g2:decide (1000000<z)=true:=decide_eq_true hz2;clear HSM' HP';go_wp2;exact bodyPost_ret (v:=.tuple #[.agg #[.int .i64 0,.slice none 0 0],.slice none 0 0,.bool false]) (by simp [results,Tryz.results22,go_sem,r0,r1]) rfl ⟨HB.out,.inl ⟨HBAD.out,rfl⟩⟩
       ·have g2:decide (1000000<z)=false:=decide_eq_false hz2;have HSN:=hide (HSM'.out ⟨by omega,by omega⟩);clear HSM' HB r0 r1 y0 y1 HZM;go_wp2_with fail;refine(zad wr z zlo zhi).mono ?_;rintro e w3 ⟨r,rfl,hr,hb3⟩;obtain⟨rss,ro,rl,rc,rfl,-⟩:=hr.form;have HG3:=hide (HGR.out.later hb3);have HB3:=hide (HBI.out.trans (hb3.mono HBI.out.size));have HR3:Hid (NumR w3 (Rn.val ⟨rss,ro,rl,rc⟩) z 5):=hr;have hown:=HG3.out.1;have hi:=HI0.out;have hz0:=HZ0.out;have hz1:=HZ1.out;have hz2:=HZ2.out;clear hr hb3 HGR HBI c0 c1 z0 z1 cu cx g1 g2 HBO HBW;go_wp2_with (at_builtin;refine wpList_append_lies _ rfl _ _ 106 rfl wo.heap.size 40 i0 (.agg #[.int .i64 0,.slice none 0 0]) 2 32 (by kernel_rfl) hi hz0 hz1 hz2 rfl (by decide) u9 ps.length (ps.flatMap rcells) rfl (hown.alloc _) ⟨w3.heap.size,0,none⟩ 1 1 [.int .i64 rss,.slice ro rl rc] rfl rfl (World.news_of_block (heap_alloc_new w3 _)) (fun u hu=>by simp only [List.mem_cons,List.mem_nil_iff,or_false] at hu;rcases hu with rfl | rfl <;> rfl) (by decide) (by unfold maxLen;have:=HPL.out;omega) (by have:=HPL.out;omega) (by simp;have:=HB3.out.size;omega) (w3.heap.size+1) (by simp) ?_);intro g cap' w5 hown5 hgrow5 hat5 hlt5;have HN:=hide (zaU HG3.out HR3.out hown5 hgrow5);have HB5:=hide (HB3.out.trans (zP hown HB3.out.size hgrow5));have HP5:=hide (HP'.out ⟨rss,ro,rl,rc⟩);clear hown hown5 hgrow5 hat5 hlt5 HG3 HR3 HB3 HP' HP hi hz0 hz1 hz2;go_wp2;go_roundw
        case rel=>exact⟨q+1,_,by omega,by go_num,HN.out,HP5,HB5,HSN⟩
        case measure=>simp [intOf];omega
     ·obtain rfl:q=n:=by omega
      have HRR:Hid (RowR wr u9 rk 5):=by
       have:=HGR.out.row;rw [HP.out,← hlk,List.take_length] at this;exact this
      have HGD:Hid (goodRow q rk=true):=zbQ.2 ⟨hln,fun z hz=>HSM.out z (by rw [← hlk,List.take_length];exact hz)⟩;have HIW:=hide (HIO.out.later HBI.out);obtain⟨so,sl,sc,rfl⟩:∃ so sl sc,u9=.slice so sl sc:=by
       obtain⟨so,sc,e,-⟩:=HRR.out;exact⟨_,_,_,e⟩
      have hown:=HIW.out.grow.1;have hall:=HIW.out.all;have HLQ:=hide (HIW.out.len (Nat.le_of_lt hkl));have hvl:=HIW.out.var.lt;have hj:=HJ.out;have hy0:=HY0.out;have hy1:=HY1.out;have hy2:=HY2.out;have HLK:=hide hlk;have hl8:rk.length≤1000:=by omega
      clear HGR HP HPL HIO HBWO HBO HBI HSM HBW hlk hln;go_wp2_with (at_builtin;refine zll rfl _ _ 43 rfl (W0.heap.size+1) 106 j0 24 (by kernel_rfl) hj hy0 hy1 hy2 u5 qs.length (qs.map (·.1)) rfl (hown.alloc _) (hall.later ((zB _ _).alloc zL _)) ⟨wr.heap.size,0,none⟩ 1 so sl sc rfl (World.news_of_block (heap_alloc_new wr _)) (by unfold maxLen;have:=HLQ.out;omega) (by have:=HLQ.out;omega) (by simp;omega) ?_);intro g cap' w5 hown5 hgrow5 hall5 hat5;have HI5:=hide (HIW.out.grew HRK.out HRR.out HGD.out hown5 hgrow5 hall5 hat5);have HBW5:=hide (HW0.out.trans (HI5.out.below.mono HW0.out.size));have HX5:=hide (HXW.out.below HBW5.out zL);have hG5:w.heap.size<w5.heap.size:=by have:=HGL.out;have:=HI5.out.below.size;omega
      have hb5:b<w5.heap.size:=by omega
      have hv5:W0.heap.size<w5.heap.size:=HI5.out.var.lt;clear hown hown5 hgrow5 hall5 hat5 hall HIW HRR HGD hj hy0 hy1 hy2 c0 c1 z0 z1 hvl;obtain⟨p0,p1,f0,f1⟩:=HG0.out.later HI5.out.below (by have:=HGL.out;omega);have p2:=(HBW5.out.cell (p:=⟨b,off+k,none⟩) hlt).trans HCU.out;obtain⟨⟨p3,p4,f3,f4⟩,-⟩:=HI5.out.var;have hn1:¬(W0.heap.size=w.heap.size):=by have:=HGL.out;omega
      have hn2:¬(w.heap.size=W0.heap.size):=by have:=HGL.out;omega
      go_wp2_with fail;refine zp (S:=(fun w'=>w'.cell? ⟨w.heap.size,0,none⟩=some (.int .i64 (q:Int))∧w'.cell? ⟨w.heap.size,1,none⟩=some (.slice (some ⟨b,off,none⟩) rs.length gcap)∧w'.cell? ⟨b,off+k,none⟩=some (.slice xo rk.length xcap)∧w'.cell? ⟨W0.heap.size,0,none⟩=some (.int .i64 (q:Int))∧w'.cell? ⟨W0.heap.size,1,none⟩=some (.slice uo hs.length uc))) (k:=9) (by kernel_rfl) (by(try dsimp only);go_keep) (fun hHeld=>?_);refine zd 0 85 [7,8,9,10,11,12] ?_;try simp only [zA]
      refine zd 1 86 [2,4,5,6,7,8,9,10,11,12] ?_;try simp only [zA]
      refine zd 2 87 [4,5,6,7,8,9,10,11,12] ?_;try simp only [zA]
      refine zd 3 88 [4,5,6,7,8,9,10,11,12] ?_;try simp only [zA]
      refine zd 4 89 [5,6,7,8,9,10,11,12] ?_;try simp only [zA]
      refine zd 5 90 [6,7,8,9,10,11,12] ?_;try simp only [zA]
      refine ze 6 (by kernel_rfl) rfl (fun K hK=>?_);go_simp
      (refine(zaW _ _ rk (by exact HX5.out.below (zB _ _).drew zL) hl8).mono ?_;rintro e w6 ⟨P,rfl,ho⟩;have HB6:=hide (show Below w5.heap.size w5 w6 from(zB _ _).drew.trans ho.below);have HI6:=hide (HI5.out.later HB6.out);have HV6:=hide ho.vec;have q0:=(HB6.out.cell (p:=⟨w.heap.size,0,none⟩) hG5).trans p0;have q1:=(HB6.out.cell (p:=⟨w.heap.size,1,none⟩) hG5).trans p1;have q2:=(HB6.out.cell (p:=⟨b,off+k,none⟩) hb5).trans p2;have q3:=(HB6.out.cell (p:=⟨W0.heap.size,0,none⟩) hv5).trans p3;have q4:=(HB6.out.cell (p:=⟨W0.heap.size,1,none⟩) hv5).trans p4;clear ho)
      go_wp2_with fail;refine hK.out _ _ (fun _=>by(try dsimp only);go_keep) ?_;clear hK K;try simp only [zA]
      refine ze 7 (by kernel_rfl) rfl (fun K hK=>?_);go_simp
      (refine(ze6 _ _ _ q 6 hs rk (by exact⟨⟨_,rfl,HI6.out.mat⟩,HI6.out.form⟩) (by exact HV6.out.mono (show 2≤6 by decide)) HLK.out h1 h4 hNB).mono ?_;rintro e w7 ⟨v7,hs7,rfl,⟨⟨u7,rfl,hu7⟩,hF7⟩,hb7,hA7,hfr7⟩;have HI7:=hide (HI6.out.later hb7);have HF7:=hide hF7;have HA7:=hide hA7;have HFR:=hide (hfr7 _ rfl);have HU7:=hide hu7;obtain⟨o7,c7,rfl,-,-⟩:=hu7;have s0:=(hb7.cell (p:=⟨w.heap.size,0,none⟩) (zT hG5 HB6.out.size)).trans q0;have s1:=(hb7.cell (p:=⟨w.heap.size,1,none⟩) (zT hG5 HB6.out.size)).trans q1;have s2:=(hb7.cell (p:=⟨b,off+k,none⟩) (zT hb5 HB6.out.size)).trans q2;obtain⟨⟨s3,s4,f3,f4⟩,-⟩:=HI7.out.var;clear hb7 hF7 hA7 hfr7)
      go_wp2_with fail;refine hK.out _ _ (fun _=>by(try dsimp only);go_keep) ?_;clear hK K;try simp only [zA]
      refine ze 8 (by kernel_rfl) rfl (fun K hK=>?_);go_simp;refine hK.out _ _ (fun _=>by(try dsimp only);go_keep) ?_;clear hK K;try simp only [zA]
      refine zgu 9 10 (by kernel_rfl) rfl rfl (fun K hK=>?_) (fun K hK=>?_)
      ·go_simp;refine hK.out _ _ (fun h=>absurd h (by decide)) ?_;clear hK K;try simp only [zA]
       refine zgu 10 11 (by kernel_rfl) rfl rfl (fun K hK=>?_) (fun K hK=>?_)
       ·go_simp;refine hK.out _ _ (fun h=>absurd h (by decide)) ?_;clear hK K;try simp only [zA]
        refine ze 11 (by kernel_rfl) rfl (fun K hK=>?_);go_simp;refine hK.out _ _ (fun h=>absurd h (by decide)) ?_;clear hK K;try simp only [zA]
        refine ze 12 (by kernel_rfl) rfl (fun K hK=>?_);go_simp;refine hK.out _ _ (fun h=>absurd h (by decide)) ?_;clear hK K;try simp only [zA]
        refine zn (by kernel_rfl) ?_;have HI8:=hide (HI7.out.put HRK.out h4 HU7.out HF7.out HA7.out HFR.out HI6.out.var.lt (fun g hg=>(HI6.out.grow.1.lt g hg).2) ⟨_,_,_,rfl⟩);clear HI7 HI6 HI5 HU7 HF7 HA7 HFR hHeld p0 p1 p2 p3 p4 q0 q1 q2 q3 q4 s0 s1 s2 s3 s4;go_wp2;go_roundw
        case rel=>exact⟨k+1,_,_,_,by omega,by go_num,rfl,HI8⟩
        case measure=>simp [intOf];omega
       ·go_simp;refine hK.out _ _ (fun h=>absurd h (by decide)) ?_;clear hK K;try simp only [zA]
        refine ze 10 (by kernel_rfl) rfl (fun K hK=>?_);go_simp;refine hK.out _ _ (fun h=>absurd h (by decide)) ?_;clear hK K;try simp only [zA]
        refine ze 12 (by kernel_rfl) rfl (fun K hK=>?_);go_simp;refine hK.out _ _ (fun h=>absurd h (by decide)) ?_;clear hK K;try simp only [zA]
        refine zn (by kernel_rfl) ?_;have HI8:=hide (HI7.out.put HRK.out h4 HU7.out HF7.out HA7.out HFR.out HI6.out.var.lt (fun g hg=>(HI6.out.grow.1.lt g hg).2) ⟨_,_,_,rfl⟩);clear HI7 HI6 HI5 HU7 HF7 HA7 HFR hHeld p0 p1 p2 p3 p4 q0 q1 q2 q3 q4 s0 s1 s2 s3 s4;go_wp2;go_roundw
        case rel=>exact⟨k+1,_,_,_,by omega,by go_num,rfl,HI8⟩
        case measure=>simp [intOf];omega
      ·go_simp;refine hK.out _ _ (fun h=>absurd h (by decide)) ?_;clear hK K;try simp only [zA]
       refine ze 9 (by kernel_rfl) rfl (fun K hK=>?_);go_simp;refine hK.out _ _ (fun h=>absurd h (by decide)) ?_;clear hK K;try simp only [zA]
       refine ze 11 (by kernel_rfl) rfl (fun K hK=>?_);go_simp;refine hK.out _ _ (fun h=>absurd h (by decide)) ?_;clear hK K;try simp only [zA]
       refine ze 12 (by kernel_rfl) rfl (fun K hK=>?_);go_simp;refine hK.out _ _ (fun h=>absurd h (by decide)) ?_;clear hK K;try simp only [zA]
       refine zn (by kernel_rfl) ?_;have HI8:=hide (HI7.out.put HRK.out h4 HU7.out HF7.out HA7.out HFR.out HI6.out.var.lt (fun g hg=>(HI6.out.grow.1.lt g hg).2) ⟨_,_,_,rfl⟩);clear HI7 HI6 HI5 HU7 HF7 HA7 HFR hHeld p0 p1 p2 p3 p4 q0 q1 q2 q3 q4 s0 s1 s2 s3 s4;go_wp2;go_roundw
       case rel=>exact⟨k+1,_,_,_,by omega,by go_num,rfl,HI8⟩
       case measure=>simp [intOf];omega
   ·obtain⟨r0,r1,y0,y1⟩:=HR0.out.later HI.out.below HGL.out;have HBAD:=hide (zdo (n:=n) HMEM.out (by unfold goodRow;rw [decide_eq_false hln,Bool.false_and]));have HB:=hide ((HBW.out.drew.setCell (p:=⟨w.heap.size+1,0,none⟩) (by simp) (.int .i64 0)).setCell (p:=⟨w.heap.size+1,1,none⟩) (by simp) (.slice none 0 0));have hl6:((rk.length:Int) !=(n:Int))=true:=bne_iff_ne.2 hln;go_wp2_with fail;refine wp_region_held_drew (S:=(fun w'=>w'.cell? ⟨w.heap.size,0,none⟩=some (.int .i64 (n:Int))∧w'.cell? ⟨w.heap.size,1,none⟩=some (.slice (some ⟨b,off,none⟩) rs.length gcap)∧w'.cell? ⟨b,off+k,none⟩=some (.slice xo rk.length xcap))) (by kernel_rfl) (by(try dsimp only);go_keep) (fun hHeld=>?_);refine zr 0 40 ?_;try simp only [zA]
    refine zr 1 41 ?_;try simp only [zA]
    refine zr 2 42 ?_;try simp only [zA]
    refine zr 3 43 ?_;try simp only [zA]
    refine zr 4 44 ?_;try simp only [zA]
    refine zr 5 45 ?_;try simp only [zA]
    refine zr 6 46 ?_;try simp only [zA]
    refine zr 7 47 ?_;try simp only [zA]
    refine zr 8 48 ?_;try simp only [zA]
    refine zr 9 49 ?_;try simp only [zA]
    refine zgi 10 50 ?_;try simp only [zA]
    refine zgi 11 51 ?_;try simp only [zA]
    refine zr 12 52 ?_;try simp only [zA]
    refine wpAnyH_done (by kernel_rfl) ?_ _;go_wp2;exact bodyPost_ret (v:=.tuple #[.agg #[.int .i64 0,.slice none 0 0],.slice none 0 0,.bool false]) (by simp [results,Tryz.results22,go_sem,r0,r1]) rfl ⟨HB.out,.inl ⟨HBAD.out,rfl⟩⟩
  ·obtain rfl:k=rs.length:=by omega
   have HMR:Hid (MatR wr u5 rs 5):=by
    have:=HI.out.grow.mat;rw [HI.out.rows,List.take_length] at this;exact this
   have HGR:Hid (∀ r∈rs,goodRow n r=true):=fun r hr=>HI.out.good r (by rw [List.take_length];exact hr);have HGOOD:Hid (goodG n rs=true):=by
    show _=_;unfold goodG;rw [Bool.and_eq_true,decide_eq_true_eq,List.all_eq_true];exact⟨⟨by omega,by omega,h8⟩,HGR.out⟩
   have HLR:Hid (∀ us∈rs,us.length=n):=fun us hus=>by have:=(zbQ.1 (HGR.out us hus)).1;omega
   have HDT:Hid (dT 5 (rs.length+n+1)≤1000000000):=Nat.le_trans (zt (j:=13) (by omega)) (by decide);have HAL:Hid (Alikes n (InL hs) (InL rs)):=by
    have:=HI.out.alike;rw [List.take_length] at this;exact this
   have HPOS:Hid (∀ zs∈hs,0<zs.length):=fun zs hz=>by
    obtain⟨p,hF⟩:=HI.out.form;rw [hF.len zs hz];omega
   obtain⟨⟨p3,p4,f3,f4⟩,-⟩:=HI.out.var;obtain⟨r0,r1,y0,y1⟩:=HR0.out.later HI.out.below HGL.out;have hG:w.heap.size<wr.heap.size:=by have:=HGL.out;have:=HI.out.below.size;omega
   have hR:w.heap.size+1<wr.heap.size:=by have:=HGL.out;have:=HI.out.below.size;omega
   have hB:W0.heap.size<wr.heap.size:=HI.out.var.lt;have hn1:¬(w.heap.size+1=w.heap.size):=by omega
   have hn2:¬(w.heap.size+1=W0.heap.size):=by have:=HGL.out;omega
   go_wp2_with fail
   go_region_held3 (fun w'=>w'.cell? ⟨w.heap.size,0,none⟩=some (.int .i64 (n:Int))∧w'.cell? ⟨w.heap.size,1,none⟩=some (.slice go rs.length gcap)∧w'.cell? ⟨W0.heap.size,0,none⟩=some (.int .i64 (n:Int))∧w'.cell? ⟨W0.heap.size,1,none⟩=some (.slice uo hs.length uc)) (go_keep)
    (first
     |(go_at_call 33;refine(zbR _ _ rs n 5 (by exact HMR.out.below (zB _ _).drew zL) HLR.out h1 (by omega) (by omega) HDT.out).mono ?_;rintro e w9 ⟨ur,hr9,pr,rfl,hm9,-,hf9,ha9,hb9⟩;have HM9:=hide hm9;have HF9:=hide hf9;have HA9:=hide ha9;clear hm9 hf9 ha9;have HB9:=hide (show Below wr.heap.size wr w9 from(zB _ _).drew.trans hb9);have q0:=(HB9.out.cell (p:=⟨w.heap.size,0,none⟩) hG).trans c0;have q1:=(HB9.out.cell (p:=⟨w.heap.size,1,none⟩) hG).trans c1;have q3:=(HB9.out.cell (p:=⟨W0.heap.size,0,none⟩) hB).trans p3;have q4:=(HB9.out.cell (p:=⟨W0.heap.size,1,none⟩) hB).trans p4;obtain⟨t0,t1,x0,x1⟩:=(HR0.out.later HI.out.below HGL.out).later HB9.out hR;clear hb9))
   have HMO:Hid (MatR ((w9.setCell ⟨w.heap.size+1,0,none⟩ (.int .i64 (n:Int))).setCell ⟨w.heap.size+1,1,none⟩ (.slice uo hs.length uc)) ur hs 18):=by
    obtain⟨p,hF⟩:=HI.out.form;have h:=HM9.out;rw [zar HF9.out hF (fun v=>(HA9.out v).trans (HAL.out v).symm)] at h;obtain⟨cs,hcs⟩:=HB0T.out;exact(h.fits (m:=3*6) HI.out.mat.small).setVar (n:=18) (m:=0) (u:=.slice none 0 0) ⟨⟨t0,t1,x0,x1⟩,cs,(HB9.out.block _ hR).trans ((HI.out.below.block _ HGL.out).trans hcs)⟩ _ _
   have HFIN:Hid (MadePostR w n rs (.returned (.tuple #[.agg #[.int .i64 (n:Int),.slice uo hs.length uc],ur,.bool true])) ((w9.setCell ⟨w.heap.size+1,0,none⟩ (.int .i64 (n:Int))).setCell ⟨w.heap.size+1,1,none⟩ (.slice uo hs.length uc))):=
    ⟨((HBW.out.trans (HB9.out.mono HBW.out.size)).setCell (by simp) _).setCell (by simp) _,.inr ⟨HGOOD.out,_,_,hs,rfl,⟨⟨_,by rw [Int.toNat_natCast],(HI.out.mat.below HB9.out zL).setBasis _ _ HPOS.out t0 t1⟩,by rw [Int.toNat_natCast];exact HI.out.form⟩,by rw [Int.toNat_natCast];exact HAL.out,HMO.out⟩⟩
   clear HMR HGR HGOOD HLR HDT HAL HPOS HI HBW HB9 HMO HM9 HF9 HA9;go_wp2;exact bodyPost_ret (v:=.tuple #[.agg #[.int .i64 (n:Int),.slice uo hs.length uc],ur,.bool true]) (by simp [results,Tryz.results22,go_sem,t0,t1]) rfl HFIN.out
theorem zfm (w:World)(nI:Int)(go:Option Addr)(gcap:Nat)(rs:List (List Int))(hv:RowsS w (.slice go rs.length gcap) rs):
  Calls Tryz.prog 22 #[.agg #[.int .i64 nI,.slice go rs.length gcap]] w fun e w'=>MadePostR w nI rs e w':=by
 by_cases h:1≤nI∧nI≤4∧rs.length≤8
 ·obtain⟨n,rfl⟩:=Int.eq_ofNat_of_zero_le (show 0≤nI by omega);exact zi7 w n go gcap rs hv (by omega) (by omega) h.2.2
 ·exact zi6 w nI go gcap rs h
instance (n nv:Nat):Decidable (RoomF n nv):=decidable_of_iff (nbK n (n*nv+2) nv n≤100000∧∀ h,h<n+1→nbK (h+n) (n*nv+2) nv (h+n)≤100000)
 ⟨fun⟨a,b⟩=>⟨a,fun h hh=>b h (by omega)⟩,fun⟨a,b⟩=>⟨a,fun h hh=>b h (by omega)⟩⟩
theorem roomF6:∀ n,n<5→RoomF n 6∧RoomF n (n*6+2)∧RoomF n (n *(n*6+2)+2)∧RoomF n (n *(n *(n*6+2)+2)+2)∧6+n *(n *(n*6+2)+2+2)≤90000:=by decide
end Go.Proofs.YtdedolkgcdlmeaaGreatDoor
