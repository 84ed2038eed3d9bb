import Derived.Test.YtdedolkgcdlmeaaGreatDoorIxU
set_option maxRecDepth 100000
set_option maxHeartbeats 12800000
set_option linter.unusedSimpArgs false
namespace Go.Proofs.YtdedolkgcdlmeaaGreatDoor
open Go.RowKit Limbs Digs
variable {W:World}{v:Value}
theorem ziH{nI:Int}{rs:List (List Int)}(h:goodG nI rs=true):(1≤nI∧nI≤4∧rs.length≤8)∧∀ r∈rs,goodRow nI r=true:=by
 unfold goodG at h
 rw [Bool.and_eq_true,decide_eq_true_eq,List.all_eq_true] at h
 exact h
theorem zdA (w:World)(nI:Int)(go:Option Addr)(gcap:Nat)(rs:List (List Int))(hv:RowsS w (.slice go rs.length gcap) rs):
  Calls Tryz.prog 22 #[.agg #[.int .i64 nI,.slice go rs.length gcap]] w fun e w'=>Below w.heap.size w w'∧(e=.returned (.tuple #[.agg #[.int .i64 0,.slice none 0 0],.slice none 0 0,.bool false]) ∨
   ∃ n o c mo mc hs,nI=((n:Nat):Int)∧1≤n∧n≤4∧e=.returned (.tuple #[.agg #[.int .i64 (n:Int),.slice o hs.length c],.slice mo hs.length mc,.bool true])∧LatN w' (.agg #[.int .i64 (n:Int),.slice o hs.length c]) n hs 6∧MatR w' (.slice mo hs.length mc) hs 18):=by
 refine(zfy w nI go gcap rs hv).mono fun e w' ⟨hb,hc⟩=>⟨hb,?_⟩
 rcases hc with⟨-,rfl⟩ |⟨hg,u,m,hs,rfl,hl,-,hm⟩
 ·exact .inl rfl
 ·obtain⟨⟨h1,h4,-⟩,-⟩:=ziH hg
  obtain⟨n,rfl⟩:=Int.eq_ofNat_of_zero_le (show 0≤nI by omega)
  rw [Int.toNat_natCast] at hl
  have hl':=hl
  obtain⟨⟨u',e,⟨o,c,rfl,-,-⟩⟩,-⟩:=hl
  simp only [Value.agg.injEq,Array.mk.injEq,List.cons.injEq,and_true] at e
  obtain⟨-,rfl⟩:=e
  have hm':=hm
  obtain⟨mo,mc,rfl,-,-⟩:=hm
  exact .inr ⟨n,o,c,mo,mc,hs,rfl,by omega,by omega,rfl,hl',hm'⟩
theorem zi0 (w:World)(ht:Tab w)(nA nB:Int)(ga gb:Option Addr)(ca cb:Nat)(ra rb:List (List Int))(ha:RowsS w (.slice ga ra.length ca) ra)(hb:RowsS w (.slice gb rb.length cb) rb):
  Calls Tryz.prog 7 #[.agg #[.int .i64 nA,.slice ga ra.length ca],.agg #[.int .i64 nB,.slice gb rb.length cb]] w fun e w'=>e=.returned (.bool true)∧Below w.heap.size w w':=by
 have HT:=hide ht;have HA:=hide ha;have HB:=hide hb
 clear ht ha hb
 have XA:=hide ((BoxL.new w (.int .i64 nA) (.slice ga ra.length ca) 53).later (zR _ (.cells #[.int .i64 nB,.slice gb rb.length cb] 53)))
 have XB:=hide (BoxL.new (w.alloc (.cells #[.int .i64 nA,.slice ga ra.length ca] 53)) (.int .i64 nB) (.slice gb rb.length cb) 53)
 have HBW:=hide (((Below.refl w.heap.size w).alloc zL (.cells #[.int .i64 nA,.slice ga ra.length ca] 53)).alloc (by simp) (.cells #[.int .i64 nB,.slice gb rb.length cb] 53))
 have HS1:Hid ((w.alloc (.cells #[.int .i64 nA,.slice ga ra.length ca] 53)).heap.size=w.heap.size+1):=by show _=_;simp
 rw [HS1.out] at XB
 clear HS1
 go_enter Tryz.func7,Tryz.ntmps7
 go_wp2_with fail
 generalize ((w.alloc (.cells #[.int .i64 nA,.slice ga ra.length ca] 53)).alloc (.cells #[.int .i64 nB,.slice gb rb.length cb] 53))=W0 at *
 refine(zjg W0 (HT.out.below HBW.out)).mono ?_
 rintro e w1 ⟨rfl,hb1⟩
 have XA':=hide (XA.out.later hb1);have XB':=hide (XB.out.later hb1);have HBW':=hide (HBW.out.trans (hb1.mono HBW.out.size))
 clear XA XB HBW
 have XA:=XA';have XB:=XB';have HBW:=HBW'
 clear XA' XB' HBW'
 clear hb1
 obtain⟨a0,a1,-,-⟩:=XA.out.1
 go_wp2_with fail
 refine(zdA w1 nA ga ca ra (HA.out.below HBW.out)).mono ?_
 rintro e w2 ⟨hb2,hcase⟩
 clear a0 a1
 have XA':=hide (XA.out.later hb2);have XB':=hide (XB.out.later hb2);have HBW':=hide (HBW.out.trans (hb2.mono HBW.out.size))
 clear XA XB HBW
 have XA:=XA';have XB:=XB';have HBW:=HBW'
 clear XA' XB' HBW'
 clear hb2
 rcases hcase with rfl |⟨n,oA,kA,moA,mkA,hs,rfl,h1,h4,rfl,hLA,hMA⟩
 ·have hN2:=zR w2 (.cells #[.int .i64 0,.slice none 0 0] 55)
  have XB2:=hide (XB.out.later hN2);have HBW2:=hide (HBW.out.trans (hN2.mono HBW.out.size))
  obtain⟨b0,b1,-,-⟩:=XB2.out.1
  clear hN2 XA XB
  go_wp2_with fail
  generalize (w2.alloc (.cells #[.int .i64 0,.slice none 0 0] 55))=W3 at *
  refine(zdA W3 nB gb cb rb (HB.out.below HBW2.out)).mono ?_
  rintro e w4 ⟨hb4,hcase⟩
  have HBW4:=hide (HBW2.out.trans (hb4.mono HBW2.out.size))
  clear hb4 b0 b1
  rcases hcase with rfl |⟨n,oB,kB,moB,mkB,ks,rfl,h1,h4,rfl,-,-⟩
  ·have HBW5:=hide (HBW4.out.alloc HBW4.out.size (.cells #[.int .i64 0,.slice none 0 0] 55))
   go_wp2
   go_ret
   exact⟨rfl,HBW5.out⟩
  ·have HBW5:=hide (HBW4.out.alloc HBW4.out.size (.cells #[.int .i64 (n:Int),.slice oB ks.length kB] 55))
   go_wp2
   go_ret
   exact⟨rfl,HBW5.out⟩
 ·have hN2:=zR w2 (.cells #[.int .i64 (n:Int),.slice oA hs.length kA] 55)
  have X6:=hide (BoxL.new w2 (.int .i64 (n:Int)) (.slice oA hs.length kA) 55)
  have XA2:=hide (XA.out.later hN2);have XB2:=hide (XB.out.later hN2);have HBW2:=hide (HBW.out.trans (hN2.mono HBW.out.size))
  have HLA:=hide (hLA.below hN2);have HMA:=hide (hMA.below hN2 zL)
  obtain⟨b0,b1,-,-⟩:=XB2.out.1
  clear hN2 XA XB HBW hLA hMA
  go_wp2_with fail
  generalize (w2.alloc (.cells #[.int .i64 (n:Int),.slice oA hs.length kA] 55))=W3 at *
  generalize w2.heap.size=B6 at *
  refine(zdA W3 nB gb cb rb (HB.out.below HBW2.out)).mono ?_
  rintro e w4 ⟨hb4,hcase⟩
  have HBW:=hide (HBW2.out.trans (hb4.mono HBW2.out.size));have XA:=hide (XA2.out.later hb4);have XB:=hide (XB2.out.later hb4);have X6':=hide (X6.out.later hb4);have HLA':=hide (HLA.out.below hb4);have HMA':=hide (HMA.out.below hb4 zL)
  clear hb4 b0 b1 HBW2 XA2 XB2 X6 HLA HMA
  rcases hcase with rfl |⟨nb,oB,kB,moB,mkB,ks,rfl,h1b,h4b,rfl,hLB,hMB⟩
  ·have HBW5:=hide (HBW.out.alloc HBW.out.size (.cells #[.int .i64 0,.slice none 0 0] 55))
   go_wp2
   go_ret
   exact⟨rfl,HBW5.out⟩
  ·have hN4:=zR w4 (.cells #[.int .i64 (nb:Int),.slice oB ks.length kB] 55)
   have X9:=hide (BoxL.new w4 (.int .i64 (nb:Int)) (.slice oB ks.length kB) 55)
   have XA5:=hide (XA.out.later hN4);have XB5:=hide (XB.out.later hN4);have X6:=hide (X6'.out.later hN4);have HBW5:=hide (HBW.out.trans (hN4.mono HBW.out.size))
   have HLA:=hide (HLA'.out.below hN4);have HMA:=hide (HMA'.out.below hN4 zL);have HLB:=hide (hLB.below hN4);have HMB:=hide (hMB.below hN4 zL)
   obtain⟨a0,a1,-,-⟩:=XA5.out.1
   obtain⟨b0,b1,-,-⟩:=XB5.out.1
   clear hN4 XA XB HBW X6' HLA' HMA' hLB hMB
   by_cases hnn:nb=n
   ·subst hnn
    obtain⟨-,p,hF⟩:=HLA.out
    obtain⟨-,pk,hG⟩:=HLB.out
    have HF:=hide hF;have HG:=hide hG
    obtain⟨c0,c1,-,-⟩:=X6.out.1
    obtain⟨d0,d1,-,-⟩:=X9.out.1
    have g0:((nb:Int) !=(nb:Int))=false:=by rw [bne_eq_false_iff_eq]
    clear hF hG
    go_wp2_with fail
    generalize (w4.alloc (.cells #[.int .i64 (nb:Int),.slice oB ks.length kB] 55))=W5 at *
    generalize w4.heap.size=B9 at *
    refine(zi6 W5 _ _ nb hs ks p pk HLA.out HLB.out HF.out HG.out h1 h4).mono ?_
    rintro e w6 ⟨kv,ev,c,z,M,rfl,hsc,hkv,hidx,hb6⟩
    clear a0 a1 b0 b1 c0 c1 d0 d1 XA5 XB5 g0
    obtain⟨⟨kn,ko,kl,kc⟩,rfl⟩:=hkv.nm
    have hN6:=zR w6 (.cells #[.bool kn,.slice ko kl kc] 29)
    have hb6':=hb6.trans (hN6.mono hb6.size)
    have XK:=hide (BoxL.new w6 (.bool kn) (.slice ko kl kc) 29);have NK6:=hide (hkv.below hN6 zL)
    have X6b:=hide (X6.out.later hb6');have X9b:=hide (X9.out.later hb6');have HBW6:=hide (HBW5.out.trans (hb6'.mono HBW5.out.size));have HLA6:=hide (HLA.out.below hb6');have HLB6:=hide (HLB.out.below hb6');have HMA6:=hide (HMA.out.below hb6' zL);have HMB6:=hide (HMB.out.below hb6' zL)
    have HSC:=hide hsc;have HIX:=hide hidx
    clear hb6 hb6' hN6 hkv hsc hidx X6 X9 HBW5 HLA HLB HMA HMB
    go_wp2_with fail
    generalize (w6.alloc (.cells #[.bool kn,.slice ko kl kc] 29))=W7 at *
    generalize w6.heap.size=KB at *
    refine(ziZ W7 _ _ nb 18 hs ks p pk HMA6.out HF.out HMB6.out HG.out h4 (by decide)).mono ?_
    rintro e w8 ⟨wv,c',z',rfl,hwv,hidx',hb8⟩
    obtain⟨rfl,rfl⟩:c=c'∧z=z':=by
     have h:=HIX.out.one hidx'
     exact⟨h.1.symm,h.2.symm⟩
    obtain⟨⟨ws,wo,wl,wc⟩,rfl⟩:=hwv.rm
    try dsimp only at hwv
    have hN8:=zR w8 (.cells #[.int .i64 ws,.slice wo wl wc] 40)
    have hb8':=hb8.trans (hN8.mono hb8.size)
    have XW:=hide (BoxL.new w8 (.int .i64 ws) (.slice wo wl wc) 40);have NW8:=hide (hwv.below hN8 zL)
    have XK8:=hide (XK.out.later hb8');have NK8:=hide (NK6.out.below hb8' zL);have X6c:=hide (X6b.out.later hb8');have X9c:=hide (X9b.out.later hb8');have HBW8:=hide (HBW6.out.trans (hb8'.mono HBW6.out.size));have HLA8:=hide (HLA6.out.below hb8');have HLB8:=hide (HLB6.out.below hb8');have HMA8:=hide (HMA6.out.below hb8' zL);have HMB8:=hide (HMB6.out.below hb8' zL)
    have HS1:Hid (SameC ev c):=HSC.out
    obtain⟨c0,c1,-,-⟩:=X6c.out.1
    obtain⟨d0,d1,-,-⟩:=X9c.out.1
    clear hb8 hb8' hN8 hwv hidx' HIX HSC XK NK6 X6b X9b HBW6 HLA6 HLB6 HMA6 HMB6
    go_wp2_with fail
    generalize (w8.alloc (.cells #[.int .i64 ws,.slice wo wl wc] 40))=W9 at *
    generalize w8.heap.size=WB at *
    refine(zkj W9 _ _ nb hs ks pk HLA8.out HLB8.out HG.out h1 h4).mono ?_
    rintro e w10 ⟨uq,fr,ev2,c2,zs,M2,rfl,hsc2,huq,hz4,hquo,hb10⟩
    clear c0 c1 d0 d1
    have HVQ0:=hide huq
    obtain⟨qo,qc,rfl,-,-⟩:=huq
    have hN10:=zR w10 (.cells #[.slice qo zs.length qc,.int .i64 fr] 77)
    have hb10':=hb10.trans (hN10.mono hb10.size)
    have XQ:=hide (BoxL.new w10 (.slice qo zs.length qc) (.int .i64 fr) 77);have HVQ1:=hide (HVQ0.out.below hN10 zL)
    have XK10:=hide (XK8.out.later hb10');have NK10:=hide (NK8.out.below hb10' zL);have XW10:=hide (XW.out.later hb10');have NW10:=hide (NW8.out.below hb10' zL);have HBW10:=hide (HBW8.out.trans (hb10'.mono HBW8.out.size));have HMA10:=hide (HMA8.out.below hb10' zL);have HMB10:=hide (HMB8.out.below hb10' zL);have HLA10:=hide (HLA8.out.below hb10')
    have HSC2:=hide hsc2;have HQO:=hide hquo
    clear hb10 hb10' hN10 hsc2 hquo HVQ0 XK8 NK8 XW NW8 HBW8 HMA8 HMB8 HLA8 HLB8 X6c X9c
    go_wp2_with fail
    generalize (w10.alloc (.cells #[.slice qo zs.length qc,.int .i64 fr] 77))=W11 at *
    generalize w10.heap.size=QB at *
    refine(zki W11 W11 _ _ _ nb 18 hs ks p pk HLA10.out HMA10.out HF.out HMB10.out HG.out h4 (by decide)).mono ?_
    rintro e w11 ⟨up,fr',c2',zs',rfl,hup,hquo',hb11⟩
    obtain⟨rfl,rfl,rfl⟩:c2=c2'∧fr=fr'∧zs=zs':=by
     have h:=HQO.out.one hquo'
     exact⟨h.1.symm,h.2.1.symm,h.2.2.symm⟩
    have HVP0:=hide hup
    obtain⟨po,pc,rfl,-,-⟩:=hup
    have hN11:=zR w11 (.cells #[.slice po zs.length pc,.int .i64 fr] 77)
    have hb11':=hb11.trans (hN11.mono hb11.size)
    have XP:=hide (BoxL.new w11 (.slice po zs.length pc) (.int .i64 fr) 77);have HVP:=hide (HVP0.out.below hN11 zL)
    have XK:=hide (XK10.out.later hb11');have NK:=hide (NK10.out.below hb11' zL);have XW:=hide (XW10.out.later hb11');have NW:=hide (NW10.out.below hb11' zL);have HBW:=hide (HBW10.out.trans (hb11'.mono HBW10.out.size));have XQ':=hide (XQ.out.later hb11');have HVQ:=hide (HVQ1.out.below hb11' zL)
    have HS2:Hid (SameC ev2 c2):=HSC2.out
    clear hb11 hb11' hN11 hquo' HVP0 HQO HSC2 XK10 NK10 XW10 NW10 HBW10 HMA10 HMB10 HLA10 XQ HVQ1 HF HG
    try rw [show 5+4 *(18+8)=109 from rfl] at NW
    go_upto_region 12 with fail
    generalize (w11.alloc (.cells #[.slice po zs.length pc,.int .i64 fr] 77))=W12 at *
    generalize w11.heap.size=PB at *
    ·obtain⟨c0,c1,-,-⟩:=XK.out.1
     obtain⟨c2,c3,-,-⟩:=XW.out.1
     obtain⟨c4,c5,-,-⟩:=XQ'.out.1
     obtain⟨c6,c7,-,-⟩:=XP.out.1
     have lKB:=XK.out.2;have lWB:=XW.out.2;have lQB:=XQ'.out.2;have lPB:=XP.out.2
     have HQ0:=hide c4;have HP0:=hide c6
     clear XK XW XQ' XP
     refine zbJ (A:=fun _=>true) (S:=(fun w'=>w'.cell? ⟨KB,0,none⟩=some (.bool kn)∧w'.cell? ⟨KB,1,none⟩=some (.slice ko kl kc)∧w'.cell? ⟨WB,0,none⟩=some (.int .i64 ws)∧w'.cell? ⟨WB,1,none⟩=some (.slice wo wl wc)∧w'.cell? ⟨QB,0,none⟩=some (.slice qo zs.length qc)∧w'.cell? ⟨QB,1,none⟩=some (.int .i64 fr)∧w'.cell? ⟨PB,0,none⟩=some (.slice po zs.length pc)∧w'.cell? ⟨PB,1,none⟩=some (.int .i64 fr))) (by kernel_rfl) (by exact⟨c0,c1,c2,c3,c4,c5,c6,c7⟩) (fun hHeld=>?_)
     refine zi 0 73 [] ?_
     try simp only [zA]
     refine zi 1 74 [] ?_
     try simp only [zA]
     refine zM 2 (by kernel_rfl) rfl (fun K hK=>?_)
     go_simp
     refine(HS1.out _).mono ?_
     rintro e wa ⟨rfl,rfl⟩
     go_wp2_with fail
     refine hK.out _ _ (fun _=>hHeld) ?_
     clear hK K
     try simp only [zA]
     refine zi 3 76 [] ?_
     try simp only [zA]
     refine zi 4 77 [] ?_
     try simp only [zA]
     refine zi 5 78 [] ?_
     try simp only [zA]
     refine zi 6 79 [] ?_
     try simp only [zA]
     refine zM 7 (by kernel_rfl) rfl (fun K hK=>?_)
     go_simp
     refine(HS2.out _).mono ?_
     rintro e wb ⟨rfl,rfl⟩
     go_wp2_with fail
     refine hK.out _ _ (fun _=>hHeld) ?_
     clear hK K
     try simp only [zA]
     refine zi 8 81 [] ?_
     try simp only [zA]
     refine zi 9 82 [] ?_
     try simp only [zA]
     refine zi 10 83 [] ?_
     try simp only [zA]
     refine zi 11 84 [] ?_
     try simp only [zA]
     refine zi 12 85 [] ?_
     try simp only [zA]
     refine zM 13 (by kernel_rfl) rfl (fun K hK=>?_)
     go_simp
     refine(zi9 _ _ z 109 (by exact NW.out.below (Below.refl W12.heap.size W12).drew zL) (by omega)).mono ?_
     rintro e w13 ⟨u13,rfl,hu13,hb13'⟩
     have hb13:Below W12.heap.size W12 w13:=(Below.refl _ _).drew.trans (hb13'.mono (by simp))
     have d0:=(hb13.cell (p:=⟨KB,0,none⟩) lKB).trans c0;have d1:=(hb13.cell (p:=⟨KB,1,none⟩) lKB).trans c1;have d2:=(hb13.cell (p:=⟨WB,0,none⟩) lWB).trans c2;have d3:=(hb13.cell (p:=⟨WB,1,none⟩) lWB).trans c3;have d4:=(hb13.cell (p:=⟨QB,0,none⟩) lQB).trans c4;have d5:=(hb13.cell (p:=⟨QB,1,none⟩) lQB).trans c5;have d6:=(hb13.cell (p:=⟨PB,0,none⟩) lPB).trans c6;have d7:=(hb13.cell (p:=⟨PB,1,none⟩) lPB).trans c7
     have NU13:=hide hu13;have HB13:=hide hb13
     clear hu13 hb13 hb13'
     go_wp2_with fail
     refine hK.out _ _ (fun _=>⟨d0,d1,d2,d3,d4,d5,d6,d7⟩) ?_
     clear hK K
     try simp only [zA]
     refine zM 14 (by kernel_rfl) rfl (fun K hK=>?_)
     go_simp
     refine(zgm w13 _ _ z _ _ (by exact NK.out.below HB13.out zL) (by exact NU13.out)).mono ?_
     rintro e w14 ⟨rfl,hb14'⟩
     have hb14:Below W12.heap.size W12 w14:=HB13.out.trans (hb14'.mono HB13.out.size)
     have e0:=(hb14.cell (p:=⟨KB,0,none⟩) lKB).trans c0;have e1:=(hb14.cell (p:=⟨KB,1,none⟩) lKB).trans c1;have e2:=(hb14.cell (p:=⟨WB,0,none⟩) lWB).trans c2;have e3:=(hb14.cell (p:=⟨WB,1,none⟩) lWB).trans c3;have e4:=(hb14.cell (p:=⟨QB,0,none⟩) lQB).trans c4;have e5:=(hb14.cell (p:=⟨QB,1,none⟩) lQB).trans c5;have e6:=(hb14.cell (p:=⟨PB,0,none⟩) lPB).trans c6;have e7:=(hb14.cell (p:=⟨PB,1,none⟩) lPB).trans c7
     have HB14:=hide hb14
     clear hb14 hb14'
     go_wp2_with fail
     refine hK.out _ _ (fun _=>⟨e0,e1,e2,e3,e4,e5,e6,e7⟩) ?_
     clear hK K hHeld
     try simp only [zA]
     have hHeld2:(fun w'=>w'.cell? ⟨KB,0,none⟩=some (.bool kn)∧w'.cell? ⟨KB,1,none⟩=some (.slice ko kl kc)∧w'.cell? ⟨WB,0,none⟩=some (.int .i64 ws)∧w'.cell? ⟨WB,1,none⟩=some (.slice wo wl wc)∧w'.cell? ⟨QB,0,none⟩=some (.slice qo zs.length qc)∧w'.cell? ⟨QB,1,none⟩=some (.int .i64 fr)∧w'.cell? ⟨PB,0,none⟩=some (.slice po zs.length pc)∧w'.cell? ⟨PB,1,none⟩=some (.int .i64 fr)) w14:=⟨e0,e1,e2,e3,e4,e5,e6,e7⟩
     refine zi 15 88 [] ?_
     try simp only [zA]
     refine zi 16 89 [] ?_
     try simp only [zA]
     refine zi 17 90 [] ?_
     try simp only [zA]
     refine zi 18 91 [] ?_
     try simp only [zA]
     refine zi 19 92 [] ?_
     try simp only [zA]
     refine zi 20 93 [] ?_
     try simp only [zA]
     refine zi 21 94 [] ?_
     try simp only [zA]
     refine zi 22 95 [] ?_
     try simp only [zA]
     refine zi 23 96 [] ?_
     try simp only [zA]
     refine zi 24 97 [] ?_
     try simp only [zA]
     refine zi 25 98 [] ?_
     try simp only [zA]
     refine zi 26 99 [] ?_
     try simp only [zA]
     refine zi 27 100 [] ?_
     try simp only [zA]
     refine zi 28 101 [] ?_
     try simp only [zA]
     refine zi 29 102 [] ?_
     try simp only [zA]
     refine zi 30 103 [] ?_
     try simp only [zA]
     refine zi 31 104 [] ?_
     try simp only [zA]
     refine zi 32 105 [] ?_
     try simp only [zA]
     refine zbI (by kernel_rfl) ?_
     clear hHeld2 c0 d0 c1 d1 c2 d2 c3 d3 c4 d4 c5 d5 c6 d6 c7 d7 e0 e1 e2 e3 HS1 HS2 NU13 HB13
     have HQX:Hid (w14.cell? ⟨QB,0,none⟩=some (.slice qo zs.length qc)∧w14.cell? ⟨PB,0,none⟩=some (.slice po zs.length pc)):=⟨e4,e6⟩
     clear e4 e5 e6 e7
     go_wp2
     go_loopw [20] (fun i wr=>∃ k:Nat,k≤zs.length∧i=.int .i64 k∧Hid (Below W12.heap.size W12 wr)) (fun i _=>zs.length-(intOf i).toNat)
     case atStart=>exact⟨0,Nat.zero_le _,rfl,HB14⟩
     case round=>
      clear HQX HB14
      obtain⟨k,hk,rfl,HBE⟩:=hrel
      have q0:=(HBE.out.cell (p:=⟨QB,0,none⟩) lQB).trans HQ0.out
      have q1:=(HBE.out.cell (p:=⟨PB,0,none⟩) lPB).trans HP0.out
      by_cases hkl:k<zs.length
      ·obtain⟨bq,oq,_,e⟩:=HVQ.out.form (by omega)
       simp only [Value.slice.injEq,true_and] at e
       obtain⟨rfl,rfl⟩:=e
       obtain⟨bp',op,_,e⟩:=HVP.out.form (by omega)
       simp only [Value.slice.injEq,true_and] at e
       obtain⟨rfl,rfl⟩:=e
       obtain⟨la,an,ao,al,ac,a0,a1,na⟩:=(HVQ.out.below HBE.out zL).at k hkl
       obtain⟨lb,bn,bo,bl,bc,b0,b1,nb⟩:=(HVP.out.below HBE.out zL).at k hkl
       have NA:=hide na;have NB:=hide nb
       have lQ:QB<wr.heap.size:=zT lQB HBE.out.size
       have lP:PB<wr.heap.size:=zT lPB HBE.out.size
       clear na nb
       generalize zs.getD k 0=x at *
       go_wp2_with fail
       go_region_held3 (fun w'=>w'.cell? ⟨QB,0,none⟩=some (.slice (some ⟨bq,oq,none⟩) zs.length qc)∧w'.cell? ⟨PB,0,none⟩=some (.slice (some ⟨bp',op,none⟩) zs.length pc)∧w'.cell? ⟨bq,oq+k*2,none⟩=some (.bool an)∧w'.cell? ⟨bq,oq+k*2+1,none⟩=some (.slice ao al ac)∧w'.cell? ⟨bp',op+k*2,none⟩=some (.bool bn)∧w'.cell? ⟨bp',op+k*2+1,none⟩=some (.slice bo bl bc)) (go_keep)
        (first
         |(go_at_call 15;refine(zgm _ _ _ x _ _ (by exact NA.out) (by exact NB.out)).mono ?_;rintro e w15 ⟨rfl,hb15⟩;have HB15:=hide (show Below wr.heap.size wr w15 from(Below.refl _ _).drew.trans (hb15.mono (by simp)));have p0:=(HB15.out.cell (p:=⟨QB,0,none⟩) lQ).trans q0;have p1:=(HB15.out.cell (p:=⟨PB,0,none⟩) lP).trans q1;have p2:=(HB15.out.cell (p:=⟨bq,oq+k*2,none⟩) la).trans a0;have p3:=(HB15.out.cell (p:=⟨bq,oq+k*2+1,none⟩) la).trans a1;have p4:=(HB15.out.cell (p:=⟨bp',op+k*2,none⟩) lb).trans b0;have p5:=(HB15.out.cell (p:=⟨bp',op+k*2+1,none⟩) lb).trans b1;clear hb15))
       have HBN:=hide (HBE.out.trans (HB15.out.mono HBE.out.size))
       clear q0 q1 a0 a1 b0 b1 p0 p1 p2 p3 p4 p5 NA NB HB15
       go_wp2
       go_roundw
       case rel=>exact⟨k+1,by omega,by go_num,HBN⟩
       case measure=>simp [intOf];omega
      ·obtain rfl:k=zs.length:=by omega
       have HBZ:=hide (HBW.out.trans (HBE.out.mono HBW.out.size))
       go_wp2
       go_ret
       exact⟨rfl,HBZ.out⟩
   ·have hnn':¬((n:Int)=(nb:Int)):=by omega
    have g0:((n:Int) !=(nb:Int))=true:=by rw [bne_iff_ne];exact hnn'
    have g1:((n:Int) ==(nb:Int))=false:=beq_eq_false_iff_ne.2 hnn'
    go_wp2
    go_ret
    exact⟨rfl,HBW5.out⟩
open Go.ChangeShapes Go.WideShapes Go.ChangeAt Go.Joins
theorem Tryz.cellsGens:Tryz.prog.cellsOf 53=2:=by kernel_rfl
theorem Tryz.cellsIntS:Tryz.prog.cellsOf 38=1:=by kernel_rfl
theorem Tryz.cellsInt:Tryz.prog.cellsOf 3=1:=by kernel_rfl
theorem zjY {H:Type}{enc:TypeId × Value→H}{n:Nat}{y:DataW H × List MemPlace}
  (h:DataW.trod enc Tryz.prog W 0 (fun _=>true) true n 38 [v]=some y):∃ ks,RowS W v ks:=by
 rcases open_ints Tryz.underlying38 Tryz.underlying3 Tryz.cellsInt h with⟨hcs,_⟩ |⟨x,l,c,zs,hcs,_,hl,hm,hz,_,hcell,hwz⟩
 ·simp only [List.cons.injEq,and_true] at hcs
  subst hcs
  exact⟨[],none,0,rfl,Nat.le_refl _,fun i=>by simp,fun h=>absurd h (by simp)⟩
 ·simp only [List.cons.injEq,and_true] at hcs
  subst hcs
  have hz':zs.length=c:=by simpa using hz
  have hlen:(zs.take l).length=l:=by rw [List.length_take];omega
  refine⟨zs.take l,some x,c,by rw [hlen],by rw [hlen];exact hl,fun i=>?_,fun h0=>?_⟩
  ·by_cases hi:i<(zs.take l).length
   ·rw [List.getD_eq_getElem?_getD,List.getElem?_eq_getElem hi,Option.getD_some]
    have:=hwz _ (List.mem_of_mem_take (List.getElem_mem hi))
    simp [Lit.wf,IntKind.min,IntKind.max,IntKind.signed,IntKind.bits] at this
    rw [List.getElem_take]
    omega
   ·rw [List.getD_eq_getElem?_getD,List.getElem?_eq_none (by omega)]
    simp
  ·obtain⟨blk,off,spot⟩:=x
   rw [hlen] at h0
   have h00:=hcell 0 (by omega)
   have hspot:spot=none:=by simpa [Addr.add] using World.cell?_spot h00
   subst hspot
   refine⟨blk,off,rfl,World.block_lt_of_cell? W _ h00,fun i hi=>?_⟩
   rw [hlen] at hi
   have:=hcell i (by omega)
   rw [zaM zs l i (by omega)]
   by_cases hi0:i=0
   ·subst hi0;simpa [Addr.add] using this
   ·simpa [Addr.add,hi0] using this
theorem zfO {H:Type}{enc:TypeId × Value→H}{r:Reach}{b0:Nat}{d:DataW H}{p:List MemPlace}
  (hv:Value.okWide Tryz.prog W r b0 53 v) (h:DataW.Trod enc Tryz.prog W 0 (fun _=>true) true 53 v d p):
  ∃ nI go gcap rs,v=.agg #[.int .i64 nI,.slice go rs.length gcap]∧RowsS W (.slice go rs.length gcap) rs:=by
 obtain⟨c0,c1,y0,y1,m,rfl,rfl,rfl,hy0,hy1⟩:=open_agg2 Tryz.underlying53 (by kernel_rfl) Tryz.cellsGens hv h
 obtain⟨nI,e0,-,-⟩:=DataW.trod_int Tryz.underlying3 hy0
 simp only [List.cons.injEq,and_true] at e0
 subst e0
 rcases Go.Deep.open_slice1 Tryz.underlying51 Tryz.cellsIntS hy1 with⟨hcs,_⟩ |⟨a,l,c,m,n,V,D,Pl,hcs,_,hl,hm,hmm,_,hc⟩
 ·simp only [List.cons.injEq,and_true] at hcs
  subst hcs
  exact⟨nI,none,0,[],rfl,none,0,rfl,by simp,fun h=>absurd h (by simp)⟩
 ·simp only [List.cons.injEq,and_true] at hcs
  subst hcs
  have hm':l≤m:=by simp at hmm;omega
  have each:∀ i,i<l→∃ ks:List Int,RowS W (V i) ks:=fun i hi=>zjY (hc i (by omega)).2
  obtain⟨q,hq⟩:=Go.Deep.choose_lt each
  have hlen:((List.range l).map q).length=l:=by simp
  refine⟨nI,some a,c,(List.range l).map q,by rw [hlen],some a,c,rfl,by rw [hlen];exact hl,fun h0=>?_⟩
  rw [hlen] at h0
  obtain⟨k0,-⟩:=hc 0 (by omega)
  obtain⟨blk,off,spot⟩:=a
  have hsp:spot=none:=by simpa [Addr.add] using World.cell?_spot k0
  subst hsp
  refine⟨blk,off,rfl,by simpa [Addr.add] using World.block_lt_of_cell? W _ k0,fun i rs hi=>?_⟩
  obtain⟨hi',e⟩:=List.getElem?_eq_some_iff.1 hi
  rw [hlen] at hi'
  have e':rs=q i:=by simpa using e.symm
  obtain⟨c0,-⟩:=hc i (by omega)
  rw [Go.WideShapes.add_plain] at c0
  rw [e']
  exact⟨_,c0,hq i hi'⟩
end Go.Proofs.YtdedolkgcdlmeaaGreatDoor
