import Derived.Test.YtnhbfehfipafoaaGreatDoorSrV
namespace Go.Proofs.YtnhbfehfipafoaaGreatDoor
open Go.RowKit
theorem ActB.stepX {W W':World}{B A:Nat}{g:Option Nat}{p:ActW}(x:ActB W A p)(k:StepX B (exP B g) W W'):ActB W' A p:=k.stay x fun e=>by
 rcases e.2 with e | e | e |⟨e,-⟩
 ·exact zdc e
 ·exact absurd e (by decide)
 ·exact absurd e (by decide)
 ·exact absurd e (by decide)
theorem RfS.closed {wI W:World}{B Q M mn:Nat}{l:List Nmd}{us:Nat}{st:DeedV}{g:Option Nat}(h:RfS wI W B Q M mn l us st g):
  RfS wI (W.setCell ⟨Q,1,none⟩ (.bool false)) B Q M mn l us none none∧StepX B (exR B g) W (W.setCell ⟨Q,1,none⟩ (.bool false))∧W.frozen? ⟨Q,1,none⟩=false∧∃ c:Bool,W.cell? ⟨Q,1,none⟩=some (.bool c):=by
 have hfl:=h.flag
 obtain⟨so,sn,sk,qs,h1,h2,h3,h4,h5,h6,h7,h8,h9,h10⟩:=h
 obtain⟨b,cv,ov,hx⟩:∃ b cv ov,RsB W Q M b cv ov:=by
  match st,h10 with
  | none,⟨cv,ov,hx⟩=>exact⟨_,cv,ov,hx⟩
  | some (os,made),⟨osC,⟨oo,on,oc,o,n,k,ps,hx,_⟩,_⟩=>exact⟨_,_,_,hx⟩
 have hk:ButB W.heap.size Q W (W.setCell ⟨Q,1,none⟩ (.bool false)):=(ButB.of (Below.refl _ _)).set 1 _
 exact⟨⟨so,sn,sk,qs,hk.stays h1 (zY hx h1).symm,h2.keepK (zV hx zag hk),h3,h4,h5,h6,h7,Nat.le_trans h8 hk.size,(fun i hi=>by cases hi),cv,ov,hx.set1 false⟩,zbO hx h6 hk,hx.cells.2.2.2.2 1,_,hfl⟩
set_option linter.unusedSimpArgs false in
set_option maxRecDepth 100000 in
set_option maxHeartbeats 6400000 in
theorem zjx (w:World)(v:Value)(al:List ActW)(hal:ActsW w v al)(ht:TabP w)(hx:MaxL w):
  Calls Tryz.prog 4 #[v] w fun e w'=>e=.returned (.bool true)∧Below w.heap.size w w':=by
 have HAL:=hide hal;have HT:=hide ht;have HX:=hide hx
 obtain⟨ao,acap,rfl,-⟩:=id hal
 obtain⟨N,hN⟩:∃ N,al.length=N:=⟨_,rfl⟩
 have HN:=hide hN
 rw [hN]
 clear hal ht hx hN
 go_enter Tryz.func4,Tryz.ntmps4
 go_wp2_with fail
 refine(zj9 w HT.out HX.out).mono ?_
 rintro e w1 ⟨rfl,hb1⟩
 have HB1:=hide hb1
 clear hb1
 go_wp2_with fail
 rw [← HN.out]
 refine(zhj w1 _ al 100 (HAL.out.below HB1.out) (by decide)).mono ?_
 rintro e w2 ⟨b,rfl,hlb,hb2⟩
 rw [HN.out]
 have HB2:=hide (HB1.out.trans (hb2.mono HB1.out.size));have HLB:=hide hlb
 clear hb2 HB1 hlb
 cases b with
 | false=>
  go_wp2
  go_ret
  exact⟨rfl,HB2.out⟩
 | true=>
 have hlt:=HLB.out rfl
 have HLT:=hide hlt.2
 have hN60:N≤100:=by rw [← HN.out];exact hlt.1
 clear hlt HLB
 go_wp2_with fail
 refine(zfC w2 100 (by decide) (by decide) (HT.out.below HB2.out) (HX.out.below HB2.out)).mono ?_
 rintro e w3 ⟨S0,D,h,rfl,-,hp3,hf3,hb3⟩
 obtain⟨B,hB⟩:∃ B,w2.heap.size=B:=⟨_,rfl⟩
 have HBB:Hid (w.heap.size≤B):=by show _≤_;rw [← hB];exact HB2.out.size
 have HBS3:Hid (B≤w3.heap.size):=by show _≤_;rw [← hB];exact hb3.size
 rw [hB] at hp3 ⊢
 have HP3:=hide hp3;have HF3:=hide hf3;have HB3:=hide (HB2.out.trans (hb3.mono HB2.out.size))
 clear hp3 hf3 hb3 hB HB2
 go_wp2_with fail
 refine(zdb w3 B B D 100 h [] 0 HP3.out.disk HP3.out.says (by decide) (by decide) (HT.out.below HB3.out) (HX.out.below HB3.out) HBS3.out).mono ?_
 intro e w5 hxo
 obtain⟨X,rfl,hp5,hb5⟩:=hxo.prS HF3.out HBS3.out
 have hbA:=zc w5 (.cells #[.slice none 0 0,.int .i64 0,.int .i64 18] 39)
 have hbQ:=zc (w5.alloc (.cells #[.slice none 0 0,.int .i64 0,.int .i64 18] 39)) (.cells #[.pointer (some ⟨w5.heap.size,0,none⟩),.bool false,.slice none 0 0,.slice none 0 0] 64)
 have hB5:=HB3.out.trans (hb5.mono HB3.out.size)
 have hBA:=hB5.trans (hbA.mono hB5.size)
 have HM7:RstB (w5.alloc (.cells #[.slice none 0 0,.int .i64 0,.int .i64 18] 39)) w5.heap.size (.slice none 0 0) ((0:Nat):Int) ((18:Nat):Int):=heap_alloc_new w5 _
 have hBSA:B≤(w5.alloc (.cells #[.slice none 0 0,.int .i64 0,.int .i64 18] 39)).heap.size:=Nat.le_trans HBS3.out (Nat.le_trans hb5.size hbA.size)
 have HR7:Hid (RfS w ((w5.alloc (.cells #[.slice none 0 0,.int .i64 0,.int .i64 18] 39)).alloc (.cells #[.pointer (some ⟨w5.heap.size,0,none⟩),.bool false,.slice none 0 0,.slice none 0 0] 64)) B (w5.alloc (.cells #[.slice none 0 0,.int .i64 0,.int .i64 18] 39)).heap.size w5.heap.size 18 [] 0 none none):=
  ⟨none,0,0,[],HM7.later hbQ,zb4 _,rfl,hp5.okL,by omega,hBSA,Nat.le_trans HBS3.out hb5.size,Nat.le_trans hBSA hbQ.size,(fun i hi=>by cases hi),_,_,heap_alloc_new _ _⟩
 have HP7:=hide ((hp5.later hbA).later hbQ);have HB7:=hide (hBA.trans (hbQ.mono hBA.size))
 have HBS7:Hid (B≤((w5.alloc (.cells #[.slice none 0 0,.int .i64 0,.int .i64 18] 39)).alloc (.cells #[.pointer (some ⟨w5.heap.size,0,none⟩),.bool false,.slice none 0 0,.slice none 0 0] 64)).heap.size):=Nat.le_trans hBSA hbQ.size
 clear hxo hp5 hb5 hbA hbQ hB5 hBA HM7 hBSA HP3 HF3 HB3 HBS3
 go_wp2_with fail
 obtain⟨Q,hQ⟩:∃ Q,(w5.alloc (.cells #[.slice none 0 0,.int .i64 0,.int .i64 18] 39)).heap.size=Q:=⟨_,rfl⟩
 have hQ':w5.heap.size+1=Q:=by rw [← hQ];simp
 try rw [hQ]
 try rw [hQ']
 rw [hQ] at HR7
 generalize ((w5.alloc (.cells #[.slice none 0 0,.int .i64 0,.int .i64 18] 39)).alloc (.cells #[.pointer (some ⟨w5.heap.size,0,none⟩),.bool false,.slice none 0 0,.slice none 0 0] 64))=w8 at *
 clear hQ hQ'
 generalize w5.heap.size=M at *
 go_loopw [7,10] (fun xv ix wr=>∃(k X:Nat) (l:List Nmd) (en:Nat) (st:DeedV) (g gr:Option Nat),xv=.pointer (some ⟨X,0,none⟩)∧k≤N∧ix=.int .i64 k∧Hid (PrS wr B 100 X l en st g)∧Hid (RfS w wr B Q M 18 l en st gr)∧Hid (∀ i,g=some i→gr≠some i)∧Hid (Below w.heap.size w wr)∧Hid (B≤wr.heap.size)) (fun _ ix _=>N - (intOf ix).toNat)
 case atStart=>exact⟨0,X,[],0,none,none,none,rfl,Nat.zero_le _,rfl,HP7,HR7,(fun i hi=>by cases hi),HB7,HBS7⟩
 case round=>
  clear HP7 HR7 HB7 HBS7
  obtain⟨k,X,l,en,st,g,gr,rfl,hk,rfl,HP,HR,HNE,HBW,HBS⟩:=hrel
  by_cases hkl:k < N
  ·obtain⟨p,hp⟩:∃ p,al[k]?=some p:=⟨_,List.getElem?_eq_getElem (by rw [HN.out];exact hkl)⟩
   have hal3:=HAL.out
   obtain⟨b,off,cap',e,hlt,hok,hc⟩:=(hal3.below HBW.out).at hp
   rw [HN.out] at e
   simp only [Value.slice.injEq,true_and] at e
   obtain⟨rfl,rfl⟩:=e
   have hlp:=HLT.out p (List.mem_of_getElem? hp)
   obtain⟨_,_,_,-,-,hok0,-⟩:=hal3.at hp
   obtain⟨kd,a,ps,kk,⟨⟨okd,name,on,vs⟩,vo,vc⟩,ov,os⟩:=p
   have HROW:Hid (RowS w (.slice vo vs.length vc) vs):=hok0.op
   obtain⟨xo,xc,hov,-⟩:=hok.ops
   dsimp only at hov
   subst hov
   have HVL:Hid (vs.length≤20):=by
    show _≤_
    have h1:vs.length≤10:=hlp.2.2.1
    omega
   have d0:wr.cell? ⟨b,off+k * 9,none⟩=some (.string kd):=hc 0 _ rfl
   have d1:wr.cell? ⟨b,off+k * 9+1,none⟩=some (.int .i64 a):=hc 1 _ rfl
   have d2:wr.cell? ⟨b,off+k * 9+2,none⟩=some (.string ps):=hc 2 _ rfl
   have d3:wr.cell? ⟨b,off+k * 9+3,none⟩=some (.int .u64 kk):=hc 3 _ rfl
   have d4:wr.cell? ⟨b,off+k * 9+4,none⟩=some (.int .i64 okd):=hc 4 _ rfl
   have d5:wr.cell? ⟨b,off+k * 9+5,none⟩=some (.string name):=hc 5 _ rfl
   have d6:wr.cell? ⟨b,off+k * 9+6,none⟩=some (.int .i64 on):=hc 6 _ rfl
   have d7:wr.cell? ⟨b,off+k * 9+7,none⟩=some (.slice vo vs.length vc):=hc 7 _ rfl
   have d8:wr.cell? ⟨b,off+k * 9+8,none⟩=some (.slice xo os.length xc):=hc 8 _ rfl
   obtain⟨oo,hoo⟩:∃ oo,off+k * 9=oo:=⟨_,rfl⟩
   rw [hoo] at d0 d1 d2 d3 d4 d5 d6 d7 d8
   clear hc hok hok0 hlp hp hal3
   have hbA:=zc wr (.cells #[.string kd,.int .i64 a,.string ps,.int .u64 kk,.int .i64 okd,.string name,.int .i64 on,.slice vo vs.length vc,.slice xo os.length xc] 46)
   have HQA:Hid (ActB (wr.alloc (.cells #[.string kd,.int .i64 a,.string ps,.int .u64 kk,.int .i64 okd,.string name,.int .i64 on,.slice vo vs.length vc,.slice xo os.length xc] 46)) wr.heap.size ⟨kd,a,ps,kk,⟨⟨okd,name,on,vs⟩,vo,vc⟩,.slice xo os.length xc,os⟩):=ActB.new wr ⟨kd,a,ps,kk,⟨⟨okd,name,on,vs⟩,vo,vc⟩,.slice xo os.length xc,os⟩
   have HPa:=hide (HP.out.later hbA);have HRa:=hide (HR.out.later hbA);have HBWa:=hide (HBW.out.trans (hbA.mono HBW.out.size))
   have HBSa:Hid (B≤(wr.alloc (.cells #[.string kd,.int .i64 a,.string ps,.int .u64 kk,.int .i64 okd,.string name,.int .i64 on,.slice vo vs.length vc,.slice xo os.length xc] 46)).heap.size):=Nat.le_trans HBS.out hbA.size
   have c0:(wr.alloc (.cells #[.string kd,.int .i64 a,.string ps,.int .u64 kk,.int .i64 okd,.string name,.int .i64 on,.slice vo vs.length vc,.slice xo os.length xc] 46)).cell? ⟨wr.heap.size,0,none⟩=some (.string kd):=HQA.out.cells 0 _ rfl
   have c4:(wr.alloc (.cells #[.string kd,.int .i64 a,.string ps,.int .u64 kk,.int .i64 okd,.string name,.int .i64 on,.slice vo vs.length vc,.slice xo os.length xc] 46)).cell? ⟨wr.heap.size,4,none⟩=some (.int .i64 okd):=HQA.out.cells 4 _ rfl
   have c5:(wr.alloc (.cells #[.string kd,.int .i64 a,.string ps,.int .u64 kk,.int .i64 okd,.string name,.int .i64 on,.slice vo vs.length vc,.slice xo os.length xc] 46)).cell? ⟨wr.heap.size,5,none⟩=some (.string name):=HQA.out.cells 5 _ rfl
   have c6:(wr.alloc (.cells #[.string kd,.int .i64 a,.string ps,.int .u64 kk,.int .i64 okd,.string name,.int .i64 on,.slice vo vs.length vc,.slice xo os.length xc] 46)).cell? ⟨wr.heap.size,6,none⟩=some (.int .i64 on):=HQA.out.cells 6 _ rfl
   have c7:(wr.alloc (.cells #[.string kd,.int .i64 a,.string ps,.int .u64 kk,.int .i64 okd,.string name,.int .i64 on,.slice vo vs.length vc,.slice xo os.length xc] 46)).cell? ⟨wr.heap.size,7,none⟩=some (.slice vo vs.length vc):=HQA.out.cells 7 _ rfl
   clear hbA HP HR HBW HBS
   have HP:=HPa;have HR:=HRa;have HBW:=HBWa;have HBS:=HBSa
   clear HPa HRa HBWa HBSa
   go_upto_block 2 with fail
   go_cut [7,12,13,14,73,80,91,98,105] from 58 to 111 (fun v7 v12 v13 v14 v73 v80 v91 v98 v105 wc=>∃ X l en st g gr,v7=.pointer (some ⟨X,0,none⟩)∧v12=.bool true∧PrS wc B 100 X l en st g∧RfS w wc B Q M 18 l en st gr∧(∀ i,g=some i→gr≠some i)∧Below w.heap.size w wc∧B≤wc.heap.size)
   case first=>
    by_cases q0:kd.toList=[98,101,103,105,110]
    ·have e0:(kd.toList == [98,101,103,105,110])=true:=beq_iff_eq.2 q0
     clear q0
     go_wp2_with fail
     clear d0 d1 d2 d3 d4 d5 d6 d7 d8 c0 c4 c5 c6 c7
     generalize wr.alloc (.cells #[.string kd,.int .i64 a,.string ps,.int .u64 kk,.int .i64 okd,.string name,.int .i64 on,.slice vo vs.length vc,.slice xo os.length xc] 46)=w4 at *
     generalize wr.heap.size=A4 at *
     have HPQ:Hid (∃(F:Nat) (l6:List Nmd) (n6:Nat) (st6:DeedV),(Calls Tryz.prog 26 #[.pointer (some ⟨X,0,none⟩)] w4 fun e w'=>PrP w4 B 100 X g F l6 n6 st6 e w')∧∀ W,RfS w W B Q M 18 l en st gr→Below w.heap.size w W→Calls Tryz.prog 27 #[.pointer (some ⟨Q,0,none⟩)] W fun e w'=>RfP w W B Q M 18 gr F l6 n6 st6 e w'):=⟨_,_,_,_,ze2 w4 B 100 X l en st g HP.out,fun W h hb=>zid w W B Q M 18 l en st gr h⟩
     obtain⟨F,l6,n6,st6,hP,hQ⟩:=HPQ.out
     have HPP:=hide hP;have HQQ:=hide hQ
     clear hP hQ HPQ
     refine HPP.out.mono ?_
     rintro e w5 ⟨rfl,g5,hp5,hs5,hg5⟩
     have HR5:=hide (HR.out.stepP hs5 HNE.out);have HP5:=hide hp5;have HB5:=hide (hs5.below HBW.out HBB.out HBW.out.size)
     have HN5:Hid (∀ i,g5=some i→gr≠some i):=fun i hi e=>by
      rcases hg5 i hi with h | h
      ·exact HNE.out i h e
      ·have:=HR.out.hi i e
       omega
     have HBS5:Hid (B≤w5.heap.size):=Nat.le_trans HBS.out hs5.size
     clear hp5 hs5 hg5 HP HR HNE HBW HBS HPP HQA
     go_wp2_with fail
     refine(HQQ.out _ HR5.out HB5.out).mono ?_
     rintro e w6 ⟨rfl,g6,hr6,hs6,hg6⟩
     have HP6:=hide (HP5.out.stepR hs6 HN5.out);have HR6:=hide hr6;have HB6:=hide (hs6.below HB5.out HBB.out HB5.out.size)
     have HN6:Hid (∀ i,g5=some i→g6≠some i):=fun i hi e=>by
      rcases hg6 i e with h | h
      ·exact HN5.out i hi h
      ·have:=HP5.out.hi i hi
       omega
     have HBS6:Hid (B≤w6.heap.size):=Nat.le_trans HBS5.out hs6.size
     clear hr6 hs6 hg6 HP5 HR5 HN5 HB5 HBS5 HQQ
     go_wp2_with fail
     refine(zaX F _).mono ?_
     rintro e w7 ⟨rfl,rfl⟩
     go_wp2
     go_meet
     case rel=>exact⟨X,l6,n6,st6,g5,g6,rfl,rfl,HP6.out,HR6.out,HN6.out,HB6.out,HBS6.out⟩
    have e0:(kd.toList == [98,101,103,105,110])=false:=beq_eq_false_iff_ne.2 q0
    by_cases q1:kd.toList=[100,111]
    ·have e1:(kd.toList == [100,111])=true:=beq_iff_eq.2 q1
     clear q0 q1
     go_wp2_with fail
     clear d0 d1 d2 d3 d4 d5 d6 d7 d8 c0 c4 c5 c6 c7
     generalize wr.alloc (.cells #[.string kd,.int .i64 a,.string ps,.int .u64 kk,.int .i64 okd,.string name,.int .i64 on,.slice vo vs.length vc,.slice xo os.length xc] 46)=w4 at *
     generalize wr.heap.size=A4 at *
     have hbd:Below w4.heap.size w4 w4.drew:=(Below.refl _ _).drew
     have HPa:=hide (HP.out.later hbd);have HRa:=hide (HR.out.later hbd);have HBWa:=hide (HBW.out.trans (hbd.mono HBW.out.size));have HQAa:=hide (HQA.out.later hbd)
     have HBSa:Hid (B≤w4.drew.heap.size):=Nat.le_trans HBS.out hbd.size
     have hq0:=HQA.out.later hbd
     have hS0:w4.drew.cell? ⟨A4,4,none⟩=some (.int .i64 okd)∧w4.drew.cell? ⟨A4,5,none⟩=some (.string name)∧w4.drew.cell? ⟨A4,6,none⟩=some (.int .i64 on)∧w4.drew.cell? ⟨A4,7,none⟩=some (.slice vo vs.length vc):=⟨hq0.cells 4 _ rfl,hq0.cells 5 _ rfl,hq0.cells 6 _ rfl,hq0.cells 7 _ rfl⟩
     clear HP HR HBW HBS HQA hbd hq0
     have HP:=HPa;have HR:=HRa;have HBW:=HBWa;have HBS:=HBSa;have HQA:=HQAa
     clear HPa HRa HBWa HBSa HQAa
     refine zo (A:=fun j=>decide (j=2∨j=3∨j=6)) (S:=(fun w'=>w'.cell? ⟨A4,4,none⟩=some (.int .i64 okd)∧w'.cell? ⟨A4,5,none⟩=some (.string name)∧w'.cell? ⟨A4,6,none⟩=some (.int .i64 on)∧w'.cell? ⟨A4,7,none⟩=some (.slice vo vs.length vc))) (by kernel_rfl) (by exact hS0) (fun hHeld=>?_)
     generalize w4.drew=w0 at *
     have HPQ:Hid (∃(F:Nat) (l6:List Nmd) (n6:Nat) (st6:DeedV),(Calls Tryz.prog 28 #[.pointer (some ⟨X,0,none⟩),.agg #[.int .i64 okd,.string name,.int .i64 on,.slice vo vs.length vc]] w0 fun e w'=>PrP w0 B 100 X g F l6 n6 st6 e w')∧∀ W,RfS w W B Q M 18 l en st gr→Below w.heap.size w W→Calls Tryz.prog 29 #[.pointer (some ⟨Q,0,none⟩),.agg #[.int .i64 okd,.string name,.int .i64 on,.slice vo vs.length vc]] W fun e w'=>RfP w W B Q M 18 gr F l6 n6 st6 e w'):=⟨_,_,_,_,ze4 _ B 100 X l en st g ⟨okd,name,on,vs⟩ vo vc HP.out (by decide) (by decide) (HT.out.below HBW.out) (fun W hk=>HROW.out.below (hk.below HBW.out HBB.out HBW.out.size) (Nat.le_refl _)) HVL.out,fun W h hb=>zif w W B Q M 18 l en st gr h (by decide) hb ⟨okd,name,on,vs⟩ vo vc HROW.out HVL.out⟩
     obtain⟨F,l6,n6,st6,hP,hQ⟩:=HPQ.out
     have HPP:=hide hP;have HQQ:=hide hQ
     clear hP hQ HPQ
     refine zf (v:=?_) 0 82 rfl rfl (by kernel_rfl) (by kernel_rfl) (by kernel_rfl) (by kernel_rfl) (fun _ _ _ h=>h) (by rfl) ?_ ?_
     rotate_left
     ·(intro w;go_simp;with_reducible rfl)
     simp only [Act.put,List.setIfInBounds_toArray,List.set_cons_zero,List.set_cons_succ]
     refine zf (v:=?_) 1 83 rfl rfl (by kernel_rfl) (by kernel_rfl) (by kernel_rfl) (by kernel_rfl) (fun _ _ _ h=>h) (by rfl) ?_ ?_
     rotate_left
     ·(intro w;go_simp;with_reducible rfl)
     simp only [Act.put,List.setIfInBounds_toArray,List.set_cons_zero,List.set_cons_succ]
     refine zf (v:=?_) 4 86 rfl rfl (by kernel_rfl) (by kernel_rfl) (by kernel_rfl) (by kernel_rfl) (fun _ _ _ h=>h) (by rfl) ?_ ?_
     rotate_left
     ·(intro w;go_simp;with_reducible rfl)
     simp only [Act.put,List.setIfInBounds_toArray,List.set_cons_zero,List.set_cons_succ]
     refine zf (v:=?_) 5 87 rfl rfl (by kernel_rfl) (by kernel_rfl) (by kernel_rfl) (by kernel_rfl) (fun _ _ _ h=>h) (by rfl) ?_ ?_
     rotate_left
     ·(intro w;go_simp;with_reducible rfl)
     simp only [Act.put,List.setIfInBounds_toArray,List.set_cons_zero,List.set_cons_succ]
     refine zb (v:=?_) 2 84 [3,7,8,9] rfl rfl (by kernel_rfl) (by kernel_rfl) (by kernel_rfl) (by kernel_rfl) (fun _ _ _ h=>h) (by rfl) ?_ (by assumption) ?_
     rotate_left
     ·(intro w hSw;(try dsimp only at hSw);go_simp;with_reducible rfl)
     simp only [Act.put,List.setIfInBounds_toArray,List.set_cons_zero,List.set_cons_succ]
     refine zb (v:=?_) 6 88 [7,8,9] rfl rfl (by kernel_rfl) (by kernel_rfl) (by kernel_rfl) (by kernel_rfl) (fun _ _ _ h=>h) (by rfl) ?_ (by assumption) ?_
     rotate_left
     ·(intro w hSw;(try dsimp only at hSw);go_simp;with_reducible rfl)
     simp only [Act.put,List.setIfInBounds_toArray,List.set_cons_zero,List.set_cons_succ]
     clear hS0 hHeld
     refine ze 3 (by kernel_rfl) rfl (fun K hK=>?_)
     go_simp
     refine HPP.out.mono ?_
     rintro e w5 ⟨rfl,g5,hp5,hs5,hg5⟩
     have HR5:=hide (HR.out.stepP hs5 HNE.out);have HP5:=hide hp5;have HB5:=hide (hs5.below HBW.out HBB.out HBW.out.size)
     have HN5:Hid (∀ i,g5=some i→gr≠some i):=fun i hi e=>by
      rcases hg5 i hi with h | h
      ·exact HNE.out i h e
      ·have:=HR.out.hi i e
       omega
     have HBS5:Hid (B≤w5.heap.size):=Nat.le_trans HBS.out hs5.size
     have hq5:=HQA.out.stepX hs5
     clear hp5 hs5 hg5 HP HR HNE HBW HBS HPP HQA
     refine hK.out _ _ (fun _=>⟨hq5.cells 4 _ rfl,hq5.cells 5 _ rfl,hq5.cells 6 _ rfl,hq5.cells 7 _ rfl⟩) ?_
     clear hK K
     try simp only [Act.put,List.setIfInBounds_toArray,List.set_cons_zero,List.set_cons_succ]
     clear hq5
     refine ze 7 (by kernel_rfl) rfl (fun K hK=>?_)
     go_simp
     refine(HQQ.out _ HR5.out HB5.out).mono ?_
     rintro e w6 ⟨rfl,g6,hr6,hs6,hg6⟩
     have HP6:=hide (HP5.out.stepR hs6 HN5.out);have HR6:=hide hr6;have HB6:=hide (hs6.below HB5.out HBB.out HB5.out.size)
     have HN6:Hid (∀ i,g5=some i→g6≠some i):=fun i hi e=>by
      rcases hg6 i e with h | h
      ·exact HN5.out i hi h
      ·have:=HP5.out.hi i hi
       omega
     have HBS6:Hid (B≤w6.heap.size):=Nat.le_trans HBS5.out hs6.size
     clear hr6 hs6 hg6 HP5 HR5 HN5 HB5 HBS5 HQQ
     refine hK.out _ _ (fun h=>absurd h (by decide)) ?_
     clear hK K
     try simp only [Act.put,List.setIfInBounds_toArray,List.set_cons_zero,List.set_cons_succ]
     refine ze 8 (by kernel_rfl) rfl (fun K hK=>?_)
     go_simp
     refine(zaX F _).mono ?_
     rintro e w7 ⟨rfl,hw7⟩
     subst hw7
     refine hK.out _ _ (fun h=>absurd h (by decide)) ?_
     clear hK K
     try simp only [Act.put,List.setIfInBounds_toArray,List.set_cons_zero,List.set_cons_succ]
     refine zf (v:=?_) 9 12 rfl rfl (by kernel_rfl) (by kernel_rfl) (by kernel_rfl) (by kernel_rfl) (fun _ _ _ h=>h) (by rfl) ?_ ?_
     rotate_left
     ·(intro w;go_simp;with_reducible rfl)
     simp only [Act.put,List.setIfInBounds_toArray,List.set_cons_zero,List.set_cons_succ]
     refine zm (by kernel_rfl) ?_
     go_wp2
     go_meet
     case rel=>exact⟨X,l6,n6,st6,g5,g6,rfl,rfl,HP6.out,HR6.out,HN6.out,HB6.out,HBS6.out⟩
    have e1:(kd.toList == [100,111])=false:=beq_eq_false_iff_ne.2 q1
    by_cases q2:kd.toList=[99,111,109,109,105,116]
    ·have e2:(kd.toList == [99,111,109,109,105,116])=true:=beq_iff_eq.2 q2
     clear q0 q1 q2
     go_wp2_with fail
     clear d0 d1 d2 d3 d4 d5 d6 d7 d8 c0 c4 c5 c6 c7
     generalize wr.alloc (.cells #[.string kd,.int .i64 a,.string ps,.int .u64 kk,.int .i64 okd,.string name,.int .i64 on,.slice vo vs.length vc,.slice xo os.length xc] 46)=w4 at *
     generalize wr.heap.size=A4 at *
     have HPQ:Hid (∃(F:Nat) (l6:List Nmd) (n6:Nat) (st6:DeedV),(Calls Tryz.prog 30 #[.pointer (some ⟨X,0,none⟩)] w4 fun e w'=>PrP w4 B 100 X g F l6 n6 st6 e w')∧∀ W,RfS w W B Q M 18 l en st gr→Below w.heap.size w W→Calls Tryz.prog 31 #[.pointer (some ⟨Q,0,none⟩)] W fun e w'=>RfP w W B Q M 18 gr F l6 n6 st6 e w'):=⟨_,_,_,_,ze3 w4 B 100 X l en st g HP.out (by decide) (by decide) (HT.out.below HBW.out),fun W h hb=>zie w W B Q M 18 l en st gr h (by decide) hb⟩
     obtain⟨F,l6,n6,st6,hP,hQ⟩:=HPQ.out
     have HPP:=hide hP;have HQQ:=hide hQ
     clear hP hQ HPQ
     refine HPP.out.mono ?_
     rintro e w5 ⟨rfl,g5,hp5,hs5,hg5⟩
     have HR5:=hide (HR.out.stepP hs5 HNE.out);have HP5:=hide hp5;have HB5:=hide (hs5.below HBW.out HBB.out HBW.out.size)
     have HN5:Hid (∀ i,g5=some i→gr≠some i):=fun i hi e=>by
      rcases hg5 i hi with h | h
      ·exact HNE.out i h e
      ·have:=HR.out.hi i e
       omega
     have HBS5:Hid (B≤w5.heap.size):=Nat.le_trans HBS.out hs5.size
     clear hp5 hs5 hg5 HP HR HNE HBW HBS HPP HQA
     go_wp2_with fail
     refine(HQQ.out _ HR5.out HB5.out).mono ?_
     rintro e w6 ⟨rfl,g6,hr6,hs6,hg6⟩
     have HP6:=hide (HP5.out.stepR hs6 HN5.out);have HR6:=hide hr6;have HB6:=hide (hs6.below HB5.out HBB.out HB5.out.size)
     have HN6:Hid (∀ i,g5=some i→g6≠some i):=fun i hi e=>by
      rcases hg6 i e with h | h
      ·exact HN5.out i hi h
      ·have:=HP5.out.hi i hi
       omega
     have HBS6:Hid (B≤w6.heap.size):=Nat.le_trans HBS5.out hs6.size
     clear hr6 hs6 hg6 HP5 HR5 HN5 HB5 HBS5 HQQ
     go_wp2_with fail
     refine(zaX F _).mono ?_
     rintro e w7 ⟨rfl,rfl⟩
     go_wp2
     go_meet
     case rel=>exact⟨X,l6,n6,st6,g5,g6,rfl,rfl,HP6.out,HR6.out,HN6.out,HB6.out,HBS6.out⟩
    have e2:(kd.toList == [99,111,109,109,105,116])=false:=beq_eq_false_iff_ne.2 q2
    by_cases q3:kd.toList=[97,98,111,114,116]
    ·have e3:(kd.toList == [97,98,111,114,116])=true:=beq_iff_eq.2 q3
     clear q0 q1 q2 q3
     go_wp2_with fail
     clear d0 d1 d2 d3 d4 d5 d6 d7 d8 c0 c4 c5 c6 c7
     generalize wr.alloc (.cells #[.string kd,.int .i64 a,.string ps,.int .u64 kk,.int .i64 okd,.string name,.int .i64 on,.slice vo vs.length vc,.slice xo os.length xc] 46)=w4 at *
     generalize wr.heap.size=A4 at *
     have HPQ:Hid (∃(F:Nat) (l6:List Nmd) (n6:Nat) (st6:DeedV),(Calls Tryz.prog 32 #[.pointer (some ⟨X,0,none⟩)] w4 fun e w'=>PrP w4 B 100 X g F l6 n6 st6 e w')∧∀ W,RfS w W B Q M 18 l en st gr→Below w.heap.size w W→Calls Tryz.prog 33 #[.pointer (some ⟨Q,0,none⟩)] W fun e w'=>RfP w W B Q M 18 gr F l6 n6 st6 e w'):=⟨_,_,_,_,zh3 w4 B 100 X l en st g HP.out,fun W h hb=>zic w W B Q M 18 l en st gr h⟩
     obtain⟨F,l6,n6,st6,hP,hQ⟩:=HPQ.out
     have HPP:=hide hP;have HQQ:=hide hQ
     clear hP hQ HPQ
     refine HPP.out.mono ?_
     rintro e w5 ⟨rfl,g5,hp5,hs5,hg5⟩
     have HR5:=hide (HR.out.stepP hs5 HNE.out);have HP5:=hide hp5;have HB5:=hide (hs5.below HBW.out HBB.out HBW.out.size)
     have HN5:Hid (∀ i,g5=some i→gr≠some i):=fun i hi e=>by
      rcases hg5 i hi with h | h
      ·exact HNE.out i h e
      ·have:=HR.out.hi i e
       omega
     have HBS5:Hid (B≤w5.heap.size):=Nat.le_trans HBS.out hs5.size
     clear hp5 hs5 hg5 HP HR HNE HBW HBS HPP HQA
     go_wp2_with fail
     refine(HQQ.out _ HR5.out HB5.out).mono ?_
     rintro e w6 ⟨rfl,g6,hr6,hs6,hg6⟩
     have HP6:=hide (HP5.out.stepR hs6 HN5.out);have HR6:=hide hr6;have HB6:=hide (hs6.below HB5.out HBB.out HB5.out.size)
     have HN6:Hid (∀ i,g5=some i→g6≠some i):=fun i hi e=>by
      rcases hg6 i e with h | h
      ·exact HN5.out i hi h
      ·have:=HP5.out.hi i hi
       omega
     have HBS6:Hid (B≤w6.heap.size):=Nat.le_trans HBS5.out hs6.size
     clear hr6 hs6 hg6 HP5 HR5 HN5 HB5 HBS5 HQQ
     go_wp2_with fail
     refine(zaX F _).mono ?_
     rintro e w7 ⟨rfl,rfl⟩
     go_wp2
     go_meet
     case rel=>exact⟨X,l6,n6,st6,g5,g6,rfl,rfl,HP6.out,HR6.out,HN6.out,HB6.out,HBS6.out⟩
    have e3:(kd.toList == [97,98,111,114,116])=false:=beq_eq_false_iff_ne.2 q3
    by_cases q4:kd.toList=[115,97,118,101]
    ·have e4:(kd.toList == [115,97,118,101])=true:=beq_iff_eq.2 q4
     clear q0 q1 q2 q3 q4
     go_wp2_with fail
     clear d0 d1 d2 d3 d4 d5 d6 d7 d8 c0 c4 c5 c6 c7
     generalize wr.alloc (.cells #[.string kd,.int .i64 a,.string ps,.int .u64 kk,.int .i64 okd,.string name,.int .i64 on,.slice vo vs.length vc,.slice xo os.length xc] 46)=w4 at *
     generalize wr.heap.size=A4 at *
     have HPQ:Hid (∃(F:Nat) (l6:List Nmd) (n6:Nat) (st6:DeedV),(Calls Tryz.prog 34 #[.pointer (some ⟨X,0,none⟩)] w4 fun e w'=>PrP w4 B 100 X g F l6 n6 st6 e w')∧∀ W,RfS w W B Q M 18 l en st gr→Below w.heap.size w W→Calls Tryz.prog 35 #[.pointer (some ⟨Q,0,none⟩)] W fun e w'=>RfP w W B Q M 18 gr F l6 n6 st6 e w'):=⟨_,_,_,_,zib w4 B 100 X l en st g HP.out (by decide) (by decide) (HT.out.below HBW.out),fun W h hb=>zig w W B Q M 18 l en st gr h⟩
     obtain⟨F,l6,n6,st6,hP,hQ⟩:=HPQ.out
     have HPP:=hide hP;have HQQ:=hide hQ
     clear hP hQ HPQ
     refine HPP.out.mono ?_
     rintro e w5 ⟨rfl,g5,hp5,hs5,hg5⟩
     have HR5:=hide (HR.out.stepP hs5 HNE.out);have HP5:=hide hp5;have HB5:=hide (hs5.below HBW.out HBB.out HBW.out.size)
     have HN5:Hid (∀ i,g5=some i→gr≠some i):=fun i hi e=>by
      rcases hg5 i hi with h | h
      ·exact HNE.out i h e
      ·have:=HR.out.hi i e
       omega
     have HBS5:Hid (B≤w5.heap.size):=Nat.le_trans HBS.out hs5.size
     clear hp5 hs5 hg5 HP HR HNE HBW HBS HPP HQA
     go_wp2_with fail
     refine(HQQ.out _ HR5.out HB5.out).mono ?_
     rintro e w6 ⟨rfl,g6,hr6,hs6,hg6⟩
     have HP6:=hide (HP5.out.stepR hs6 HN5.out);have HR6:=hide hr6;have HB6:=hide (hs6.below HB5.out HBB.out HB5.out.size)
     have HN6:Hid (∀ i,g5=some i→g6≠some i):=fun i hi e=>by
      rcases hg6 i e with h | h
      ·exact HN5.out i hi h
      ·have:=HP5.out.hi i hi
       omega
     have HBS6:Hid (B≤w6.heap.size):=Nat.le_trans HBS5.out hs6.size
     clear hr6 hs6 hg6 HP5 HR5 HN5 HB5 HBS5 HQQ
     go_wp2_with fail
     refine(zaX F _).mono ?_
     rintro e w7 ⟨rfl,rfl⟩
     go_wp2
     go_meet
     case rel=>exact⟨X,l6,n6,st6,g5,g6,rfl,rfl,HP6.out,HR6.out,HN6.out,HB6.out,HBS6.out⟩
    have e4:(kd.toList == [115,97,118,101])=false:=beq_eq_false_iff_ne.2 q4
    clear q0 q1 q2 q3 q4
    go_wp2_with fail
    clear d0 d1 d2 d3 d4 d5 d6 d7 d8 c0 c4 c5 c6 c7
    generalize wr.alloc (.cells #[.string kd,.int .i64 a,.string ps,.int .u64 kk,.int .i64 okd,.string name,.int .i64 on,.slice vo vs.length vc,.slice xo os.length xc] 46)=w4 at *
    generalize wr.heap.size=A4 at *
    obtain⟨S,D,h,h1,h2,-⟩:=id HP.out
    refine(zdb w4 B B D 100 h l en h1.disk h1.says (by decide) (by decide) (HT.out.below HBW.out) (HX.out.below HBW.out) HBS.out).mono ?_
    intro e w5 hxo
    obtain⟨Y,rfl,hp5,hb5⟩:=hxo.prS h2 HBS.out
    have HR5:=hide (HR.out.later hb5);have HP5:=hide hp5;have HB5:=hide (HBW.out.trans (hb5.mono HBW.out.size))
    have HBS5:Hid (B≤w5.heap.size):=Nat.le_trans HBS.out hb5.size
    clear hxo h1 h2 hp5 hb5 HP HR HNE HBW HBS HQA
    obtain⟨hr6,hs6,z1,b1,y1⟩:=HR5.out.closed
    have HP6:=hide (HP5.out.stepR hs6 (fun i hi=>by cases hi));have HR6:=hide hr6;have HB6:=hide (hs6.below HB5.out HBB.out HB5.out.size)
    have HBS6:Hid (B≤(w5.setCell ⟨Q,1,none⟩ (.bool false)).heap.size):=Nat.le_trans HBS5.out hs6.size
    clear hr6 hs6 HP5 HR5 HB5 HBS5
    go_wp2
    go_meet
    case rel=>exact⟨Y,l,en,none,none,none,rfl,rfl,HP6.out,HR6.out,(fun i hi=>by cases hi),HB6.out,HBS6.out⟩
   case rest=>
    obtain⟨X6,l6,n6,st6,g5,g6,rfl,rfl,hp6,hr6,hn6,hb6,hbs6⟩:=hcut
    apply_assumption
    have HP6:=hide hp6;have HR6:=hide hr6;have HN6:=hide hn6;have HB6:=hide hb6;have HBS6:=hide hbs6;have HOV:=hide hp6.okV
    clear hp6 hr6 hn6 hb6 hbs6 HP HR HNE HBW HBS HQA d0 d1 d2 d3 d4 d5 d6 d7 d8 c0 c4 c5 c6 c7
    obtain⟨b6,hb6⟩:∃ b,st6.isSome=b:=⟨_,rfl⟩
    have HB:=hide hb6
    have r0:=HR6.out.flag
    rw [hb6] at r0
    clear hb6
    go_wp2_with fail
    refine wp_region_held_drew (S:=(fun w'=>w'.cell? ⟨Q,1,none⟩=some (.bool b6))) (by kernel_rfl) (by(try dsimp only);go_keep) (fun hHeld=>?_)
    refine za (v:=?_) 0 112 rfl rfl (by kernel_rfl) (by kernel_rfl) (by kernel_rfl) (fun _ _ _ h=>h) (by rfl) ?_ (by assumption) ?_
    rotate_left
    ·(intro w hSw;(try dsimp only at hSw);go_simp;with_reducible rfl)
    simp only [Act.put,List.setIfInBounds_toArray,List.set_cons_zero,List.set_cons_succ]
    refine za (v:=?_) 1 113 rfl rfl (by kernel_rfl) (by kernel_rfl) (by kernel_rfl) (fun _ _ _ h=>h) (by rfl) ?_ (by assumption) ?_
    rotate_left
    ·(intro w hSw;(try dsimp only at hSw);go_simp;with_reducible rfl)
    simp only [Act.put,List.setIfInBounds_toArray,List.set_cons_zero,List.set_cons_succ]
    refine za (v:=?_) 2 114 rfl rfl (by kernel_rfl) (by kernel_rfl) (by kernel_rfl) (fun _ _ _ h=>h) (by rfl) ?_ (by assumption) ?_
    rotate_left
    ·(intro w hSw;(try dsimp only at hSw);go_simp;with_reducible rfl)
    simp only [Act.put,List.setIfInBounds_toArray,List.set_cons_zero,List.set_cons_succ]
    refine za (v:=?_) 3 115 rfl rfl (by kernel_rfl) (by kernel_rfl) (by kernel_rfl) (fun _ _ _ h=>h) (by rfl) ?_ (by assumption) ?_
    rotate_left
    ·(intro w hSw;(try dsimp only at hSw);go_simp;with_reducible rfl)
    simp only [Act.put,List.setIfInBounds_toArray,List.set_cons_zero,List.set_cons_succ]
    refine za (v:=?_) 5 117 rfl rfl (by kernel_rfl) (by kernel_rfl) (by kernel_rfl) (fun _ _ _ h=>h) (by rfl) ?_ (by assumption) ?_
    rotate_left
    ·(intro w hSw;(try dsimp only at hSw);go_simp;with_reducible rfl)
    simp only [Act.put,List.setIfInBounds_toArray,List.set_cons_zero,List.set_cons_succ]
    refine za (v:=?_) 6 118 rfl rfl (by kernel_rfl) (by kernel_rfl) (by kernel_rfl) (fun _ _ _ h=>h) (by rfl) ?_ (by assumption) ?_
    rotate_left
    ·(intro w hSw;(try dsimp only at hSw);go_simp;with_reducible rfl)
    simp only [Act.put,List.setIfInBounds_toArray,List.set_cons_zero,List.set_cons_succ]
    refine za (v:=?_) 7 119 rfl rfl (by kernel_rfl) (by kernel_rfl) (by kernel_rfl) (fun _ _ _ h=>h) (by rfl) ?_ (by assumption) ?_
    rotate_left
    ·(intro w hSw;(try dsimp only at hSw);go_simp;with_reducible rfl)
    simp only [Act.put,List.setIfInBounds_toArray,List.set_cons_zero,List.set_cons_succ]
    refine za (v:=?_) 8 120 rfl rfl (by kernel_rfl) (by kernel_rfl) (by kernel_rfl) (fun _ _ _ h=>h) (by rfl) ?_ (by assumption) ?_
    rotate_left
    ·(intro w hSw;(try dsimp only at hSw);go_simp;with_reducible rfl)
    simp only [Act.put,List.setIfInBounds_toArray,List.set_cons_zero,List.set_cons_succ]
    refine wpAnyH_ready (rs:=[4]) (by kernel_rfl) (by simp) (AllReadyH.cons (o:=_) rfl (fun K hK=>?_) AllReadyH.nil)
    go_simp
    (refine(zcJ _ B 100 X6 l6 n6 st6 g5 (HP6.out.later (Below.refl _ _).drew)).mono ?_;rintro e w8 ⟨rfl,hw8⟩;subst hw8;rw [HB.out])
    go_wp2_with fail
    refine hK.out _ _ (by(try dsimp only);go_keep) (fun hHeld=>?_)
    clear hK K
    try simp only [Act.put,List.setIfInBounds_toArray,List.set_cons_zero,List.set_cons_succ]
    refine za (v:=?_) 9 121 rfl rfl (by kernel_rfl) (by kernel_rfl) (by kernel_rfl) (fun _ _ _ h=>h) (by rfl) ?_ (by assumption) ?_
    rotate_left
    ·(intro w hSw;(try dsimp only at hSw);go_simp;with_reducible rfl)
    simp only [Act.put,List.setIfInBounds_toArray,List.set_cons_zero,List.set_cons_succ]
    refine za (v:=?_) 10 122 rfl rfl (by kernel_rfl) (by kernel_rfl) (by kernel_rfl) (fun _ _ _ h=>h) (by rfl) ?_ (by assumption) ?_
    rotate_left
    ·(intro w hSw;(try dsimp only at hSw);go_simp;with_reducible rfl)
    simp only [Act.put,List.setIfInBounds_toArray,List.set_cons_zero,List.set_cons_succ]
    refine za (v:=?_) 11 123 rfl rfl (by kernel_rfl) (by kernel_rfl) (by kernel_rfl) (fun _ _ _ h=>h) (by rfl) ?_ (by assumption) ?_
    rotate_left
    ·(intro w hSw;(try dsimp only at hSw);go_simp;with_reducible rfl)
    simp only [Act.put,List.setIfInBounds_toArray,List.set_cons_zero,List.set_cons_succ]
    refine za (v:=?_) 12 124 rfl rfl (by kernel_rfl) (by kernel_rfl) (by kernel_rfl) (fun _ _ _ h=>h) (by rfl) ?_ (by assumption) ?_
    rotate_left
    ·(intro w hSw;(try dsimp only at hSw);go_simp;with_reducible rfl)
    simp only [Act.put,List.setIfInBounds_toArray,List.set_cons_zero,List.set_cons_succ]
    refine za (v:=?_) 15 127 rfl rfl (by kernel_rfl) (by kernel_rfl) (by kernel_rfl) (fun _ _ _ h=>h) (by rfl) ?_ (by assumption) ?_
    rotate_left
    ·(intro w hSw;(try dsimp only at hSw);go_simp;with_reducible rfl)
    simp only [Act.put,List.setIfInBounds_toArray,List.set_cons_zero,List.set_cons_succ]
    refine wpAnyH_ready (rs:=[13]) (by kernel_rfl) (by simp) (AllReadyH.cons (o:=_) rfl (fun K hK=>?_) AllReadyH.nil)
    go_simp
    (refine(ze8 _ B 100 X6 l6 n6 st6 g5 (HP6.out.later (Below.refl _ _).drew)).mono ?_;rintro e w9 ⟨o9,n9,k9,q9,rfl,hc9,hq9,hb9'⟩;have hb9:=(Below.refl _ _).drew.trans hb9';have r0:=(HR6.out.later hb9).flag;rw [HB.out] at r0)
    go_wp2_with fail
    refine hK.out _ _ (by(try dsimp only);go_keep) (fun hHeld=>?_)
    clear hK K
    try simp only [Act.put,List.setIfInBounds_toArray,List.set_cons_zero,List.set_cons_succ]
    refine wpAnyH_ready (rs:=[14]) (by kernel_rfl) (by simp) (AllReadyH.cons (o:=_) rfl (fun K hK=>?_) AllReadyH.nil)
    go_simp
    (refine(zew _ _ q9 ⟨_,rfl,hc9⟩ (by have:=HOV.out.few;rw [← hq9,List.length_map] at this;omega) (by rw [hq9];exact HOV.out.all)).mono ?_;rintro e w10 ⟨u,rs,rfl,hcr,hmr,hb10'⟩;have hb10:=hb9.trans (hb10'.mono hb9.size);have r0:=(HR6.out.later hb10).flag;rw [HB.out] at r0)
    go_wp2_with fail
    refine hK.out _ _ (by(try dsimp only);go_keep) (fun hHeld=>?_)
    clear hK K
    try simp only [Act.put,List.setIfInBounds_toArray,List.set_cons_zero,List.set_cons_succ]
    refine wpAnyH_ready (rs:=[16]) (by kernel_rfl) (by simp) (AllReadyH.cons (o:=_) rfl (fun K hK=>?_) AllReadyH.nil)
    go_simp
    (refine(zih w _ B Q M 18 l6 n6 st6 g6 (HR6.out.later hb10)).mono ?_;rintro e w11 ⟨⟨o11,n11,k11,q11,rfl,hc11,hq11⟩,hw11⟩;subst hw11)
    go_wp2_with fail
    refine hK.out _ _ (by(try dsimp only);go_keep) (fun hHeld=>?_)
    clear hK K
    try simp only [Act.put,List.setIfInBounds_toArray,List.set_cons_zero,List.set_cons_succ]
    refine wpAnyH_ready (rs:=[17]) (by kernel_rfl) (by simp) (AllReadyH.cons (o:=_) rfl (fun K hK=>?_) AllReadyH.nil)
    go_simp
    (refine(ziP _ _ _ rs q11 hcr hc11 (by have:=HOV.out.few;have h2:=congrArg List.length hmr;rw [hq9,List.length_map] at h2;omega) (fun p hp=>(by have:=HOV.out.all p.x (by rw [← hq9,← hmr];exact List.mem_map.2 ⟨p,hp,rfl⟩);exact zhI this)) true (by simp [hmr,hq9,hq11])).mono ?_;rintro e w12 ⟨rfl,hb12'⟩;have hb12:=hb10.trans (hb12'.mono hb10.size);have r0:=(HR6.out.later hb12).flag;rw [HB.out] at r0)
    go_wp2_with fail
    refine hK.out _ _ (by(try dsimp only);go_keep) (fun hHeld=>?_)
    clear hK K
    try simp only [Act.put,List.setIfInBounds_toArray,List.set_cons_zero,List.set_cons_succ]
    refine za (v:=?_) 18 130 rfl rfl (by kernel_rfl) (by kernel_rfl) (by kernel_rfl) (fun _ _ _ h=>h) (by rfl) ?_ (by assumption) ?_
    rotate_left
    ·(intro w hSw;(try dsimp only at hSw);go_simp;with_reducible rfl)
    simp only [Act.put,List.setIfInBounds_toArray,List.set_cons_zero,List.set_cons_succ]
    refine za (v:=?_) 19 131 rfl rfl (by kernel_rfl) (by kernel_rfl) (by kernel_rfl) (fun _ _ _ h=>h) (by rfl) ?_ (by assumption) ?_
    rotate_left
    ·(intro w hSw;(try dsimp only at hSw);go_simp;with_reducible rfl)
    simp only [Act.put,List.setIfInBounds_toArray,List.set_cons_zero,List.set_cons_succ]
    refine wpAnyH_done (by kernel_rfl) ?_ _
    have HP9:=hide (HP6.out.later hb12);have HR9:=hide (HR6.out.later hb12);have HB9:=hide (HB6.out.trans (hb12.mono HB6.out.size))
    have HBS9:Hid (B≤w12.heap.size):=Nat.le_trans HBS6.out hb12.size
    clear HP6 HR6 HB6 HBS6
    go_wp2
    go_roundw
    case rel=>exact⟨k+1,X6,l6,n6,st6,g5,g6,rfl,by omega,by go_num,HP9,HR9,HN6,HB9,HBS9⟩
    case measure=>simp [intOf];omega
  ·obtain rfl:k=N:=by omega
   go_wp2
   go_ret
   exact⟨rfl,HBW.out⟩
end Go.Proofs.YtnhbfehfipafoaaGreatDoor
