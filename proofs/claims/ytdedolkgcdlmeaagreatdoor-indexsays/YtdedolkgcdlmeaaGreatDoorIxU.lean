import Derived.Test.YtdedolkgcdlmeaaGreatDoorQuR
set_option maxRecDepth 100000
set_option maxHeartbeats 3200000
set_option linter.unusedSimpArgs false
namespace Go.Proofs.YtdedolkgcdlmeaaGreatDoor
open Go.RowKit Limbs
variable {zs:List Int}{n:Nat}{c c':Int}{pk:Nat→Nat}
def IdxPost (w:World)(hs ks:List (List Int))(pk:Nat→Nat)(e:Ending)(w':World):Prop:=
 Below w.heap.size w w'∧((hs.length<ks.length∧e=.returned (.tuple #[.agg #[.bool false,.slice none 0 0],.iface 102 (.int .i64 13)])) ∨
  (hs.length=ks.length∧∃ v M,e=.returned (.tuple #[v,.nilIface])∧NumL w' v (absI (det ks.length (ent (muchM hs ks pk)))) M∧M≤100000))
theorem zf3(h:∀ z∈zs,0<z)(k:Nat)(_:k≤zs.length):0<prodL (zs.take k)∧prodL (zs.take k)≤prodL zs:=by
 have hp:∀ l:List Int,(∀ z∈l,0<z)→0<prodL l:=fun l=>by
  induction l with
  | nil=>exact fun _=>Int.zero_lt_one
  | cons x t ih=>exact fun h=>Int.mul_pos (h x (by simp)) (ih fun z hz=>h z (by simp [hz]))
 have hap:∀ a b:List Int,prodL (a++b)=prodL a*prodL b:=fun a b=>by
  induction a with
  | nil=>show prodL b=1*prodL b;rw [Int.one_mul]
  | cons x t ih=>show x*prodL (t++b)=x*prodL t*prodL b;rw [ih,Int.mul_assoc]
 have h1:=hp (zs.take k) fun z hz=>h z (List.mem_of_mem_take hz)
 have h2:=hp (zs.drop k) fun z hz=>h z (List.mem_of_mem_drop hz)
 refine⟨h1,?_⟩
 have e:prodL zs=prodL (zs.take k)*prodL (zs.drop k):=by rw [← hap,List.take_append_drop]
 have:=Int.mul_le_mul_of_nonneg_left (show 1≤prodL (zs.drop k) by omega) (show 0≤prodL (zs.take k) by omega)
 omega
theorem zi3 (w:World)(va vb:Value)(n nv mv:Nat)(hs ks:List (List Int))(pk:Nat→Nat)(ha:LatN w va n hs nv)(hb:LatN w vb n ks mv)(G:FormL n ks pk)(h1:1≤n)(h4:n≤4)(hN:nv+n *(mv+2)≤90000)(hin:∀ r∈hs,Gens n (InL ks) r)(hR:∀ m,1≤m→m≤4→RoomS m (nv+1)):
  Calls Tryz.prog 38 #[va,vb] w fun e w'=>IdxPost w hs ks pk e w':=by
 have HQ:=hide (fun(W:World) (hbw:Below w.heap.size w W)=>zf7 W va vb n nv mv hs ks pk (ha.below hbw) (hb.below hbw) G h1 h4 hN hin hR)
 obtain⟨⟨u,rfl,⟨uo,ucap,rfl,-,-⟩⟩,-⟩:=ha
 obtain⟨⟨v,rfl,⟨vo,vcap,rfl,-,-⟩⟩,-⟩:=hb
 clear hin hR
 have hks:=G.short
 clear G
 have HX:=hide (zaR w (.int .i64 (n:Int)) (.slice uo hs.length ucap) (.int .i64 (n:Int)) (.slice vo ks.length vcap) 55 55)
 have HY:=hide (zj ((w.alloc (.cells #[.int .i64 (n:Int),.slice uo hs.length ucap] 55)).alloc (.cells #[.int .i64 (n:Int),.slice vo ks.length vcap] 55)) (.bool false) (.slice none 0 0) 29 (w.heap.size+1+1) (by simp))
 have HZ:=hide ((Below.refl (w.heap.size+2) ((w.alloc (.cells #[.int .i64 (n:Int),.slice uo hs.length ucap] 55)).alloc (.cells #[.int .i64 (n:Int),.slice vo ks.length vcap] 55))).alloc (by simp) (.cells #[.bool false,.slice none 0 0] 29))
 have HC:=hide (HX.out.1.later HZ.out (by omega))
 have HD:=hide (HX.out.2.1.later HZ.out (by omega))
 have HB0:=hide (HX.out.2.2.1.trans (HZ.out.mono (by omega)))
 have HSZ:Hid (w.heap.size+1+1<(((w.alloc (.cells #[.int .i64 (n:Int),.slice uo hs.length ucap] 55)).alloc (.cells #[.int .i64 (n:Int),.slice vo ks.length vcap] 55)).alloc (.cells #[.bool false,.slice none 0 0] 29)).heap.size):=by show _<_;simp
 obtain⟨c0,c1,z0,z1⟩:=HC.out
 obtain⟨d0,d1,y0,y1⟩:=HD.out
 go_enter Tryz.func38,Tryz.ntmps38
 go_wp2_with fail
 clear c0 c1 z0 z1 d0 d1 y0 y1 HX HZ HC HD
 generalize (((w.alloc (.cells #[.int .i64 (n:Int),.slice uo hs.length ucap] 55)).alloc (.cells #[.int .i64 (n:Int),.slice vo ks.length vcap] 55)).alloc (.cells #[.bool false,.slice none 0 0] 29))=W0 at *
 refine(HQ.out W0 HB0.out).mono ?_
 rintro e w1 ⟨uq,M,zs,rfl,q1,q2,q3,q4,q6,q7,q8,hb1,-⟩
 have HV1:=hide q1;have HZP:=hide q4;have HPM:=hide q6;have HDE:=hide q8
 have HB1:=hide (HB0.out.trans (hb1.mono HB0.out.size))
 have HE1:=hide (HY.out.later hb1 HSZ.out)
 have HS1:=hide (zT HSZ.out hb1.size)
 obtain⟨zo,zcap,rfl,-,-⟩:=q1
 clear q4 q6 q8 hb1 HB0 HY HSZ HQ
 have HX2:Hid (Box (w1.alloc (.cells #[.slice zo zs.length zcap,.int .i64 ((ks.length:Int)-(hs.length:Int))] 77)) w1.heap.size (.slice zo zs.length zcap) (.int .i64 ((ks.length:Int)-(hs.length:Int)))):=zj w1 _ _ _ _ rfl
 have HB2:=hide (HB1.out.trans (((Below.refl w1.heap.size w1).alloc zL (.cells #[.slice zo zs.length zcap,.int .i64 ((ks.length:Int)-(hs.length:Int))] 77)).mono HB1.out.size))
 have HE2:=hide (HE1.out.later ((Below.refl w1.heap.size w1).alloc zL (.cells #[.slice zo zs.length zcap,.int .i64 ((ks.length:Int)-(hs.length:Int))] 77)) HS1.out)
 have HV2:=hide (HV1.out.below ((Below.refl w1.heap.size w1).alloc zL (.cells #[.slice zo zs.length zcap,.int .i64 ((ks.length:Int)-(hs.length:Int))] 77)) zL)
 have HS2:Hid (w1.heap.size<(w1.alloc (.cells #[.slice zo zs.length zcap,.int .i64 ((ks.length:Int)-(hs.length:Int))] 77)).heap.size):=by show _<_;simp
 obtain⟨e0,e1,f0,f1⟩:=HE2.out
 by_cases hlt:hs.length<ks.length
 ·have g1:(0:Int)<(ks.length:Int)-(hs.length:Int):=by omega
  have g2:decide ((0:Int)<(ks.length:Int)-(hs.length:Int))=true:=decide_eq_true g1
  have HFE:=hide ((HB2.out.setCell (p:=⟨w.heap.size+1+1,0,none⟩) (by show w.heap.size≤w.heap.size+1+1;omega) (.bool false)).setCell (p:=⟨w.heap.size+1+1,1,none⟩) (by show w.heap.size≤w.heap.size+1+1;omega) (.slice none 0 0))
  have x0:=(HE2.out.write (.bool false) (.slice none 0 0)).1
  have x1:=(HE2.out.write (.bool false) (.slice none 0 0)).2.1
  go_wp2
  exact bodyPost_ret (v:=.tuple #[.agg #[.bool false,.slice none 0 0],.iface 102 (.int .i64 13)]) (by simp [results,Tryz.results38,go_sem,x0,x1]) rfl ⟨HFE.out,.inl ⟨hlt,rfl⟩⟩
 ·have heq:hs.length=ks.length:=by omega
  have g1:¬((0:Int)<(ks.length:Int)-(hs.length:Int)):=by omega
  have g2:decide ((0:Int)<(ks.length:Int)-(hs.length:Int))=false:=decide_eq_false g1
  have HEQ:=hide heq
  obtain⟨v0,v1,-,-⟩:=HX2.out
  clear heq hlt e0 e1 f0 f1
  go_wp2_with fail
  clear g1 g2 v0 v1
  generalize w1.alloc (.cells #[.slice zo zs.length zcap,.int .i64 ((ks.length:Int)-(hs.length:Int))] 77)=W2 at *
  refine(zay W2 1 (by decide) (by decide)).mono ?_
  rintro e w3 ⟨vo1,rfl,no,hb3⟩
  obtain⟨⟨on,oo,ol,oc⟩,rfl⟩:=no.nm
  have HB3:=hide (HB2.out.trans (hb3.mono HB2.out.size))
  have HX3:=hide (HX2.out.later hb3 HS2.out)
  have HE3:=hide (HE2.out.later hb3 (by have h1:=HS1.out;have h2:=HS2.out;omega))
  have HV3:=hide (HV2.out.below hb3 zL)
  have HS3:=hide (zT HS2.out hb3.size)
  have HBX:Hid (Box (w3.alloc (.cells #[.bool on,.slice oo ol oc] 29)) w3.heap.size (.bool on) (.slice oo ol oc)):=zj w3 _ _ _ _ rfl
  have HN0:Hid (NumL (w3.alloc (.cells #[.bool on,.slice oo ol oc] 29)) (.agg #[.bool on,.slice oo ol oc]) (prodL (zs.take 0)) M):=by
   have h1:=zf3 HZP.out 0 (Nat.zero_le _)
   have h2:=HPM.out
   have e:prodL (zs.take 0)=1:=rfl
   rw [e] at h1 ⊢
   exact(no.below ((Below.refl _ _).alloc zL _) zL).tight (by unfold ab;rw [if_neg (by decide)];omega)
  have HE0:Hid (Below w3.heap.size w3 (w3.alloc (.cells #[.bool on,.slice oo ol oc] 29))):=(Below.refl _ _).alloc zL _
  have HL0:Hid (w3.heap.size<(w3.alloc (.cells #[.bool on,.slice oo ol oc] 29)).heap.size):=by show _<_;simp
  obtain⟨v0,v1,-,-⟩:=HX3.out.later HE0.out HS3.out
  clear no hb3 HX2 HE2 HV2 HS2 HB2
  go_wp2
  clear v0 v1
  go_loopw [29] (fun x wr=>∃(i:Nat) (tn:Bool) (to:Option Addr) (tl tc:Nat),i≤zs.length∧x=.int .i64 i∧Hid (Box wr w3.heap.size (.bool tn) (.slice to tl tc))∧Hid (NumL wr (.agg #[.bool tn,.slice to tl tc]) (prodL (zs.take i)) M)∧Hid (Below w3.heap.size w3 wr)∧Hid (w3.heap.size<wr.heap.size)) (fun x _=>zs.length-(intOf x).toNat)
  case atStart=>exact⟨0,on,oo,ol,oc,Nat.zero_le _,rfl,HBX,HN0,HE0,HL0⟩
  case round=>
   clear HBX HN0 HE0 HL0
   obtain⟨i,tn,to,tl,tc,hi,rfl,HBX,HNS,HEW,HLW⟩:=hrel
   by_cases hil:i<zs.length
   ·obtain⟨zb,zoff,_,e⟩:=HV3.out.form (by omega)
    simp only [Value.slice.injEq,true_and] at e
    obtain⟨rfl,rfl⟩:=e
    obtain⟨la,an,ao,al,ac,a0,a1,na⟩:=HV3.out.at i hil
    have NA:=hide (na.below HEW.out zL)
    have c3:=(HEW.out.cell (p:=⟨zb,zoff+i*2,none⟩) la).trans a0
    have c4:=(HEW.out.cell (p:=⟨zb,zoff+i*2+1,none⟩) la).trans a1
    obtain⟨c2,-,-,-⟩:=HX3.out.later HEW.out HS3.out
    obtain⟨c0,c1,f0,f1⟩:=HBX.out
    have HTK:Hid (prodL (zs.take (i+1))=prodL (zs.take i)*zs.getD i 0):=by
     show _=_
     rw [List.take_succ_eq_append_getElem hil,zf4,List.getD_eq_getElem?_getD,List.getElem?_eq_getElem hil,Option.getD_some]
    have HPP:=hide (zf3 HZP.out (i+1) (by omega))
    have la2:=zT la HEW.out.size
    have lq2:=zT HS3.out HEW.out.size
    have lm2:=HLW.out
    clear na a0 a1
    generalize zs.getD i 0=z at *
    generalize ht1:prodL (zs.take i)=t1 at *
    go_wp2_with fail
    refine zw (S:=(fun w'=>w'.cell? ⟨w3.heap.size,0,none⟩=some (.bool tn)∧w'.cell? ⟨w3.heap.size,1,none⟩=some (.slice to tl tc)∧w'.cell? ⟨w1.heap.size,0,none⟩=some (.slice (some ⟨zb,zoff,none⟩) zs.length zcap)∧w'.cell? ⟨zb,zoff+i*2,none⟩=some (.bool an)∧w'.cell? ⟨zb,zoff+i*2+1,none⟩=some (.slice ao al ac))) (k:=7) (by kernel_rfl) (by exact⟨c0,c1,c2,c3,c4⟩) (fun hHeld=>?_)
    refine zf 0 32 [7] ?_
    try simp only [zA]
    refine zf 1 33 [7] ?_
    try simp only [zA]
    refine zf 2 34 [7] ?_
    try simp only [zA]
    refine zf 3 35 [7] ?_
    try simp only [zA]
    refine zf 4 36 [7] ?_
    try simp only [zA]
    refine zf 5 37 [7] ?_
    try simp only [zA]
    refine zg 6 (by kernel_rfl) rfl (fun K hK=>?_)
    go_simp
    refine(zbc wr.drew _ _ t1 z M M (by exact HNS.out.below (Below.refl wr.heap.size wr).drew zL) (by exact NA.out.below (Below.refl wr.heap.size wr).drew zL) (by omega) (by omega)).mono ?_
    rintro e w4 ⟨vp,rfl,np,hb4⟩
    have np2:NumL w4 vp (prodL (zs.take (i+1))) M:=by
     have h1:=HPP.out;have h2:=HPM.out
     have h3:NumL w4 vp (prodL (zs.take (i+1))) (M+M):=by rw [HTK.out];exact np
     exact h3.tight (by unfold ab;rw [if_neg (by omega)];omega)
    have hb4':Below wr.heap.size wr w4:=(Below.refl _ _).drew.trans hb4
    obtain⟨⟨pn,po,pl,pc⟩,rfl⟩:=np2.nm
    have s1:(fun w'=>w'.cell? ⟨w3.heap.size,0,none⟩=some (.bool tn)∧w'.cell? ⟨w3.heap.size,1,none⟩=some (.slice to tl tc)∧w'.cell? ⟨w1.heap.size,0,none⟩=some (.slice (some ⟨zb,zoff,none⟩) zs.length zcap)∧w'.cell? ⟨zb,zoff+i*2,none⟩=some (.bool an)∧w'.cell? ⟨zb,zoff+i*2+1,none⟩=some (.slice ao al ac)) w4:=⟨(hb4'.cell (p:=⟨w3.heap.size,0,none⟩) lm2).trans c0,(hb4'.cell (p:=⟨w3.heap.size,1,none⟩) lm2).trans c1,(hb4'.cell (p:=⟨w1.heap.size,0,none⟩) lq2).trans c2,(hb4'.cell (p:=⟨zb,zoff+i*2,none⟩) la2).trans c3,(hb4'.cell (p:=⟨zb,zoff+i*2+1,none⟩) la2).trans c4⟩
    have HS4:=hide s1
    have HBX2:=hide (HBX.out.later hb4' lm2)
    have HBX3:=hide (HBX2.out.write (.bool pn) (.slice po pl pc))
    have HN3:=hide ((np2.setCell HBX2.out.1 (x:=.bool pn) (fun z e=>by cases e)).setCell (p:=⟨w3.heap.size,1,none⟩) (x:=.slice po pl pc) ((World.cell?_setCell_other (h:=fun e=>by simp at e) ..).trans HBX2.out.2.1) (fun z e=>by cases e))
    have HE5:=hide (((HEW.out.trans (hb4'.mono HEW.out.size)).setCell (p:=⟨w3.heap.size,0,none⟩) zL (.bool pn)).setCell (p:=⟨w3.heap.size,1,none⟩) zL (.slice po pl pc))
    have HL5:Hid (w3.heap.size<((w4.setCell ⟨w3.heap.size,0,none⟩ (.bool pn)).setCell ⟨w3.heap.size,1,none⟩ (.slice po pl pc)).heap.size):=by
     have:=hb4'.size
     show _<_
     simp;omega
    obtain⟨k0,k1,l0,l1⟩:=HBX2.out
    clear np np2 hb4 hb4' s1 c0 c1 c2 c3 c4 f0 f1
    go_wp2_with fail
    refine hK.out _ _ (fun _=>HS4.out) ?_
    clear hK K hHeld
    try simp only [zA]
    refine zg 7 (by kernel_rfl) rfl (fun K hK=>?_)
    go_simp
    refine hK.out _ _ (fun h=>absurd h (by decide)) ?_
    clear hK K
    try simp only [zA]
    refine zt (by kernel_rfl) ?_
    clear k0 k1 l0 l1 HBX HBX2 HNS HEW HS4 NA
    go_wp2
    go_roundw
    case rel=>exact⟨i+1,pn,po,pl,pc,by omega,by go_num,HBX3,HN3,HE5,HL5⟩
    case measure=>simp [intOf];omega
   ·obtain rfl:i=zs.length:=by omega
    obtain⟨c0,c1,-,-⟩:=HBX.out
    have HE6:=hide (HE3.out.later HEW.out (by have h1:=HS1.out;have h2:=HS3.out;omega))
    obtain⟨e0,e1,f0,f1⟩:=HE6.out
    have HFE:=hide (((HB3.out.trans (HEW.out.mono HB3.out.size)).setCell (p:=⟨w.heap.size+1+1,0,none⟩) (by show w.heap.size≤w.heap.size+1+1;omega) (.bool tn)).setCell (p:=⟨w.heap.size+1+1,1,none⟩) (by show w.heap.size≤w.heap.size+1+1;omega) (.slice to tl tc))
    have HFN:Hid (NumL ((wr.setCell ⟨w.heap.size+1+1,0,none⟩ (.bool tn)).setCell ⟨w.heap.size+1+1,1,none⟩ (.slice to tl tc)) (.agg #[.bool tn,.slice to tl tc]) (absI (det ks.length (ent (muchM hs ks pk)))) M):=by
     have h1:=HNS.out
     rw [List.take_length,HDE.out HEQ.out] at h1
     exact(h1.setCell e0 (fun z e=>by cases e)).setCell (p:=⟨w.heap.size+1+1,1,none⟩) ((World.cell?_setCell_other (h:=fun e=>by simp at e) ..).trans e1) (fun z e=>by cases e)
    have x0:=(HE6.out.write (.bool tn) (.slice to tl tc)).1
    have x1:=(HE6.out.write (.bool tn) (.slice to tl tc)).2.1
    clear HNS HBX HEW
    go_wp2
    exact bodyPost_ret (v:=.tuple #[.agg #[.bool tn,.slice to tl tc],.nilIface]) (by simp [results,Tryz.results38,go_sem,x0,x1]) rfl ⟨HFE.out,.inr ⟨HEQ.out,_,M,rfl,HFN.out,q2⟩⟩
theorem zf8 (w:World)(va vb:Value)(n nv mv:Nat)(hs ks:List (List Int))(pk:Nat→Nat)(ha:LatN w va n hs nv)(hb:LatN w vb n ks mv)(G:FormL n ks pk)(h1:1≤n)(h4:n≤4)(hN:nv+n *(mv+2)≤90000)(hin:¬ ∀ r∈hs,Gens n (InL ks) r):
  Calls Tryz.prog 39 #[va,vb] w fun e w'=>e=.returned (.tuple #[.agg #[.slice none 0 0,.int .i64 0],.iface 102 (.int .i64 12)])∧Below w.heap.size w w':=by
 have HA:=hide ha;have HB:=hide hb;have HG:=hide G;have HIN:=hide hin
 obtain⟨⟨u,rfl,hu⟩,ph,hF⟩:=ha
 obtain⟨⟨v,rfl,hv⟩,-⟩:=hb
 obtain⟨uo,ucap,rfl,-,-⟩:=hu
 obtain⟨vo,vcap,rfl,-,-⟩:=hv
 clear hF G hin
 have HX:=hide (zaR w (.int .i64 (n:Int)) (.slice uo hs.length ucap) (.int .i64 (n:Int)) (.slice vo ks.length vcap) 55 55)
 have HY:=hide (zj ((w.alloc (.cells #[.int .i64 (n:Int),.slice uo hs.length ucap] 55)).alloc (.cells #[.int .i64 (n:Int),.slice vo ks.length vcap] 55)) (.slice none 0 0) (.int .i64 0) 77 (w.heap.size+1+1) (by simp))
 have HZ:=hide ((Below.refl (w.heap.size+2) ((w.alloc (.cells #[.int .i64 (n:Int),.slice uo hs.length ucap] 55)).alloc (.cells #[.int .i64 (n:Int),.slice vo ks.length vcap] 55))).alloc (by simp) (.cells #[.slice none 0 0,.int .i64 0] 77))
 have HC:=hide (HX.out.1.later HZ.out (by omega))
 have HD:=hide (HX.out.2.1.later HZ.out (by omega))
 have HB0:=hide (HX.out.2.2.1.trans (HZ.out.mono (by omega)))
 have HSZ:Hid (w.heap.size+1+1<(((w.alloc (.cells #[.int .i64 (n:Int),.slice uo hs.length ucap] 55)).alloc (.cells #[.int .i64 (n:Int),.slice vo ks.length vcap] 55)).alloc (.cells #[.slice none 0 0,.int .i64 0] 77)).heap.size):=by show _<_;simp
 obtain⟨c0,c1,z0,z1⟩:=HC.out
 obtain⟨d0,d1,y0,y1⟩:=HD.out
 go_enter Tryz.func39,Tryz.ntmps39
 go_wp2_with fail
 clear c0 c1 z0 z1 d0 d1 y0 y1 HX HZ
 generalize (((w.alloc (.cells #[.int .i64 (n:Int),.slice uo hs.length ucap] 55)).alloc (.cells #[.int .i64 (n:Int),.slice vo ks.length vcap] 55)).alloc (.cells #[.slice none 0 0,.int .i64 0] 77))=W0 at *
 refine(zes W0 _ _ n nv mv hs ks (by exact HA.out.below HB0.out) (by exact HB.out.below HB0.out) h1 h4).mono ?_
 rintro e w1 ⟨rfl,hb1⟩
 have HB1:=hide (HB0.out.trans (hb1.mono HB0.out.size))
 have HC1:=hide (HC.out.later hb1 (by have:=HSZ.out;omega))
 have HD1:=hide (HD.out.later hb1 (by have:=HSZ.out;omega))
 have HE1:=hide (HY.out.later hb1 HSZ.out)
 have HS1:=hide (zT HSZ.out hb1.size)
 clear hb1 HC HD HY HSZ HB0
 obtain⟨c0,c1,-,-⟩:=HC1.out
 obtain⟨d0,d1,-,-⟩:=HD1.out
 go_wp2_with fail
 refine(zej w1 _ _ n nv mv hs ks pk (by exact HA.out.below HB1.out) (by obtain⟨⟨u,e,h⟩,-⟩:=HB.out;exact⟨u,e,h.below HB1.out zL⟩) HG.out h1 h4 hN).mono ?_
 rintro e w2 ⟨hb2,hcase⟩
 have HB2:=hide (HB1.out.trans (hb2.mono HB1.out.size))
 have HE2:=hide (HE1.out.later hb2 HS1.out)
 have HS2:=hide (zT HS1.out hb2.size)
 clear hb2 c0 c1 d0 d1 HC1 HD1 HE1 HS1 HB1
 rcases hcase with⟨hl,-⟩ |⟨-,rfl⟩
 ·exact absurd hl HIN.out
 ·have HFE:=hide ((HB2.out.setCell (p:=⟨w.heap.size+1+1,0,none⟩) (by show w.heap.size≤w.heap.size+1+1;omega) (.slice none 0 0)).setCell (p:=⟨w.heap.size+1+1,1,none⟩) (by show w.heap.size≤w.heap.size+1+1;omega) (.int .i64 0))
  have x0:=(HE2.out.write (.slice none 0 0) (.int .i64 0)).1
  have x1:=(HE2.out.write (.slice none 0 0) (.int .i64 0)).2.1
  obtain⟨e0,e1,f0,f1⟩:=HE2.out
  go_wp2
  exact bodyPost_ret (v:=.tuple #[.agg #[.slice none 0 0,.int .i64 0],.iface 102 (.int .i64 12)]) (by simp [results,Tryz.results39,go_sem,x0,x1]) rfl ⟨rfl,HFE.out⟩
theorem zi4 (w:World)(va vb:Value)(n nv mv:Nat)(hs ks:List (List Int))(pk:Nat→Nat)(ha:LatN w va n hs nv)(hb:LatN w vb n ks mv)(G:FormL n ks pk)(h1:1≤n)(h4:n≤4)(hN:nv+n *(mv+2)≤90000)(hin:¬ ∀ r∈hs,Gens n (InL ks) r):
  Calls Tryz.prog 38 #[va,vb] w fun e w'=>e=.returned (.tuple #[.agg #[.bool false,.slice none 0 0],.iface 102 (.int .i64 12)])∧Below w.heap.size w w':=by
 have HQ:=hide (fun(W:World) (hbw:Below w.heap.size w W)=>zf8 W va vb n nv mv hs ks pk (ha.below hbw) (hb.below hbw) G h1 h4 hN hin)
 obtain⟨⟨u,rfl,⟨uo,ucap,rfl,-,-⟩⟩,-⟩:=ha
 obtain⟨⟨v,rfl,⟨vo,vcap,rfl,-,-⟩⟩,-⟩:=hb
 clear hin G
 have HX:=hide (zaR w (.int .i64 (n:Int)) (.slice uo hs.length ucap) (.int .i64 (n:Int)) (.slice vo ks.length vcap) 55 55)
 have HY:=hide (zj ((w.alloc (.cells #[.int .i64 (n:Int),.slice uo hs.length ucap] 55)).alloc (.cells #[.int .i64 (n:Int),.slice vo ks.length vcap] 55)) (.bool false) (.slice none 0 0) 29 (w.heap.size+1+1) (by simp))
 have HZ:=hide ((Below.refl (w.heap.size+2) ((w.alloc (.cells #[.int .i64 (n:Int),.slice uo hs.length ucap] 55)).alloc (.cells #[.int .i64 (n:Int),.slice vo ks.length vcap] 55))).alloc (by simp) (.cells #[.bool false,.slice none 0 0] 29))
 have HC:=hide (HX.out.1.later HZ.out (by omega))
 have HD:=hide (HX.out.2.1.later HZ.out (by omega))
 have HB0:=hide (HX.out.2.2.1.trans (HZ.out.mono (by omega)))
 have HSZ:Hid (w.heap.size+1+1<(((w.alloc (.cells #[.int .i64 (n:Int),.slice uo hs.length ucap] 55)).alloc (.cells #[.int .i64 (n:Int),.slice vo ks.length vcap] 55)).alloc (.cells #[.bool false,.slice none 0 0] 29)).heap.size):=by show _<_;simp
 obtain⟨c0,c1,z0,z1⟩:=HC.out
 obtain⟨d0,d1,y0,y1⟩:=HD.out
 go_enter Tryz.func38,Tryz.ntmps38
 go_wp2_with fail
 clear c0 c1 z0 z1 d0 d1 y0 y1 HX HZ HC HD
 generalize (((w.alloc (.cells #[.int .i64 (n:Int),.slice uo hs.length ucap] 55)).alloc (.cells #[.int .i64 (n:Int),.slice vo ks.length vcap] 55)).alloc (.cells #[.bool false,.slice none 0 0] 29))=W0 at *
 refine(HQ.out W0 HB0.out).mono ?_
 rintro e w1 ⟨rfl,hb1⟩
 have HB1:=hide (HB0.out.trans (hb1.mono HB0.out.size))
 have HE1:=hide (HY.out.later hb1 HSZ.out)
 have HS1:=hide (zT HSZ.out hb1.size)
 clear hb1 HB0 HY HSZ HQ
 have hbA:=(Below.refl w1.heap.size w1).alloc zL (.cells #[.slice none 0 0,.int .i64 0] 77)
 have HB2:=hide (HB1.out.trans (hbA.mono HB1.out.size))
 have HE2:=hide (HE1.out.later hbA HS1.out)
 clear hbA
 obtain⟨e0,e1,f0,f1⟩:=HE2.out
 have HFE:=hide ((HB2.out.setCell (p:=⟨w.heap.size+1+1,0,none⟩) (by show w.heap.size≤w.heap.size+1+1;omega) (.bool false)).setCell (p:=⟨w.heap.size+1+1,1,none⟩) (by show w.heap.size≤w.heap.size+1+1;omega) (.slice none 0 0))
 have x0:=(HE2.out.write (.bool false) (.slice none 0 0)).1
 have x1:=(HE2.out.write (.bool false) (.slice none 0 0)).2.1
 go_wp2
 exact bodyPost_ret (v:=.tuple #[.agg #[.bool false,.slice none 0 0],.iface 102 (.int .i64 12)]) (by simp [results,Tryz.results38,go_sem,x0,x1]) rfl ⟨rfl,HFE.out⟩
open Digs
theorem zgb:∀ m,1≤m→m≤4→RoomS m (6+1):=fun m _ h=>(show ∀ m,m<5→RoomS m 7 by unfold RoomS;decide +kernel) m (by omega)
def SameC (ev:Value)(c:Int):Prop:=∀ W,Calls Tryz.prog 13 #[ev,.int .i64 c] W fun e w'=>e=.returned (.bool true)∧w'=W
def IdxIs (n:Nat)(hs ks:List (List Int))(p:Nat→Nat)(c z:Int):Prop:=
 ((¬ ∀ us∈hs,Gens n (InL ks) us)∧c=12∧z=0)∨((∀ us∈hs,Gens n (InL ks) us)∧hs.length<ks.length∧c=13∧z=0)∨((∀ us∈hs,Gens n (InL ks) us)∧hs.length=ks.length∧c=0∧z=prodN hs.length (fun i=>ent hs i (p i)/ent ks i (p i)))
theorem IdxIs.one{hs ks:List (List Int)}{p:Nat→Nat}{z z':Int}(h:IdxIs n hs ks p c z)(h':IdxIs n hs ks p c' z'):c'=c∧z'=z:=by
 rcases h with⟨a,b,d⟩ |⟨a,a2,b,d⟩ |⟨a,a2,b,d⟩ <;> rcases h' with⟨a',b',d'⟩ |⟨a',a2',b',d'⟩ |⟨a',a2',b',d'⟩
 ·exact⟨b'.trans b.symm,d'.trans d.symm⟩
 ·exact absurd a' a
 ·exact absurd a' a
 ·exact absurd a a'
 ·exact⟨b'.trans b.symm,d'.trans d.symm⟩
 ·omega
 ·exact absurd a a'
 ·omega
 ·exact⟨b'.trans b.symm,d'.trans d.symm⟩
theorem zi6 (w:World)(va vb:Value)(n:Nat)(hs ks:List (List Int))(p pk:Nat→Nat)(ha:LatN w va n hs 6)(hb:LatN w vb n ks 6)(F:FormL n hs p)(G:FormL n ks pk)(h1:1≤n)(h4:n≤4):
  Calls Tryz.prog 38 #[va,vb] w fun e w'=>∃ kv ev c z M,e=.returned (.tuple #[kv,ev])∧SameC ev c∧NumL w' kv z M∧IdxIs n hs ks p c z∧Below w.heap.size w w':=by
 by_cases hin:∀ us∈hs,Gens n (InL ks) us
 ·refine(zi3 w va vb n 6 6 hs ks pk ha hb G h1 h4 (by omega) hin zgb).mono ?_
  rintro e w' ⟨hbw,⟨hl,rfl⟩ |⟨hl,v,M,rfl,hv,-⟩⟩
  ·exact⟨_,_,13,0,1,rfl,fun W=>zdO 13 (by decide) W,NumL.nought w' 1,.inr (.inl ⟨hin,hl,rfl,rfl⟩),hbw⟩
  ·exact⟨_,_,0,_,M,rfl,fun W=>zdP W,hv,.inr (.inr ⟨hin,hl,rfl,zi5 F G hin hl⟩),hbw⟩
 ·refine(zi4 w va vb n 6 6 hs ks pk ha hb G h1 h4 (by omega) hin).mono ?_
  rintro e w' ⟨rfl,hbw⟩
  exact⟨_,_,12,0,1,rfl,fun W=>zdO 12 (by decide) W,NumL.nought w' 1,.inl ⟨hin,rfl,rfl⟩,hbw⟩
theorem ziZ (w:World)(vA vB:Value)(n N:Nat)(hs ks:List (List Int))(p pk:Nat→Nat)(ha:MatR w vA hs N)(hF:FormL n hs p)(hb:MatR w vB ks N)(G:FormL n ks pk)(hn:n≤4)(hN:N≤10000):
  Calls Tryz.prog 43 #[vA,vB] w fun e w'=>∃ v c z,e=.returned (.tuple #[v,.int .i64 c])∧NumR w' v z (5+4 *(N+8))∧IdxIs n hs ks p c z∧Below w.heap.size w w':=by
 refine(ziY w vA vB n N hs ks p pk ha hF hb G hn hN).mono ?_
 rintro e w' ⟨hbw,⟨hin,rfl⟩ |⟨hin,hl,rfl⟩ |⟨hin,hl,v,rfl,hv⟩⟩
 ·exact⟨_,12,0,rfl,NumR.nought w' _,.inl ⟨hin,rfl,rfl⟩,hbw⟩
 ·exact⟨_,13,0,rfl,NumR.nought w' _,.inr (.inl ⟨hin,hl,rfl,rfl⟩),hbw⟩
 ·exact⟨_,0,_,rfl,hv,.inr (.inr ⟨hin,hl,rfl,rfl⟩),hbw⟩
theorem zja{m:Nat}{A:Nat→Nat→Int}{ys:List Int}(py:∀ i,i<ys.length→0<ys.getD i 0)(hd:∀ k g,Dv k m n A g↔Dv k ys.length ys.length (dgM fun i=>ys.getD i 0) g):ys.length≤m∧ys.length≤n:=by
 have key:∀ k,Dv (k+1) m n A 0→ys.length≤k:=fun k h=>by
  by_cases hk:ys.length≤k
  ·exact hk
  ·exfalso
   have h1:=(hd _ _).1 h (fun i=>i) (fun i=>i) (fun i hi=>by show i<ys.length;omega) fun i hi=>by show i<ys.length;omega
   rw [zeH] at h1
   have h2:=zad (k+1) (fun i=>ys.getD i 0) fun j hj=>py j (by omega)
   rw [Int.zero_dvd] at h1
   omega
 exact⟨key m (zdj m n A),key n ((zdj n m (trM A)).tr)⟩
def QuoIs (n:Nat)(hs ks:List (List Int))(pk:Nat→Nat)(c fr:Int)(zs:List Int):Prop:=
 ((¬ ∀ us∈hs,Gens n (InL ks) us)∧c=12∧fr=0∧zs=[])∨((∀ us∈hs,Gens n (InL ks) us)∧c=0∧fr=(ks.length:Int)-(hs.length:Int)∧InvQ hs ks pk zs)
def QuoIsR (n:Nat)(hs ks:List (List Int))(pk:Nat→Nat)(c fr:Int)(zs:List Int):Prop:=
 ((¬ ∀ us∈hs,Gens n (InL ks) us)∧c=12∧fr=0∧zs=[])∨((∀ us∈hs,Gens n (InL ks) us)∧c=0∧fr=(ks.length:Int)-(hs.length:Int)∧∃ ds,zs=overOne ds∧RefSm (muchM hs ks pk) hs.length ks.length ds∧(ds.length=hs.length∨ds.length=ks.length∨Dv (ds.length+1) hs.length ks.length (ent (muchM hs ks pk)) 0))
theorem InvQ.ref {hs ks:List (List Int)}{ds:List Int}(h:InvQ hs ks pk zs)(h2:RefSm (muchM hs ks pk) hs.length ks.length ds)(h3:ds.length=hs.length∨ds.length=ks.length∨Dv (ds.length+1) hs.length ks.length (ent (muchM hs ks pk)) 0):overOne ds=zs:=by
 obtain⟨ys,fa,fs,pa,D,rfl,F,a,-,T,C⟩:=h
 have hdv:=zkV F a (zb9 hs ks pk) T C
 rw [zaO] at hdv
 have hpos:∀ i,i<ys.length→0<ys.getD i 0:=fun i hi=>C.pos i (by rw [← C.len];exact hi)
 have hch:∀ i j,i<j→j<ys.length→∃ p,ys.getD j 0=p*ys.getD i 0:=fun i j h1 h2=>C.chain i (by rw [← C.len];omega) j h1 (by rw [← C.len];exact h2)
 rw [h2.one h3 hpos hch (zja hpos hdv) hdv]
theorem QuoIs.one{hs ks:List (List Int)}{fr fr':Int}{zs':List Int}(h:QuoIs n hs ks pk c fr zs)(h':QuoIsR n hs ks pk c' fr' zs'):c'=c∧fr'=fr∧zs'=zs:=by
 rcases h with⟨a,b,d,e⟩ |⟨a,b,d,e⟩ <;> rcases h' with⟨a',b',d',e'⟩ |⟨a',b',d',ds,e',f',g'⟩
 ·exact⟨b'.trans b.symm,d'.trans d.symm,e'.trans e.symm⟩
 ·exact absurd a' a
 ·exact absurd a a'
 ·exact⟨b'.trans b.symm,d'.trans d.symm,e'.trans (e.ref f' g')⟩
theorem zkj (w:World)(va vb:Value)(n:Nat)(hs ks:List (List Int))(pk:Nat→Nat)(ha:LatN w va n hs 6)(hb:LatN w vb n ks 6)(G:FormL n ks pk)(h1:1≤n)(h4:n≤4):
  Calls Tryz.prog 39 #[va,vb] w fun e w'=>∃ u fr ev c zs M,e=.returned (.tuple #[.agg #[u,.int .i64 fr],ev])∧SameC ev c∧VecN w' u zs M∧zs.length≤4∧QuoIs n hs ks pk c fr zs∧Below w.heap.size w w':=by
 by_cases hin:∀ us∈hs,Gens n (InL ks) us
 ·refine(zf7 w va vb n 6 6 hs ks pk ha hb G h1 h4 (by omega) hin zgb).mono ?_
  rintro e w' ⟨u,M,zs,rfl,q1,q2,q3,-,-,-,-,hbw,hq⟩
  exact⟨u,_,_,0,zs,M,rfl,fun W=>zdP W,q1,q3,.inr ⟨hin,rfl,rfl,hq⟩,hbw⟩
 ·refine(zf8 w va vb n 6 6 hs ks pk ha hb G h1 h4 (by omega) hin).mono ?_
  rintro e w' ⟨rfl,hbw⟩
  exact⟨_,0,_,12,[],1,rfl,fun W=>zdO 12 (by decide) W,⟨_,_,rfl,Nat.le_refl _,fun h=>absurd h (by decide)⟩,by decide,.inl ⟨hin,rfl,rfl,rfl⟩,hbw⟩
theorem zki (w W:World)(vA vB va:Value)(n N:Nat)(hs ks:List (List Int))(p pk:Nat→Nat)(hl:LatN W va n hs 6)(ha:MatR w vA hs N)(hF:FormL n hs p)(hb:MatR w vB ks N)(G:FormL n ks pk)(hn:n≤4)(hN:N≤10000):
  Calls Tryz.prog 44 #[vA,vB] w fun e w'=>∃ u fr c zs,e=.returned (.tuple #[.agg #[u,.int .i64 fr],.int .i64 c])∧VecN w' u zs 2006∧QuoIsR n hs ks pk c fr zs∧Below w.heap.size w w':=by
 refine(zkh w vA vB n N hs ks p pk ha hF hb G hn hN (fun hin zs hz j hj=>?_)).mono ?_
 ·obtain⟨⟨u,-,hu⟩,-⟩:=hl
  obtain⟨r,hr,rfl⟩:=List.mem_map.1 hz
  rw [zaD] at hj
  have hk:=zbS G
  have h1:=zep (nv:=6) (show j<4 by omega) (zfD G (hF.len r hr) (hin r hr) (fun b hb=>Int.le_of_lt (hu.abs r hr b (by rw [hF.len r hr];exact hb))) j hj)
  have h2:bp (6+1)<dp 24:=by decide +kernel
  unfold ab at h1
  split at h1 <;> constructor <;> omega
 ·rintro e w' ⟨hbw,⟨hin,rfl⟩ |⟨hin,u,ds,rfl,hv,h3,h4⟩⟩
  ·exact⟨_,0,12,[],rfl,⟨_,_,rfl,Nat.le_refl _,fun h=>absurd h (by decide)⟩,.inl ⟨hin,rfl,rfl,rfl⟩,hbw⟩
  ·exact⟨u,_,0,_,rfl,hv,.inr ⟨hin,rfl,rfl,ds,rfl,h3,h4⟩,hbw⟩
end Go.Proofs.YtdedolkgcdlmeaaGreatDoor
