import Derived.Test.YtdedolkgcdlmeaaGreatDoorLatF
import Derived.Test.YtdedolkgcdlmeaaGreatDoorSnoc
import Derived.Test.YtdedolkgcdlmeaaGreatDoorRegions
import Derived.Test.YtdedolkgcdlmeaaGreatDoorShift
import Derived.Test.YtdedolkgcdlmeaaGreatDoorHermite
namespace Go.Proofs.YtdedolkgcdlmeaaGreatDoor
open Go.RowKit Limbs
theorem zhL (w:World)(v:Value)(zs:List Int)(nv:Nat)(hv:VecN w v zs nv)(h1:1≤zs.length)(h8:zs.length≤8):
  Calls Tryz.prog 94 #[v] w fun e w'=>e=.returned .nilIface∧Below w.heap.size w w':=by
 obtain⟨rs,hr,hl,ha⟩:=hv.raw
 have e:checkedV rs=.nilIface:=by
  unfold checkedV
  rw [if_neg (by omega),ha];rfl
 have:=zeG w v rs hr
 rwa [e] at this
set_option maxRecDepth 100000 in
set_option maxHeartbeats 1600000 in
theorem zhM (w:World)(v x:Value)(n nv nx:Nat)(hs:List (List Int))(zs:List Int)(h:LatN w v n hs nv)(hx:VecN w x zs nx)(hz:zs.length=n)(h1:1≤n)(h4:n≤4):
  Calls Tryz.prog 88 #[v,x] w fun e w'=>e=.returned .nilIface∧Below w.heap.size w w':=by
 subst hz
 have HL:=hide h;have HX:=hide hx
 obtain⟨⟨u,rfl,⟨uo,ucap,rfl,-,-⟩⟩,-⟩:=h
 obtain⟨xo,xcap,rfl,-,-⟩:=hx
 have HB0:=hide ((Below.refl w.heap.size w).alloc zL (.cells #[.int .i64 (zs.length:Int),.slice uo hs.length ucap] 55))
 have HC:=hide (zj w (.int .i64 (zs.length:Int)) (.slice uo hs.length ucap) 55 _ rfl)
 have HSZ:Hid (w.heap.size < (w.alloc (.cells #[.int .i64 (zs.length:Int),.slice uo hs.length ucap] 55)).heap.size):=by show _ < _;simp
 go_enter Tryz.func88,Tryz.ntmps88
 go_wp2_with fail
 generalize w.alloc (.cells #[.int .i64 (zs.length:Int),.slice uo hs.length ucap] 55)=W0 at *
 refine(zcY W0 _ _ nv hs (by exact HL.out.below HB0.out) h1 h4).mono ?_
 rintro e w1 ⟨rfl,hb1⟩
 have HB1:=hide (HB0.out.trans (hb1.mono HB0.out.size))
 obtain⟨c0,c1,z0,z1⟩:=HC.out.later hb1 HSZ.out
 clear hb1 HC HSZ HB0
 go_wp2_with fail
 refine(zhL w1 _ zs nx (by exact HX.out.below HB1.out zL) (by omega) (by omega)).mono ?_
 rintro e w2 ⟨rfl,hb2⟩
 have HB2:=hide (HB1.out.trans (hb2.mono HB1.out.size))
 clear hb2 HB1 c0 c1 z0 z1
 go_wp2
 go_ret
 exact⟨rfl,HB2.out⟩
def InsPost (w:World)(n nv:Nat)(ms:List (List Int))(e:Ending)(w':World):Prop:=
 ∃ v hs,e=.returned (.tuple #[v,.nilIface])∧LatN w' v n hs (n * nv+2)∧Below w.heap.size w w'∧Alikes n (InL hs) (InL ms)∧∀ u,v=.agg #[.int .i64 (n:Int),u]→Fresh w.heap.size u
set_option maxRecDepth 100000 in
set_option maxHeartbeats 1600000 in
theorem zfq (w:World)(v x:Value)(n nv:Nat)(hs:List (List Int))(zs:List Int)(h:LatN w v n hs nv)(hx:VecN w x zs nv)(hz:zs.length=n)(h1:1≤n)(h4:n≤4)(hN:nbK n (n * nv+2) nv n≤100000):
  Calls Tryz.prog 42 #[v,x] w fun e w'=>InsPost w n nv (hs ++ [zs]) e w':=by
 subst hz
 have HL:=hide h;have HX:=hide hx;have HN:=hide hN
 obtain⟨⟨u,rfl,hu⟩,p,hF⟩:=h
 have HU:=hide hu
 have hlen:=hF.short
 have HR:Hid (∀ us∈hs ++ [zs],us.length=zs.length):=fun us hus=>by
  rcases List.mem_append.1 hus with hh | hh
  ·exact hF.len us hh
  ·rw [List.mem_singleton] at hh;rw [hh]
 obtain⟨uo,ucap,rfl,-,-⟩:=hu
 obtain⟨xb,xoff,xcap,rfl⟩:=hx.form (by omega)
 clear hF hN hx
 have HB0:=hide (((Below.refl w.heap.size w).alloc zL (.cells #[.int .i64 (zs.length:Int),.slice uo hs.length ucap] 55)).alloc (by simp) (.cells #[.int .i64 0,.slice none 0 0] 55))
 have HC:=hide ((zj w (.int .i64 (zs.length:Int)) (.slice uo hs.length ucap) 55 _ rfl).later ((Below.refl (w.heap.size+1) _).alloc (by simp) (.cells #[.int .i64 0,.slice none 0 0] 55)) (by omega))
 have HD:=hide (zj (w.alloc (.cells #[.int .i64 (zs.length:Int),.slice uo hs.length ucap] 55)) (.int .i64 0) (.slice none 0 0) 55 (w.heap.size+1) (by simp))
 have HSZ:Hid (w.heap.size+1 < ((w.alloc (.cells #[.int .i64 (zs.length:Int),.slice uo hs.length ucap] 55)).alloc (.cells #[.int .i64 0,.slice none 0 0] 55)).heap.size):=by show _ < _;simp
 go_enter Tryz.func42,Tryz.ntmps42
 obtain⟨c0,c1,z0,z1⟩:=HC.out
 go_wp2_with fail
 clear c0 c1 z0 z1
 generalize ((w.alloc (.cells #[.int .i64 (zs.length:Int),.slice uo hs.length ucap] 55)).alloc (.cells #[.int .i64 0,.slice none 0 0] 55))=W0 at *
 refine(zhM W0 _ _ _ nv nv hs zs (by exact HL.out.below HB0.out) (by exact HX.out.below HB0.out zL) rfl h1 h4).mono ?_
 rintro e w1 ⟨rfl,hb1⟩
 have HB1:=hide (HB0.out.trans (hb1.mono HB0.out.size))
 obtain⟨c0,c1,z0,z1⟩:=HC.out.later hb1 (by have:=HSZ.out;omega)
 have HE:=hide (HD.out.later hb1 HSZ.out)
 have HS1:=hide (zT HSZ.out hb1.size)
 clear hb1 HC HD HSZ HB0
 have HBA:=hide (((Below.refl w1.heap.size w1).alloc zL (.cells #[.slice (some ⟨xb,xoff,none⟩) zs.length xcap] 72)).alloc (by simp) (.cells #[.slice uo hs.length ucap,.slice (some ⟨w1.heap.size,0,none⟩) 1 1] 23))
 have HT:Hid (TwoM ((w1.alloc (.cells #[.slice (some ⟨xb,xoff,none⟩) zs.length xcap] 72)).alloc (.cells #[.slice uo hs.length ucap,.slice (some ⟨w1.heap.size,0,none⟩) 1 1] 23)) (w1.heap.size+1) (.slice uo hs.length ucap) (.slice (some ⟨w1.heap.size,0,none⟩) 1 1) hs [zs] nv):=by
  have hb:=HBA.out
  have e1:w1.heap.size+1=(w1.alloc (.cells #[.slice (some ⟨xb,xoff,none⟩) zs.length xcap] 72)).heap.size:=by simp
  have hbx:=(Below.refl (w1.heap.size+1) (w1.alloc (.cells #[.slice (some ⟨xb,xoff,none⟩) zs.length xcap] 72))).alloc (by simp) (.cells #[.slice uo hs.length ucap,.slice (some ⟨w1.heap.size,0,none⟩) 1 1] 23)
  refine⟨by simp,?_,?_,(HU.out.below HB1.out zL).below hb zL,⟨_,1,rfl,Nat.le_refl _,fun _=>⟨w1.heap.size,0,rfl,(by simp;omega),fun i us hi=>?_⟩⟩⟩
  ·rw [e1,World.cell?_alloc_new];rfl
  ·rw [e1,World.cell?_alloc_new];rfl
  ·have hi0:i=0:=by have:=(List.getElem?_eq_some_iff.1 hi).1;simpa using this
   subst hi0
   have:us=zs:=by simpa using hi.symm
   subst this
   exact⟨_,(hbx.cell (p:=⟨w1.heap.size,0,none⟩) (by simp)).trans (by rw [World.cell?_alloc_new];rfl),(HX.out.below HB1.out zL).below hb zL⟩
 have HB2:=hide (HB1.out.trans (HBA.out.mono HB1.out.size))
 have HE2:=hide (HE.out.later HBA.out HS1.out)
 have HS2:=hide (zT HS1.out HBA.out.size)
 clear HE HS1 HBA HU HX HL HB1
 go_wp2_with fail
 generalize ((w1.alloc (.cells #[.slice (some ⟨xb,xoff,none⟩) zs.length xcap] 72)).alloc (.cells #[.slice uo hs.length ucap,.slice (some ⟨w1.heap.size,0,none⟩) 1 1] 23))=W2 at *
 refine(zds W2 _ _ _ hs [zs] zs.length nv (by exact HT.out) (by simp;omega) h1 (by omega) HR.out HN.out).mono ?_
 rintro e w3 ⟨u',hs',p',rfl,hu',hb3,hF',hA',hfr⟩
 have hpos:∀ us∈hs',0 < us.length:=fun us hz=>by rw [hF'.len us hz];omega
 have HB3:=hide (HB2.out.trans (hb3.mono HB2.out.size))
 obtain⟨d0,d1,y0,y1⟩:=HE2.out.later hb3 HS2.out
 have HP:Hid (InsPost w zs.length nv (hs ++ [zs]) (.returned (.tuple #[.agg #[.int .i64 (zs.length:Int),u'],.nilIface])) ((w3.setCell ⟨w.heap.size+1,0,none⟩ (.int .i64 (zs.length:Int))).setCell ⟨w.heap.size+1,1,none⟩ u')):=⟨_,hs',rfl,⟨⟨u',rfl,hu'.setBasis _ _ hpos d0 d1⟩,p',hF'⟩,(HB3.out.setCell (by simp) _).setCell (by simp) _,hA',fun x hx=>by simp at hx;rw [← hx];exact hfr.mono HB2.out.size⟩
 obtain⟨vo,vcap,rfl,-,-⟩:=hu'
 clear hF' hA' hfr hpos hb3 HT HR HN HB2 HB3 HE2 HS2 c0 c1 z0 z1
 go_wp2
 exact bodyPost_ret (v:=.tuple #[.agg #[.int .i64 (zs.length:Int),.slice vo hs'.length vcap],.nilIface]) (by simp [results,Tryz.results42,go_sem,d0,d1]) rfl HP.out
theorem zaH (w:World)(a0 a1 b0 b1:Value)(t t':TypeId):Box ((w.alloc (.cells #[a0,a1] t)).alloc (.cells #[b0,b1] t')) w.heap.size a0 a1∧Box ((w.alloc (.cells #[a0,a1] t)).alloc (.cells #[b0,b1] t')) (w.heap.size+1) b0 b1∧Below w.heap.size w ((w.alloc (.cells #[a0,a1] t)).alloc (.cells #[b0,b1] t'))∧w.heap.size+1 < ((w.alloc (.cells #[a0,a1] t)).alloc (.cells #[b0,b1] t')).heap.size:=
 ⟨(zj w a0 a1 t _ rfl).later ((Below.refl (w.heap.size+1) _).alloc (by simp) _) (by omega),zj _ b0 b1 t' _ (by simp),((Below.refl w.heap.size w).alloc zL _).alloc (by simp) _,by simp⟩
set_option maxRecDepth 100000 in
set_option maxHeartbeats 1600000 in
theorem zcX (w:World)(va vb:Value)(n nv mv:Nat)(hs ks:List (List Int))(ha:LatN w va n hs nv)(hb:LatN w vb n ks mv)(h1:1≤n)(h4:n≤4):
  Calls Tryz.prog 80 #[va,vb] w fun e w'=>e=.returned .nilIface∧Below w.heap.size w w':=by
 have HA:=hide ha;have HB:=hide hb
 obtain⟨⟨u,rfl,⟨uo,ucap,rfl,-,-⟩⟩,-⟩:=ha
 obtain⟨⟨v,rfl,⟨vo,vcap,rfl,-,-⟩⟩,-⟩:=hb
 have HX:=hide (zaH w (.int .i64 (n:Int)) (.slice uo hs.length ucap) (.int .i64 (n:Int)) (.slice vo ks.length vcap) 55 55)
 obtain⟨⟨c0,c1,z0,z1⟩,⟨d0,d1,y0,y1⟩,-,-⟩:=HX.out
 go_enter Tryz.func80,Tryz.ntmps80
 go_wp2_with fail
 clear c0 c1 z0 z1 d0 d1 y0 y1
 generalize ((w.alloc (.cells #[.int .i64 (n:Int),.slice uo hs.length ucap] 55)).alloc (.cells #[.int .i64 (n:Int),.slice vo ks.length vcap] 55))=W0 at *
 refine(zcY W0 _ n nv hs (by exact HA.out.below HX.out.2.2.1) h1 h4).mono ?_
 rintro e w1 ⟨rfl,hb1⟩
 have HB1:=hide (HX.out.2.2.1.trans (hb1.mono HX.out.2.2.1.size))
 have HC1:=hide (HX.out.1.later hb1 (by have:=HX.out.2.2.2;omega))
 have HD1:=hide (HX.out.2.1.later hb1 HX.out.2.2.2)
 have HL1:=hide (zT HX.out.2.2.2 hb1.size)
 obtain⟨d0,d1,y0,y1⟩:=HD1.out
 clear hb1 HX
 go_wp2_with fail
 refine(zcY w1 _ n mv ks (by exact HB.out.below HB1.out) h1 h4).mono ?_
 rintro e w2 ⟨rfl,hb2⟩
 have HB2:=hide (HB1.out.trans (hb2.mono HB1.out.size))
 clear d0 d1 y0 y1
 obtain⟨c0,c1,z0,z1⟩:=HC1.out.later hb2 (by have:=HL1.out;omega)
 obtain⟨d0,d1,y0,y1⟩:=HD1.out.later hb2 HL1.out
 clear hb2 HB1 HC1 HD1
 go_wp2
 go_ret
 exact⟨rfl,HB2.out⟩
set_option maxRecDepth 100000 in
set_option maxHeartbeats 1600000 in
theorem zk2 (w:World)(va vb:Value)(n nv:Nat)(hs ks:List (List Int))(ha:LatN w va n hs nv)(hb:LatN w vb n ks nv)(h1:1≤n)(h4:n≤4)(hN:nbK n (n * nv+2) nv n≤100000):
  Calls Tryz.prog 30 #[va,vb] w fun e w'=>InsPost w n nv (hs ++ ks) e w':=by
 have HA:=hide ha;have HB:=hide hb;have HN:=hide hN
 obtain⟨⟨u,rfl,hu⟩,p,hF⟩:=ha
 obtain⟨⟨v,rfl,hv⟩,p',hF'⟩:=hb
 have HU:=hide hu;have HV:=hide hv
 have hl1:=hF.short
 have hl2:=hF'.short
 have HR:Hid (∀ us∈hs ++ ks,us.length=n):=fun us hus=>by
  rcases List.mem_append.1 hus with hh | hh
  ·exact hF.len us hh
  ·exact hF'.len us hh
 obtain⟨uo,ucap,rfl,-,-⟩:=hu
 obtain⟨vo,vcap,rfl,-,-⟩:=hv
 clear hF hF' hN
 have HX:=hide (zaH w (.int .i64 (n:Int)) (.slice uo hs.length ucap) (.int .i64 (n:Int)) (.slice vo ks.length vcap) 55 55)
 have HY:=hide (zj ((w.alloc (.cells #[.int .i64 (n:Int),.slice uo hs.length ucap] 55)).alloc (.cells #[.int .i64 (n:Int),.slice vo ks.length vcap] 55)) (.int .i64 0) (.slice none 0 0) 55 (w.heap.size+1+1) (by simp))
 have HZ:=hide ((Below.refl (w.heap.size+2) ((w.alloc (.cells #[.int .i64 (n:Int),.slice uo hs.length ucap] 55)).alloc (.cells #[.int .i64 (n:Int),.slice vo ks.length vcap] 55))).alloc (by simp) (.cells #[.int .i64 0,.slice none 0 0] 55))
 have HC:=hide (HX.out.1.later HZ.out (by omega))
 have HD:=hide (HX.out.2.1.later HZ.out (by omega))
 have HB0:=hide (HX.out.2.2.1.trans (HZ.out.mono (by omega)))
 have HSZ:Hid (w.heap.size+1+1 < (((w.alloc (.cells #[.int .i64 (n:Int),.slice uo hs.length ucap] 55)).alloc (.cells #[.int .i64 (n:Int),.slice vo ks.length vcap] 55)).alloc (.cells #[.int .i64 0,.slice none 0 0] 55)).heap.size):=by show _ < _;simp
 obtain⟨c0,c1,z0,z1⟩:=HC.out
 obtain⟨d0,d1,y0,y1⟩:=HD.out
 go_enter Tryz.func30,Tryz.ntmps30
 go_wp2_with fail
 clear c0 c1 z0 z1 d0 d1 y0 y1 HX HZ
 generalize (((w.alloc (.cells #[.int .i64 (n:Int),.slice uo hs.length ucap] 55)).alloc (.cells #[.int .i64 (n:Int),.slice vo ks.length vcap] 55)).alloc (.cells #[.int .i64 0,.slice none 0 0] 55))=W0 at *
 refine(zcX W0 _ _ n nv nv hs ks (by exact HA.out.below HB0.out) (by exact HB.out.below HB0.out) h1 h4).mono ?_
 rintro e w1 ⟨rfl,hb1⟩
 have HB1:=hide (HB0.out.trans (hb1.mono HB0.out.size))
 obtain⟨c0,c1,z0,z1⟩:=HC.out.later hb1 (by have:=HSZ.out;omega)
 obtain⟨d0,d1,y0,y1⟩:=HD.out.later hb1 (by have:=HSZ.out;omega)
 have HE:=hide (HY.out.later hb1 HSZ.out)
 have HS1:=hide (zT HSZ.out hb1.size)
 clear hb1 HC HD HY HSZ HB0
 have HBA:=hide ((Below.refl w1.heap.size w1).alloc zL (.cells #[.slice uo hs.length ucap,.slice vo ks.length vcap] 23))
 have HT:Hid (TwoM (w1.alloc (.cells #[.slice uo hs.length ucap,.slice vo ks.length vcap] 23)) w1.heap.size (.slice uo hs.length ucap) (.slice vo ks.length vcap) hs ks nv):=
  ⟨by simp,by rw [World.cell?_alloc_new];rfl,by rw [World.cell?_alloc_new];rfl,(HU.out.below HB1.out zL).below HBA.out zL,(HV.out.below HB1.out zL).below HBA.out zL⟩
 have HB2:=hide (HB1.out.trans (HBA.out.mono HB1.out.size))
 have HE2:=hide (HE.out.later HBA.out HS1.out)
 have HS2:=hide (zT HS1.out HBA.out.size)
 clear HE HS1 HBA HU HV HA HB HB1
 go_wp2_with fail
 generalize w1.alloc (.cells #[.slice uo hs.length ucap,.slice vo ks.length vcap] 23)=W2 at *
 refine(zds W2 _ _ _ hs ks n nv (by exact HT.out) (by omega) h1 (by omega) HR.out HN.out).mono ?_
 rintro e w3 ⟨u',hs',p',rfl,hu',hb3,hF',hA',hfr⟩
 have hpos:∀ us∈hs',0 < us.length:=fun us hz=>by rw [hF'.len us hz];omega
 have HB3:=hide (HB2.out.trans (hb3.mono HB2.out.size))
 clear c0 c1 z0 z1 d0 d1 y0 y1
 obtain⟨d0,d1,y0,y1⟩:=HE2.out.later hb3 HS2.out
 have HP:Hid (InsPost w n nv (hs ++ ks) (.returned (.tuple #[.agg #[.int .i64 (n:Int),u'],.nilIface])) ((w3.setCell ⟨w.heap.size+1+1,0,none⟩ (.int .i64 (n:Int))).setCell ⟨w.heap.size+1+1,1,none⟩ u')):=⟨_,hs',rfl,⟨⟨u',rfl,hu'.setBasis _ _ hpos d0 d1⟩,p',hF'⟩,(HB3.out.setCell (by simp;omega) _).setCell (by simp;omega) _,hA',fun x hx=>by simp at hx;rw [← hx];exact hfr.mono HB2.out.size⟩
 obtain⟨ro,rcap,rfl,-,-⟩:=hu'
 clear hF' hA' hfr hpos hb3 HT HR HN HB2 HB3 HE2 HS2
 go_wp2
 exact bodyPost_ret (v:=.tuple #[.agg #[.int .i64 (n:Int),.slice ro hs'.length rcap],.nilIface]) (by simp [results,Tryz.results30,go_sem,d0,d1]) rfl HP.out
end Go.Proofs.YtdedolkgcdlmeaaGreatDoor
