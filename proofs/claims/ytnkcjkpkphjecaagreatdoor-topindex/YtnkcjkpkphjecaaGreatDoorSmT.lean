import Derived.Test.YtnkcjkpkphjecaaGreatDoorOps2
import Derived.Test.YtnkcjkpkphjecaaGreatDoorRegions
import Derived.Test.YtnkcjkpkphjecaaGreatDoorGrowV
import Derived.Test.YtnkcjkpkphjecaaGreatDoorLatG
import Derived.Test.YtnkcjkpkphjecaaGreatDoorKerT
import Derived.Deep.LoopGhost
namespace Go.Proofs.YtnkcjkpkphjecaaGreatDoor
open Go.RowKit Limbs
theorem zjt {neg neg':Bool}{zs zs':List Int}(h1:LB zs)(h2:LB zs')(n1:Nrm zs)(n2:Nrm zs')(e1:zs.length=0→neg=false)(e2:zs'.length=0→neg'=false)
  (h:(if neg=true then -lv zs else lv zs)=(if neg'=true then -lv zs' else lv zs')):neg=neg'∧zs=zs':=by
 have p1:=zF h1
 have p2:=zF h2
 have q1:=zaG h1 n1
 have q2:=zaG h2 n2
 cases neg <;> cases neg' <;> simp at h
 ·exact⟨rfl,zfm h1 h2 n1 n2 h⟩
 ·exfalso
  have:=e2 (q2.1 (by omega));simp at this
 ·exfalso
  have:=e1 (q1.1 (by omega));simp at this
 ·exact⟨rfl,zfm h1 h2 n1 n2 (by omega)⟩
set_option maxRecDepth 100000 in
set_option maxHeartbeats 1600000 in
theorem zj6 (w:World)(va vb:Value)(x y:Int)(n m:Nat)(ha:NumL w va x n)(hb:NumL w vb y m):
  Calls Tryz.prog 115 #[va,vb] w fun e w'=>e=.returned (.bool (decide (x=y)))∧Below w.heap.size w w':=by
 obtain⟨an,sa,zs,rfl,hla,nra,ea,hx,-⟩:=ha
 obtain⟨bn,sb,zs',rfl,hlb,nrb,eb,hy,-⟩:=hb
 have HA:=hide hla
 have HB:=hide hlb
 obtain⟨ao,acap,rfl,hacap,halen,halb,-⟩:=hla
 obtain⟨bo,bcap,rfl,hbcap,hblen,hblb,-⟩:=hlb
 have HD:Hid (decide (x=y)=decide (an=bn∧zs=zs')):=by
  show _=_
  by_cases h:x=y
  ·rw [decide_eq_true h,decide_eq_true (zjt halb hblb nra nrb ea eb (hx.symm.trans (h.trans hy)))]
  ·rw [decide_eq_false h,decide_eq_false (fun h'=>h (by rw [hx,hy,h'.1,h'.2]))]
 rw [HD.out]
 generalize hr:decide (an=bn∧zs=zs')=r
 have HR:Hid (r=decide (an=bn∧zs=zs')):=hr.symm
 clear hx hy ea eb nra nrb HD hr
 have hT:=two w (.bool an) (.slice ao zs.length acap) (.bool bn) (.slice bo zs'.length bcap) 42 42
 have HT:=hide hT
 obtain⟨_,_,e,-,-,-,hac⟩:=HA.out.below hT.below zL
 simp only [Value.slice.injEq,true_and] at e
 obtain⟨rfl,rfl⟩:=e
 obtain⟨_,_,e,-,-,-,hbc⟩:=HB.out.below hT.below zL
 simp only [Value.slice.injEq,true_and] at e
 obtain⟨rfl,rfl⟩:=e
 have HAC:=hide hac
 have HBC:=hide hbc
 clear hac hbc HA HB
 by_cases hn:an=bn
 ·subst hn
  by_cases hl:zs.length=zs'.length
  ·have HL:=hide hl
   have hl1:((zs.length:Int) ==(zs'.length:Int))=true:=by rw [beq_iff_eq];omega
   have hl2:((zs.length:Int) !=(zs'.length:Int))=false:=by rw [bne_eq_false_iff_eq];omega
   clear hl
   go_enter Tryz.func115,Tryz.ntmps115
   go_wp2
   generalize (w.alloc (.cells #[.bool an,.slice ao zs.length acap] 42)).alloc (.cells #[.bool an,.slice bo zs'.length bcap] 42)=W at *
   clear hT
   obtain⟨k0,k1,-,-⟩:=HT.out.fst
   obtain⟨l0,l1,-,-⟩:=HT.out.res
   go_loopw [5] (fun i wr=>∃ k nq:Nat,k≤zs.length∧i=.int .i64 k∧wr=W.drewN nq∧Hid (zs.take k=zs'.take k)) (fun i _=>zs.length - (intOf i).toNat)
   case atStart=>exact⟨0,0,Nat.zero_le _,rfl,by simp [World.drewN_zero],by show _=_;simp⟩
   case round=>
    obtain⟨k,nq,hk,rfl,rfl,HG⟩:=hrel
    by_cases hlt:k < zs.length
    ·obtain⟨ab,aoff,rfl,-,hac⟩:=HAC.out (by omega)
     have hlt':k < zs'.length:=by have:=HL.out;omega
     obtain⟨bb,boff,rfl,-,hbc⟩:=HBC.out (by omega)
     have hca:=hac k hlt
     have hcb:=hbc k hlt'
     have HTS:=hide (fun e=>zgw hlt hlt' HG.out e)
     have HNE:Hid (zs.getD k 0≠zs'.getD k 0→r=false):=fun h=>HR.out.trans (decide_eq_false fun e=>h (by rw [e.2]))
     clear hac hbc HAC HBC
     generalize zs.getD k 0=z at *
     generalize zs'.getD k 0=y' at *
     by_cases hzy:z=y'
     ·have HG':=hide (HTS.out hzy)
      subst hzy
      clear HTS HNE HG
      go_wp2
      go_quiet (fail)
      go_wp2
      go_roundw
      case rel=>exact⟨k+1,_,by omega,by go_num,rfl,HG'⟩
      case measure=>simp [intOf];omega
     ·obtain rfl:r=false:=HNE.out hzy
      have hz1:(z == y')=false:=by rw [beq_eq_false_iff_ne];exact hzy
      have hz2:(z != y')=true:=by rw [bne_iff_ne];exact hzy
      clear HTS HNE HG
      go_wp2
      go_quiet (fail)
      go_wp2
      go_ret
      exact⟨rfl,by first | exact zN HT.out.below _ | exact zN (zN HT.out.below _) _⟩
    ·obtain rfl:r=true:=by
      obtain rfl:k=zs.length:=by omega
      have:=HG.out
      rw [List.take_length,List.take_of_length_le (by have:=HL.out;omega)] at this
      exact HR.out.trans (decide_eq_true (by first | exact⟨rfl,this⟩ | exact⟨trivial,this⟩))
     clear HG
     go_wp2
     go_ret
     exact⟨rfl,zN HT.out.below _⟩
  ·have hl1:((zs.length:Int) ==(zs'.length:Int))=false:=by rw [beq_eq_false_iff_ne];omega
   have hl2:((zs.length:Int) !=(zs'.length:Int))=true:=by rw [bne_iff_ne];omega
   obtain rfl:r=false:=HR.out.trans (decide_eq_false fun e=>hl (by rw [e.2]))
   clear hl HAC HBC
   go_enter Tryz.func115,Tryz.ntmps115
   go_wp2
   go_ret
   exact⟨rfl,HT.out.below⟩
 ·have hn1:(an == bn)=false:=by rw [beq_eq_false_iff_ne];exact hn
  have hn2:(an != bn)=true:=by rw [bne_iff_ne];exact hn
  obtain rfl:r=false:=HR.out.trans (decide_eq_false fun e=>hn e.1)
  clear hn HAC HBC
  go_enter Tryz.func115,Tryz.ntmps115
  go_wp2
  go_ret
  exact⟨rfl,HT.out.below⟩
set_option maxRecDepth 100000 in
set_option maxHeartbeats 1600000 in
theorem zj8 (w:World)(va vb:Value)(zs ys:List Int)(n m:Nat)(ha:VecN w va zs n)(hb:VecN w vb ys m)(hzl:zs.length≤100000)(r:Bool)(hr:r=decide (zs=ys)):
  Calls Tryz.prog 95 #[va,vb] w fun e w'=>e=.returned (.bool r)∧Below w.heap.size w w':=by
 have HA:=hide ha;have HB:=hide hb
 have HR:=hide hr
 clear hr
 by_cases hl:zs.length=ys.length
 ·obtain⟨ao,acap,rfl,-,-⟩:=ha
  obtain⟨bo,bcap,rfl,-,-⟩:=hb
  have hl1:((zs.length:Int) ==(ys.length:Int))=true:=by rw [beq_iff_eq];omega
  have hl2:((zs.length:Int) !=(ys.length:Int))=false:=by rw [bne_eq_false_iff_eq];omega
  have HLN:=hide hl
  clear hl
  go_enter Tryz.func95,Tryz.ntmps95
  go_wp2
  go_loopw [5] (fun i wr=>∃ k:Nat,k≤zs.length∧i=.int .i64 k∧Hid (zs.take k=ys.take k)∧Below w.heap.size w wr) (fun i _=>zs.length - (intOf i).toNat)
  case atStart=>exact⟨0,Nat.zero_le _,rfl,by show _=_;simp,Below.refl _ _⟩
  case round=>
   obtain⟨k,hk,rfl,HG,hbe⟩:=hrel
   have HBE:=hide hbe
   clear hbe
   by_cases hkl:k < zs.length
   ·have hky:k < ys.length:=by have:=HLN.out;omega
    obtain⟨ab,aoff,_,e⟩:=HA.out.form (by omega)
    simp only [Value.slice.injEq,true_and] at e
    obtain⟨rfl,rfl⟩:=e
    obtain⟨bb,boff,_,e⟩:=HB.out.form (by omega)
    simp only [Value.slice.injEq,true_and] at e
    obtain⟨rfl,rfl⟩:=e
    obtain⟨la,an,ao,al,ac,a0,a1,na⟩:=(HA.out.below HBE.out zL).at k hkl
    obtain⟨lb,bn,bo,bl,bc,b0,b1,nb⟩:=(HB.out.below HBE.out zL).at k hky
    have NA:=hide na;have NB:=hide nb
    have HTS:=hide (fun e=>zgw hkl hky HG.out e)
    have HNE:Hid (zs.getD k 0≠ys.getD k 0→r=false):=fun h=>by
     rw [HR.out];exact decide_eq_false fun e=>h (by rw [e])
    clear na nb
    generalize zs.getD k 0=z at *
    generalize ys.getD k 0=y at *
    go_wp2_with fail
    go_region_held3 (fun w'=>w'.cell? ⟨ab,aoff+k * 2,none⟩=some (.bool an)∧w'.cell? ⟨ab,aoff+k * 2+1,none⟩=some (.slice ao al ac)∧w'.cell? ⟨bb,boff+k * 2,none⟩=some (.bool bn)∧w'.cell? ⟨bb,boff+k * 2+1,none⟩=some (.slice bo bl bc)) (go_keep)
     (first
      |(go_at_call 115;refine(zj6 _ _ _ z y n m (by exact NA.out) (by exact NB.out)).mono ?_;rintro e w1 ⟨rfl,hb1⟩;have HB1:=hide (show Below w.heap.size w w1 from HBE.out.drew.trans (hb1.mono HBE.out.size));have p0:=(hb1.cell (p:=⟨ab,aoff+k * 2,none⟩) la).trans a0;have p1:=(hb1.cell (p:=⟨ab,aoff+k * 2+1,none⟩) la).trans a1;have p2:=(hb1.cell (p:=⟨bb,boff+k * 2,none⟩) lb).trans b0;have p3:=(hb1.cell (p:=⟨bb,boff+k * 2+1,none⟩) lb).trans b1;clear hb1))
    by_cases hz:z=y
    ·have HG':=hide (HTS.out hz)
     have ez:decide (z=y)=true:=decide_eq_true hz
     rw [ez]
     clear HTS HNE hz ez p0 p1 p2 p3 a0 a1 b0 b1
     go_wp2
     go_roundw
     case rel=>exact⟨k+1,by omega,by go_num,HG',HB1.out⟩
     case measure=>simp [intOf];omega
    ·have ez:decide (z=y)=false:=decide_eq_false hz
     rw [ez]
     obtain rfl:r=false:=HNE.out hz
     clear HTS HNE hz ez p0 p1 p2 p3 a0 a1 b0 b1
     go_wp2
     go_ret
     exact⟨rfl,HB1.out⟩
   ·obtain rfl:k=zs.length:=by omega
    have HE:Hid (zs=ys):=by
     have:=HG.out
     rw [List.take_length,List.take_of_length_le (by have:=HLN.out;omega)] at this
     exact this
    obtain rfl:r=true:=by rw [HR.out];exact decide_eq_true HE.out
    clear HG HE
    go_wp2
    go_ret
    exact⟨rfl,HBE.out⟩
 ·obtain⟨ao,acap,rfl,-,-⟩:=ha
  obtain⟨bo,bcap,rfl,-,-⟩:=hb
  have hl1:((zs.length:Int) ==(ys.length:Int))=false:=by rw [beq_eq_false_iff_ne];omega
  have hl2:((zs.length:Int) !=(ys.length:Int))=true:=by rw [bne_iff_ne];omega
  obtain rfl:r=false:=by rw [HR.out];exact decide_eq_false fun e=>hl (by rw [e])
  go_enter Tryz.func95,Tryz.ntmps95
  go_wp2
  go_ret
  exact⟨rfl,Below.refl _ _⟩
end Go.Proofs.YtnkcjkpkphjecaaGreatDoor
/- The reference: are rows of vectors the same? -/
namespace Go.Proofs.YtnkcjkpkphjecaaGreatDoor
open Go.RowKit Limbs
theorem zky {zs ys:List (List Int)}{k:Nat}(h1:k < zs.length)(h2:k < ys.length)(h:zs.take k=ys.take k)(e:zs[k]=ys[k]):zs.take (k+1)=ys.take (k+1):=by
 rw [List.take_succ_eq_append_getElem h1,List.take_succ_eq_append_getElem h2,h,e]
set_option maxRecDepth 100000 in
set_option maxHeartbeats 1600000 in
theorem zj7 (w:World)(va vb:Value)(zss yss:List (List Int))(n m:Nat)(ha:MatN w va zss n)(hb:MatN w vb yss m)(hzl:zss.length≤100000)(hz:∀ zs∈zss,zs.length≤100000)(r:Bool)(hr:r=decide (zss=yss)):
  Calls Tryz.prog 61 #[va,vb] w fun e w'=>e=.returned (.bool r)∧Below w.heap.size w w':=by
 have HA:=hide ha;have HB:=hide hb
 have HR:=hide hr;have HZ:=hide hz
 clear hr hz
 by_cases hl:zss.length=yss.length
 ·obtain⟨ao,acap,rfl,-,-⟩:=ha
  obtain⟨bo,bcap,rfl,-,-⟩:=hb
  have hl1:((zss.length:Int) ==(yss.length:Int))=true:=by rw [beq_iff_eq];omega
  have hl2:((zss.length:Int) !=(yss.length:Int))=false:=by rw [bne_eq_false_iff_eq];omega
  have HLN:=hide hl
  clear hl
  go_enter Tryz.func61,Tryz.ntmps61
  go_wp2
  go_loopw [5] (fun i wr=>∃ k:Nat,k≤zss.length∧i=.int .i64 k∧Hid (zss.take k=yss.take k)∧Below w.heap.size w wr) (fun i _=>zss.length - (intOf i).toNat)
  case atStart=>exact⟨0,Nat.zero_le _,rfl,by show _=_;simp,Below.refl _ _⟩
  case round=>
   obtain⟨k,hk,rfl,HG,hbe⟩:=hrel
   have HBE:=hide hbe
   clear hbe
   by_cases hkl:k < zss.length
   ·have hky:k < yss.length:=by have:=HLN.out;omega
    obtain⟨ab,aoff,_,e,la,ua,a0,na⟩:=(HA.out.below HBE.out zL).at k hkl
    simp only [Value.slice.injEq,true_and] at e
    obtain⟨rfl,rfl⟩:=e
    obtain⟨bb,boff,_,e,lb,ub,b0,nb⟩:=(HB.out.below HBE.out zL).at k hky
    simp only [Value.slice.injEq,true_and] at e
    obtain⟨rfl,rfl⟩:=e
    have NA:=hide na;have NB:=hide nb
    have HTS:=hide (fun e=>zky hkl hky HG.out e)
    have hzk:=HZ.out _ (List.getElem_mem hkl)
    have HNE:Hid (zss[k]≠yss[k]→r=false):=fun h=>by
     rw [HR.out];exact decide_eq_false fun e=>h (by simp only [e])
    clear na nb
    generalize zss[k]=z at *
    generalize yss[k]=y at *
    obtain⟨uo1,uc1,rfl,-,-⟩:=NA.out
    obtain⟨uo2,uc2,rfl,-,-⟩:=NB.out
    go_wp2_with fail
    go_region_held3 (fun w'=>w'.cell? ⟨ab,aoff+k,none⟩=some (.slice uo1 z.length uc1)∧w'.cell? ⟨bb,boff+k,none⟩=some (.slice uo2 y.length uc2)) (go_keep)
     (first
      |(go_at_call 95;refine(zj8 _ _ _ z y n m (by exact NA.out) (by exact NB.out) hzk _ rfl).mono ?_;rintro e w1 ⟨rfl,hb1⟩;have HB1:=hide (show Below w.heap.size w w1 from HBE.out.drew.trans (hb1.mono HBE.out.size));have p0:=(hb1.cell (p:=⟨ab,aoff+k,none⟩) la).trans a0;have p1:=(hb1.cell (p:=⟨bb,boff+k,none⟩) lb).trans b0;clear hb1))
    by_cases hz:z=y
    ·have HG':=hide (HTS.out hz)
     have ez:decide (z=y)=true:=decide_eq_true hz
     rw [ez]
     clear HTS HNE hz ez p0 p1 a0 b0
     go_wp2
     go_roundw
     case rel=>exact⟨k+1,by omega,by go_num,HG',HB1.out⟩
     case measure=>simp [intOf];omega
    ·have ez:decide (z=y)=false:=decide_eq_false hz
     rw [ez]
     obtain rfl:r=false:=HNE.out hz
     clear HTS HNE hz ez p0 p1 a0 b0
     go_wp2
     go_ret
     exact⟨rfl,HB1.out⟩
   ·obtain rfl:k=zss.length:=by omega
    have HE:Hid (zss=yss):=by
     have:=HG.out
     rw [List.take_length,List.take_of_length_le (by have:=HLN.out;omega)] at this
     exact this
    obtain rfl:r=true:=by rw [HR.out];exact decide_eq_true HE.out
    clear HG HE
    go_wp2
    go_ret
    exact⟨rfl,HBE.out⟩
 ·obtain⟨ao,acap,rfl,-,-⟩:=ha
  obtain⟨bo,bcap,rfl,-,-⟩:=hb
  have hl1:((zss.length:Int) ==(yss.length:Int))=false:=by rw [beq_eq_false_iff_ne];omega
  have hl2:((zss.length:Int) !=(yss.length:Int))=true:=by rw [bne_iff_ne];omega
  obtain rfl:r=false:=by rw [HR.out];exact decide_eq_false fun e=>hl (by rw [e])
  go_enter Tryz.func61,Tryz.ntmps61
  go_wp2
  go_ret
  exact⟨rfl,Below.refl _ _⟩
end Go.Proofs.YtnkcjkpkphjecaaGreatDoor
/- Are two lattices the same? -/
namespace Go.Proofs.YtnkcjkpkphjecaaGreatDoor
open Go.RowKit Limbs
theorem zah (w:World)(a0 a1 b0 b1:Value)(t t':TypeId):Box ((w.alloc (.cells #[a0,a1] t)).alloc (.cells #[b0,b1] t')) w.heap.size a0 a1∧Box ((w.alloc (.cells #[a0,a1] t)).alloc (.cells #[b0,b1] t')) (w.heap.size+1) b0 b1∧Below w.heap.size w ((w.alloc (.cells #[a0,a1] t)).alloc (.cells #[b0,b1] t'))∧w.heap.size+1 < ((w.alloc (.cells #[a0,a1] t)).alloc (.cells #[b0,b1] t')).heap.size:=
 ⟨(zg w a0 a1 t _ rfl).later ((Below.refl (w.heap.size+1) _).alloc (by simp) _) (by omega),zg _ b0 b1 t' _ (by simp),((Below.refl w.heap.size w).alloc zL _).alloc (by simp) _,by simp⟩
set_option maxRecDepth 100000 in
set_option maxHeartbeats 1600000 in
theorem zj5 (w:World)(va vb:Value)(n nv mv:Nat)(hs ks:List (List Int))(ha:LatN w va n hs nv)(hb:LatN w vb n ks mv)(hn:n≤1000):
  Calls Tryz.prog 35 #[va,vb] w fun e w'=>e=.returned (.bool (decide (hs=ks)))∧Below w.heap.size w w':=by
 obtain⟨⟨u,rfl,hu⟩,p,hF⟩:=ha
 obtain⟨⟨v,rfl,hv⟩,q,hG⟩:=hb
 have HU:=hide hu;have HV:=hide hv
 have h1:=hF.short
 have HLE:Hid (∀ zs∈hs,zs.length≤100000):=fun zs hz=>by have:=hF.len zs hz;omega
 obtain⟨uo,ucap,rfl,-,-⟩:=hu
 obtain⟨vo,vcap,rfl,-,-⟩:=hv
 clear hF hG
 have HX:=hide (zah w (.int .i64 (n:Int)) (.slice uo hs.length ucap) (.int .i64 (n:Int)) (.slice vo ks.length vcap) 29 29)
 obtain⟨⟨c0,c1,z0,z1⟩,⟨d0,d1,y0,y1⟩,-,-⟩:=HX.out
 go_enter Tryz.func35,Tryz.ntmps35
 go_wp2_with fail
 clear c0 c1 z0 z1 d0 d1 y0 y1
 generalize ((w.alloc (.cells #[.int .i64 (n:Int),.slice uo hs.length ucap] 29)).alloc (.cells #[.int .i64 (n:Int),.slice vo ks.length vcap] 29))=W0 at *
 refine(zj7 W0 _ _ hs ks nv mv (by exact HU.out.below HX.out.2.2.1 zL) (by exact HV.out.below HX.out.2.2.1 zL) (by omega) HLE.out _ rfl).mono ?_
 rintro e w1 ⟨rfl,hb1⟩
 have HB1:=hide (HX.out.2.2.1.trans (hb1.mono HX.out.2.2.1.size))
 obtain⟨c0,c1,z0,z1⟩:=HX.out.1.later hb1 (by have:=HX.out.2.2.2;omega)
 obtain⟨d0,d1,y0,y1⟩:=HX.out.2.1.later hb1 HX.out.2.2.2
 generalize hr:decide (hs=ks)=r at *
 clear hb1 HX HU HV
 have HRR:=hide hr
 clear hr
 go_wp2
 go_ret
 exact⟨by rw [HRR.out];rfl,HB1.out⟩
set_option maxRecDepth 100000 in
set_option maxHeartbeats 1600000 in
theorem zgV (w:World)(va vb:Value)(n nv mv:Nat)(hs ks:List (List Int))(ha:LatN w va n hs nv)(hb:LatN w vb n ks mv)(hn:n≤1000):
  Calls Tryz.prog 15 #[va,vb] w fun e w'=>e=.returned (.bool (decide (hs=ks)))∧Below w.heap.size w w':=by
 have HA:=hide ha;have HB:=hide hb
 obtain⟨⟨u,rfl,⟨uo,ucap,rfl,-,-⟩⟩,-⟩:=ha
 obtain⟨⟨v,rfl,⟨vo,vcap,rfl,-,-⟩⟩,-⟩:=hb
 have HX:=hide (zah w (.int .i64 (n:Int)) (.slice uo hs.length ucap) (.int .i64 (n:Int)) (.slice vo ks.length vcap) 29 29)
 obtain⟨⟨c0,c1,z0,z1⟩,⟨d0,d1,y0,y1⟩,-,-⟩:=HX.out
 go_enter Tryz.func15,Tryz.ntmps15
 go_wp2_with fail
 clear c0 c1 z0 z1 d0 d1 y0 y1
 generalize ((w.alloc (.cells #[.int .i64 (n:Int),.slice uo hs.length ucap] 29)).alloc (.cells #[.int .i64 (n:Int),.slice vo ks.length vcap] 29))=W0 at *
 refine(zj5 W0 _ _ n nv mv hs ks (by exact HA.out.below HX.out.2.2.1) (by exact HB.out.below HX.out.2.2.1) hn).mono ?_
 rintro e w1 ⟨rfl,hb1⟩
 have HB1:=hide (HX.out.2.2.1.trans (hb1.mono HX.out.2.2.1.size))
 clear hb1 HX
 go_wp2
 go_ret
 exact⟨rfl,HB1.out⟩
end Go.Proofs.YtnkcjkpkphjecaaGreatDoor
/- Rows and places turned about again and again: what stays, and why it ends. No Go in it. -/
namespace Go.Proofs.YtnkcjkpkphjecaaGreatDoor
open Go.RowKit Limbs
theorem zdh:∀(n:Nat) (M:Nat→Nat→Int) (c:Nat),c < n→(∀ a,a < n→M a c=0)→det n M=0
 | 0,_,c,hc,_=>absurd hc (Nat.not_lt_zero c)
 | n+1,M,c,hc,h=>by
  rw [det]
  refine(zj (g:=fun _=>0) fun j hj=>?_).trans (zag _)
  by_cases e:j=c
  ·rw [e,h n (by omega),Int.mul_zero,Int.zero_mul]
  ·have:det n (fun a b=>M a (sk j b))=0:=by
    by_cases hlt:c < j
    ·exact zdh n _ c (by omega) fun a ha=>by
      show M a (sk j c)=0
      rw [zaJ hlt];exact h a (by omega)
    ·refine zdh n _ (c - 1) (by omega) fun a ha=>?_
     show M a (sk j (c - 1))=0
     rw [zcP (by omega),show c - 1+1=c by omega]
     exact h a (by omega)
   rw [this,Int.mul_zero]
theorem zhM (n:Nat)(M:Nat→Nat→Int)(h:∀ a b,a < n→b < n→a < b→M a b=0):det n M=prodN n (fun i=>M i i):=by
 induction n with
 | zero=>rfl
 | succ n ih=>
  rw [det,zK (n+1) n (by omega) _ fun j hj hne=>by
   have:det n (fun a b=>M a (sk j b))=0:=by
    refine zdh n _ (n - 1) (by omega) fun a ha=>?_
    show M a (sk j (n - 1))=0
    rw [zcP (by omega),show n - 1+1=n by omega]
    exact h a n (by omega) (by omega) (by omega)
   rw [this,Int.mul_zero]]
  have e:det n (fun a b=>M a (sk n b))=det n M:=zt fun a b _ hb=>by rw [zaJ hb]
  rw [e,ih fun a b ha hb hab=>h a b (by omega) (by omega) hab]
  have:sgnN (n+n)=1:=by unfold sgnN;rw [if_pos (by omega)]
  rw [this,Int.one_mul,prodN,Int.mul_comm]
structure Sq (r:Nat)(H:List (List Int)):Prop where
 form:FormL r H (fun k=>k)
 len:H.length=r
theorem zbY {r:Nat}{H:List (List Int)}{p:Nat→Nat}(F:FormL r H p)(hl:H.length=r):Sq r H:=by
 have h2:∀ d k,k+d < r→p k+d≤p (k+d):=fun d=>by
  induction d with
  | zero=>exact fun k _=>Nat.le_refl _
  | succ d ih=>intro k hk;have:=ih k (by omega);have:=F.form.inc (k+d) (k+(d+1)) (by omega) (by omega);omega
 have hp:∀ k,k < r→p k=k:=fun k hk=>by
  have h3:=h2 (r - 1 - k) k (by omega)
  have h4:=F.form.lt (k+(r - 1 - k)) (by omega)
  have h5:=h2 k 0 (by omega)
  rw [Nat.zero_add] at h5
  omega
 refine⟨⟨F.len,?_⟩,hl⟩
 refine⟨fun i k h _=>h,fun i h=>by omega,fun i b hi hb=>F.form.zero i b hi (by rw [hp i (by omega)];exact hb),fun i hi=>?_,fun i k hik hk=>?_⟩
 ·have:=F.form.pos i hi;rwa [hp i (by omega)] at this
 ·have:=F.form.red i k hik hk;rwa [hp k (by omega)] at this
theorem zkq {r:Nat}{H:List (List Int)}{p:Nat→Nat}(F:FormL r H p)(hl:H.length=r):∀ k,k < r→p k=k:=fun k hk=>by
 have h2:∀ d k,k+d < r→p k+d≤p (k+d):=fun d=>by
  induction d with
  | zero=>exact fun k _=>Nat.le_refl _
  | succ d ih=>intro k hk;have:=ih k (by omega);have:=F.form.inc (k+d) (k+(d+1)) (by omega) (by omega);omega
 have h3:=h2 (r - 1 - k) k (by omega)
 have h4:=F.form.lt (k+(r - 1 - k)) (by omega)
 have h5:=h2 k 0 (by omega)
 rw [Nat.zero_add] at h5
 omega
theorem zhD {n:Nat}{hs fs:List (List Int)}{p:Nat→Nat}(G:FormL n hs p)(a:Alikes hs.length (InL fs) (InL (colsL hs n)))(hle:fs.length≤hs.length):fs.length=hs.length:=by
 obtain⟨C,hC⟩:=zG (r:=hs.length) (n:=hs.length) (mm:=fs.length) (H:=fun i b=>ent hs b (p (hs.length - 1 - i))) (M:=ent fs) fun i hi=>by
  have hj:p (hs.length - 1 - i) < n:=G.form.lt _ (by omega)
  have hm:(colsL hs n).getD (p (hs.length - 1 - i)) []∈colsL hs n:=zm (by rw [zW];exact hj)
  obtain⟨d,hd⟩:=zw ((a _).2 (.base hm (zbd hs n _ hm)))
  refine⟨d,fun b hb=>?_⟩
  have e1:=hd b hb
  dsimp only at e1
  rw [zbc hs n _ hj,zak _ _ _ hb] at e1
  exact e1
 have:=zaI hs.length fs.length hs.length (fun i b=>ent hs b (p (hs.length - 1 - i))) (ent fs) C (fun k=>hs.length - 1 - k) (fun k hk=>by omega)
  (fun i k hi hki=>G.form.zero (hs.length - 1 - k) (p (hs.length - 1 - i)) (by omega) (G.form.inc _ _ (by omega) (by omega)))
  (fun i hi=>G.form.pos (hs.length - 1 - i) (by omega)) hC
 omega
section
variable {r:Nat}{H H':List (List Int)}
theorem Sq.low (S:Sq r H){k b:Nat}(hk:k < r)(hb:b < k):ent H k b=0:=S.form.form.zero k b (by rw [S.len];exact hk) hb
theorem Sq.pos (S:Sq r H){k:Nat}(hk:k < r):0 < ent H k k:=S.form.form.pos k (by rw [S.len];exact hk)
theorem Sq.red (S:Sq r H){i k:Nat}(hik:i < k)(hk:k < r):0≤ent H i k∧ent H i k < ent H k k:=S.form.form.red i k hik (by rw [S.len];exact hk)
def diag (r:Nat)(H:List (List Int)):Int:=prodN r (fun k=>ent H k k)
theorem Sq.one_le (S:Sq r H):1≤diag r H:=zbV r _ fun _ hk=>S.pos hk
theorem Sq.diag_le (S:Sq r H){k:Nat}(hk:k < r):ent H k k≤diag r H:=zdQ r (fun k=>ent H k k) (fun _ hk=>S.pos hk) k hk
theorem Sq.ent_le (S:Sq r H){k b:Nat}(hk:k < r)(hb:b < r):0≤ent H k b∧ent H k b≤diag r H:=by
 rcases Nat.lt_trichotomy k b with h | h | h
 ·have h1:=S.red h hb;have h2:=S.diag_le hb;omega
 ·subst h;have h1:=S.pos hk;have h2:=S.diag_le hk;omega
 ·have h1:=S.low hk h;have h2:=S.one_le;omega
theorem zaq (S:Sq r H){j b:Nat}(hj:j < r)(hb:b < r):ent (colsL H r) j b=ent H b j:=by
 show((colsL H r).getD j []).getD b 0=_
 rw [zbc H r j hj,zak _ _ _ (by rw [S.len];exact hb)]
 rfl
theorem zde (S:Sq r H){j:Nat}(hj:j < r):Gens r (InL (colsL H r)) ((colsL H r).getD j []):=by
 have hm:(colsL H r).getD j []∈colsL H r:=zm (by rw [zW];exact hj)
 exact .base hm (by rw [zbd H r _ hm,S.len])
theorem Sq.step (S:Sq r H){p:Nat→Nat}(F:FormL r H' p)(a:Alikes r (InL H') (InL (colsL H r))):Sq r H'∧diag r H'=diag r H:=by
 have h1:=zdt F a
 rw [zW] at h1
 have hl:H'.length=r:=by
  obtain⟨C,hC⟩:=zG (r:=r) (n:=r) (mm:=H'.length) (H:=fun i b=>ent (colsL H r) (r - 1 - i) b) (M:=ent H') fun i hi=>zw ((a _).2 (zde S (j:=r - 1 - i) (by omega)))
  have:=zaI r H'.length r (fun i b=>ent (colsL H r) (r - 1 - i) b) (ent H') C (fun k=>r - 1 - k) (fun k hk=>by omega)
   (fun i k hi hki=>by
    show ent (colsL H r) (r - 1 - i) (r - 1 - k)=0
    rw [zaq S (by omega) (by omega)]
    exact S.low (by omega) (by omega))
   (fun i hi=>by
    show 1≤ent (colsL H r) (r - 1 - i) (r - 1 - i)
    rw [zaq S (by omega) (by omega)]
    exact S.pos (by omega)) hC
  omega
 have S':=zbY F hl
 refine⟨S',?_⟩
 obtain⟨C,hC⟩:=zG (r:=r) (n:=r) (mm:=r) (H:=ent H') (M:=ent (colsL H r)) fun k hk=>by
  have hm:H'.getD k []∈H':=zm (by omega)
  have g:=zw ((a _).1 (.base hm (F.len _ hm)))
  rw [zW] at g
  exact g
 obtain⟨T,hT⟩:=zG (r:=r) (n:=r) (mm:=r) (H:=ent (colsL H r)) (M:=ent H') fun k hk=>by
  have g:=zw ((a _).2 (zde S hk))
  rw [hl] at g
  exact g
 have d1:det r (ent H')=diag r H':=zbC r _ fun i b hi hb=>S'.low hi hb
 have d2:det r (ent (colsL H r))=diag r H:=by
  rw [zhM r _ fun i b hi hb hib=>by rw [zaq S hi hb];exact S.low hb hib]
  unfold diag
  have:∀ m,m≤r→prodN m (fun i=>ent (colsL H r) i i)=prodN m (fun k=>ent H k k):=fun m=>by
   induction m with
   | zero=>exact fun _=>rfl
   | succ m ih=>intro hm;rw [prodN,prodN,ih (by omega),zaq S (by omega) (by omega)]
  exact this r zL
 have e1:diag r H'=det r C * diag r H:=by
  rw [← d1,← d2,← zaO]
  exact zt fun x y hx hy=>hC x y hx hy
 have e2:diag r H=det r T * diag r H':=by
  rw [← d1,← d2,← zaO]
  exact zt fun x y hx hy=>hT x y hx hy
 have o1:=S.one_le;have o2:=S'.one_le
 have up:∀ {x y c:Int},1≤x→1≤y→x=c * y→y≤x:=fun {x y c} hx hy h=>by
  rcases Int.lt_or_le 0 c with hc | hc
  ·have:=Int.mul_le_mul_of_nonneg_right (show 1≤c by omega) (show 0≤y by omega)
   omega
  ·have:=Int.mul_le_mul_of_nonneg_right hc (show 0≤y by omega)
   omega
 have:=up o2 o1 e1
 have:=up o1 o2 e2
 omega
theorem Sq.bound (S:Sq r H){ms:List (List Int)}(a:Alikes r (InL H) (InL ms))(hl:∀ us∈ms,us.length=r){B:Int}(hB:0≤B)(hb:∀ us∈ms,∀ j,j < r→absI (us.getD j 0)≤B):diag r H≤facP r B:=by
 obtain⟨C,hC⟩:=zG (r:=r) (n:=r) (mm:=ms.length) (H:=ent H) (M:=ent ms) fun k hk=>by
  have hm:H.getD k []∈H:=zm (by rw [S.len];exact hk)
  exact zw ((a _).1 (.base hm (S.form.len _ hm)))
 obtain⟨T,hT⟩:=zG (r:=ms.length) (n:=r) (mm:=r) (H:=ent ms) (M:=ent H) fun k hk=>by
  have hm:ms.getD k []∈ms:=zm hk
  have g:=zw ((a _).2 (.base hm (hl _ hm)))
  rw [S.len] at g
  exact g
 have d1:det r (ent H)=diag r H:=zbC r _ fun i b hi hb=>S.low hi hb
 have o1:=S.one_le
 obtain⟨φ,hφ,hne⟩:=zda r ms.length (ent H) (ent ms) C (fun a b ha hb=>hC a b ha hb) (by rw [d1];omega) r zL
 have hne':det r (fun a b=>ent ms (φ a) b)≠0:=by
  intro h
  apply hne
  have e:det r (fun a b=>if a < r then ent ms (φ a) b else ent H a b)=det r (fun a b=>ent ms (φ a) b):=zt fun a b ha _=>if_pos ha
  exact e.trans h
 have hmul:det r (fun a b=>ent ms (φ a) b)=det r (fun a k=>T (φ a) k) * det r (ent H):=by
  rw [← zaO]
  exact zt fun a b ha hb=>hT (φ a) b (hφ a ha) hb
 have h1:=zeK (n:=r) (fun a b=>ent ms (φ a) b) B hB fun a b ha hb'=>hb _ (zm (hφ a ha)) b hb'
 rw [hmul,zaa,d1] at h1
 have hT0:det r (fun a k=>T (φ a) k)≠0:=fun h=>hne' (by rw [hmul,h,Int.zero_mul])
 have h2:1≤absI (det r (fun a k=>T (φ a) k)):=by
  have:=zai (det r (fun a k=>T (φ a) k))
  have h3:absI (det r (fun a k=>T (φ a) k))≠0:=fun h=>hT0 (zcZ.1 h)
  omega
 rw [zab (show 0≤diag r H by omega)] at h1
 have h3:=Int.mul_le_mul_of_nonneg_right h2 (show 0≤diag r H by omega)
 omega
def rowAl (r:Nat)(H:List (List Int))(k:Nat):Prop:=∀ b,k < b→b < r→ent H k b=0
theorem zd1 (n k b:Nat)(hkb:k < b)(hb:b < n)(f:Nat→Int)(h:∀ i,i < n→i≠k→i≠b→f i=0):sumN n f=f k+f b:=by
 have e:sumN n f=sumN n (fun j=>(if j=k then f k else 0)+(if j=b then f b else 0)):=zj fun j hj=>by
  by_cases h1:j=k
  ·rw [if_pos h1,if_neg (by omega),h1,Int.add_zero]
  ·by_cases h2:j=b
   ·rw [if_neg h1,if_pos h2,h2,Int.zero_add]
   ·rw [if_neg h1,if_neg h2,h j hj h1 h2];rfl
 rw [e,zaK,zK n k (by omega) _ (fun i _ hi=>if_neg hi),zK n b hb _ (fun i _ hi=>if_neg hi),if_pos rfl,if_pos rfl]
theorem Sq.unit_row (S:Sq r H){v:List Int}(hv:Gens r (InL H) v){k:Nat}(hk:k < r){e:Int}(he:∀ b,b < r→v.getD b 0=if b=k then e else 0):
  (∃ t,e=t * ent H k k)∧(e=ent H k k→rowAl r H k):=by
 obtain⟨d,hd⟩:=zw hv
 rw [S.len] at hd
 have hd':∀ b,b < r→(if b=k then e else 0)=sumN r (fun j=>d j * ent H j b):=fun b hb=>(he b hb).symm.trans (hd b hb)
 have hpiv:∀ j,j < r→(∀ i,i < j→d i=0)→sumN r (fun i=>d i * ent H i j)=d j * ent H j j:=fun j hj h0=>by
  refine zK r j hj _ fun i hi hij=>?_
  rcases Nat.lt_or_gt_of_ne hij with h | h
  ·rw [h0 i h,Int.zero_mul]
  ·rw [S.low hi h,Int.mul_zero]
 have hz:∀ j,j < k→d j=0:=fun j=>by
  induction j using Nat.strongRecOn with
  | _ j ih=>
   intro hj
   have h1:=hd' j (by omega)
   rw [if_neg (by omega),hpiv j (by omega) fun i hi=>ih i hi (by omega)] at h1
   have hp:=S.pos (k:=j) (by omega)
   rcases Int.mul_eq_zero.1 h1.symm with h | h
   ·exact h
   ·omega
 have hke:=hd' k hk
 rw [if_pos rfl,hpiv k hk hz] at hke
 refine⟨⟨d k,hke⟩,fun hee=>?_⟩
 have hd1:d k=1:=by
  have hp:=S.pos hk
  rw [hee] at hke
  have:(d k - 1) * ent H k k=0:=by rw [Int.sub_mul];omega
  rcases Int.mul_eq_zero.1 this with h | h <;> omega
 have key:∀ b,k < b→b < r→d b=0∧ent H k b=0:=fun b=>by
  induction b using Nat.strongRecOn with
  | _ b ih=>
   intro hkb hb
   have h1:=hd' b hb
   rw [if_neg (by omega),zd1 r k b hkb hb _ fun i hi h2 h3=>by
    rcases Nat.lt_trichotomy i k with h | h | h
    ·rw [hz i h,Int.zero_mul]
    ·exact absurd h h2
    ·rcases Nat.lt_or_gt_of_ne h3 with h4 | h4
     ·rw [(ih i h4 h hi).1,Int.zero_mul]
     ·rw [S.low hi h4,Int.mul_zero],hd1,Int.one_mul] at h1
   have hr:=S.red hkb hb
   have hp:=S.pos hb
   have h0:d b=0:=by
    rcases Int.lt_trichotomy (d b) 0 with h | h | h
    ·have:=Int.mul_le_mul_of_nonneg_right (show d b≤-1 by omega) (show 0≤ent H b b by omega)
     omega
    ·exact h
    ·have:=Int.mul_le_mul_of_nonneg_right (show 1≤d b by omega) (show 0≤ent H b b by omega)
     omega
   rw [h0,Int.zero_mul] at h1
   exact⟨h0,by omega⟩
 exact fun b h1 h2=>(key b h1 h2).2
theorem Sq.first (S:Sq r H)(S':Sq r H')(a:Alikes r (InL H') (InL (colsL H r))){k0:Nat}(hk0:k0 < r)(hal:∀ k,k < k0→rowAl r H k):
  (∀ k,k < k0→ent H' k k=ent H k k∧rowAl r H' k)∧ent H' k0 k0≤ent H k0 k0∧(ent H' k0 k0=ent H k0 k0→rowAl r H' k0):=by
 have hcol:∀ k,k≤k0→∀ b,b < r→((colsL H r).getD k []).getD b 0=if b=k then ent H k k else 0:=fun k hk b hb=>by
  have e:((colsL H r).getD k []).getD b 0=ent H b k:=zaq S (by omega) hb
  rw [e]
  rcases Nat.lt_trichotomy b k with h | h | h
  ·rw [if_neg (by omega)];exact hal b (by omega) k h (by omega)
  ·rw [if_pos h,h]
  ·rw [if_neg (by omega)];exact S.low hb h
 have hu:=fun k (hk:k≤k0)=>S'.unit_row ((a _).2 (zde S (j:=k) (by omega))) (by omega) (hcol k hk)
 have hdv:∀ {x y t:Int},0 < x→0 < y→x=t * y→y≤x:=fun {x y t} hx hy h=>by
  rcases Int.lt_or_le 0 t with hc | hc
  ·have:=Int.mul_le_mul_of_nonneg_right (show 1≤t by omega) (show 0≤y by omega)
   omega
  ·have:=Int.mul_le_mul_of_nonneg_right hc (show 0≤y by omega)
   omega
 refine⟨fun k hk=>?_,?_,fun h=>(hu k0 zL).2 h.symm⟩
 ·obtain⟨⟨t,ht⟩,h2⟩:=hu k (by omega)
  have hp:=S.pos (k:=k) (by omega)
  have hp':=S'.pos (k:=k) (by omega)
  have g1:=hdv hp hp' ht
  have hm:H'.getD k []∈H':=zm (by rw [S'.len];omega)
  obtain⟨c,hc⟩:=zw ((a _).1 (.base hm (S'.form.len _ hm)))
  have hck:=hc k (by omega)
  rw [zW] at hck
  have e1:sumN r (fun j=>c j *((colsL H r).getD j []).getD k 0)=c k * ent H k k:=by
   refine(zK r k (by omega) _ fun j hj hjk=>?_).trans ?_
   ·have e:((colsL H r).getD j []).getD k 0=ent H k j:=zaq S hj (by omega)
    rw [e]
    rcases Nat.lt_or_gt_of_ne hjk with h | h
    ·rw [S.low (by omega) h,Int.mul_zero]
    ·rw [hal k hk j h hj,Int.mul_zero]
   ·have e:((colsL H r).getD k []).getD k 0=ent H k k:=zaq S (by omega) (by omega)
    rw [e]
  have g2:=hdv hp' hp (show ent H' k k=c k * ent H k k from hck.trans e1)
  have e3:ent H' k k=ent H k k:=by omega
  exact⟨e3,h2 e3.symm⟩
 ·obtain⟨⟨t,ht⟩,-⟩:=hu k0 zL
  exact hdv (S.pos hk0) (S'.pos hk0) ht
end
def horn (W:Nat)(f:Nat→Nat):Nat→Nat
 | 0=>0
 | n+1=>horn W f n * W+f n
theorem ziM {W:Nat}{f g:Nat→Nat}(n:Nat)(h:∀ i,i < n→f i=g i):horn W f n=horn W g n:=by
 induction n with
 | zero=>rfl
 | succ n ih=>rw [horn,horn,ih fun i hi=>h i (by omega),h n (by omega)]
theorem ziN {W:Nat}{f g:Nat→Nat}{k:Nat}(hk:f k < g k)(he:∀ i,i < k→f i=g i)(n:Nat)(hn:k < n)(hf:∀ i,i < n→f i < W):horn W f n < horn W g n:=by
 induction n with
 | zero=>omega
 | succ n ih=>
  rw [horn,horn]
  by_cases e:k=n
  ·subst e
   rw [ziM k he]
   omega
  ·have h1:=ih (by omega) fun i hi=>hf i (by omega)
   have h2:=hf n (by omega)
   have h3:(horn W f n+1) * W≤horn W g n * W:=Nat.mul_le_mul_right _ h1
   rw [Nat.succ_mul] at h3
   omega
theorem ziO {W:Nat}{f:Nat→Nat}(n:Nat)(hf:∀ i,i < n→f i < W):horn W f n < W ^ n:=by
 induction n with
 | zero=>exact Nat.zero_lt_one
 | succ n ih=>
  have h1:=ih fun i hi=>hf i (by omega)
  have h2:=hf n (by omega)
  have h3:(horn W f n+1) * W≤W ^ n * W:=Nat.mul_le_mul_right _ h1
  rw [Nat.succ_mul] at h3
  rw [horn,Nat.pow_succ]
  omega
open Classical in
noncomputable def codeK (r:Nat) (H:List (List Int)) (k:Nat):Nat:=2 *(ent H k k).toNat+if rowAl r H k then 0 else 1
noncomputable def muS (W r:Nat) (H:List (List Int)):Nat:=horn W (codeK r H) r
theorem zeG {r W:Nat}{H:List (List Int)}(S:Sq r H)(hW:2 *(diag r H).toNat+1 < W):∀ i,i < r→codeK r H i < W:=fun i hi=>by
 have h1:=S.diag_le hi;have h2:=S.pos hi
 unfold codeK
 split <;> omega
theorem zjh {r W:Nat}{H H':List (List Int)}(S:Sq r H)(S':Sq r H')(hd:diag r H'=diag r H)(a:Alikes r (InL H') (InL (colsL H r)))(hW:2 *(diag r H).toNat+1 < W)(hno:¬ ∀ k,k < r→rowAl r H k):muS W r H' < muS W r H:=by
 obtain⟨k0,⟨hk0,hn0⟩,hle⟩:=exists_least (p:=fun k=>k < r∧¬ rowAl r H k) (Classical.byContradiction fun h=>hno fun k hk=>Classical.byContradiction fun h'=>h ⟨k,hk,h'⟩)
 have hal:∀ k,k < k0→rowAl r H k:=fun k hk=>Classical.byContradiction fun h=>by
  have:=hle k ⟨by omega,h⟩
  omega
 obtain⟨h1,h2,h3⟩:=S.first S' a hk0 hal
 refine ziN (k:=k0) ?_ (fun i hi=>?_) r hk0 (zeG S' (by rw [hd];exact hW))
 ·unfold codeK
  rw [if_neg hn0]
  have hp:=S.pos hk0;have hp':=S'.pos hk0
  by_cases e:ent H' k0 k0=ent H k0 k0
  ·rw [if_pos (h3 e),e];omega
  ·split <;> omega
 ·obtain⟨e1,e2⟩:=h1 i hi
  unfold codeK
  rw [e1,if_pos e2,if_pos (hal i hi)]
end Go.Proofs.YtnkcjkpkphjecaaGreatDoor
