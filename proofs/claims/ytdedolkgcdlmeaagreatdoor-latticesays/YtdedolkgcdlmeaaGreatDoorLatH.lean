import Derived.Test.YtdedolkgcdlmeaaGreatDoorTurnL
set_option maxRecDepth 100000
set_option maxHeartbeats 1600000
namespace Go.Proofs.YtdedolkgcdlmeaaGreatDoor
open Go.RowKit Limbs
theorem zjI {neg neg':Bool}{zs zs':List Int}(h1:LB zs)(h2:LB zs')(n1:Nrm zs)(n2:Nrm zs')(e1:zs.length=0→neg=false)(e2:zs'.length=0→neg'=false)
  (h:(if neg=true then -lv zs else lv zs)=(if neg'=true then -lv zs' else lv zs')):neg=neg'∧zs=zs':=by
 have p1:=zF h1;have p2:=zF h2;have q1:=zaI h1 n1;have q2:=zaI h2 n2;cases neg <;> cases neg' <;> simp at h
 ·exact⟨rfl,zfw h1 h2 n1 n2 h⟩
 ·exfalso;have:=e2 (q2.1 (by omega));simp at this
 ·exfalso;have:=e1 (q1.1 (by omega));simp at this
 ·exact⟨rfl,zfw h1 h2 n1 n2 (by omega)⟩
theorem zki (w:World)(va vb:Value)(x y:Int)(n m:Nat)(ha:NumL w va x n)(hb:NumL w vb y m):
  Calls Tryz.prog 15 #[va,vb] w fun e w'=>e=.returned (.bool (decide (x=y)))∧Below w.heap.size w w':=by
 obtain⟨an,sa,zs,rfl,hla,nra,ea,hx,-⟩:=ha;obtain⟨bn,sb,zs',rfl,hlb,nrb,eb,hy,-⟩:=hb;have HA:=hide hla;have HB:=hide hlb;obtain⟨ao,acap,rfl,hacap,halen,halb,-⟩:=hla;obtain⟨bo,bcap,rfl,hbcap,hblen,hblb,-⟩:=hlb;have HD:Hid (decide (x=y)=decide (an=bn∧zs=zs')):=by
  show _=_;by_cases h:x=y
  ·rw [decide_eq_true h,decide_eq_true (zjI halb hblb nra nrb ea eb (hx.symm.trans (h.trans hy)))]
  ·rw [decide_eq_false h,decide_eq_false (fun h'=>h (by rw [hx,hy,h'.1,h'.2]))]
 rw [HD.out];generalize hr:decide (an=bn∧zs=zs')=r;have HR:Hid (r=decide (an=bn∧zs=zs')):=hr.symm;clear hx hy ea eb nra nrb HD hr;have hT:=two w (.bool an) (.slice ao zs.length acap) (.bool bn) (.slice bo zs'.length bcap) 29 29;have HT:=hide hT;obtain⟨_,_,e,-,-,-,hac⟩:=HA.out.below hT.below zL;simp only [zV,true_and] at e;obtain⟨rfl,rfl⟩:=e;obtain⟨_,_,e,-,-,-,hbc⟩:=HB.out.below hT.below zL;simp only [zV,true_and] at e;obtain⟨rfl,rfl⟩:=e;have HAC:=hide hac;have HBC:=hide hbc;clear hac hbc HA HB;by_cases hn:an=bn
 ·subst hn;by_cases hl:zs.length=zs'.length
  ·have HL:=hide hl;have hl1:((zs.length:Int) ==(zs'.length:Int))=true:=by rw [beq_iff_eq];omega
   have hl2:((zs.length:Int) !=(zs'.length:Int))=false:=by rw [bne_eq_false_iff_eq];omega
   clear hl;go_enter Tryz.func15,Tryz.ntmps15;go_wp2;generalize (w.alloc (.cells #[.bool an,.slice ao zs.length acap] 29)).alloc (.cells #[.bool an,.slice bo zs'.length bcap] 29)=W at *;clear hT;obtain⟨k0,k1,-,-⟩:=HT.out.fst;obtain⟨l0,l1,-,-⟩:=HT.out.res;go_loopw [5] (fun i wr=>∃ k nq:Nat,k≤zs.length∧i=.int .i64 k∧wr=W.drewN nq∧Hid (zs.take k=zs'.take k)) (fun i _=>zs.length-(intOf i).toNat)
   case atStart=>exact⟨0,0,Nat.zero_le _,rfl,by simp [World.drewN_zero],by show _=_;simp⟩
   case round=>
    obtain⟨k,nq,hk,rfl,rfl,HG⟩:=hrel;by_cases hlt:k<zs.length
    ·obtain⟨ab,aoff,rfl,-,hac⟩:=HAC.out (by omega);have hlt':k<zs'.length:=by have:=HL.out;omega
     obtain⟨bb,boff,rfl,-,hbc⟩:=HBC.out (by omega);have hca:=hac k hlt;have hcb:=hbc k hlt';have HTS:=hide (fun e=>zgy hlt hlt' HG.out e);have HNE:Hid (zs.getD k 0≠zs'.getD k 0→r=false):=fun h=>HR.out.trans (decide_eq_false fun e=>h (by rw [e.2]));clear hac hbc HAC HBC;generalize zs.getD k 0=z at *;generalize zs'.getD k 0=y' at *;by_cases hzy:z=y'
     ·have HG':=hide (HTS.out hzy);subst hzy;clear HTS HNE HG;go_wp2
      go_quiet (fail)
      go_wp2;go_roundw
      case rel=>exact⟨k+1,_,by omega,by go_num,rfl,HG'⟩
      case measure=>simp [intOf];omega
     ·obtain rfl:r=false:=HNE.out hzy;have hz1:(z==y')=false:=by rw [beq_eq_false_iff_ne];exact hzy
      have hz2:(z != y')=true:=by rw [bne_iff_ne];exact hzy
      clear HTS HNE HG;go_wp2
      go_quiet (fail)
      go_wp2;go_ret;exact⟨rfl,by first | exact zZ HT.out.below _ | exact zZ (zZ HT.out.below _) _⟩
    ·obtain rfl:r=true:=by
      obtain rfl:k=zs.length:=by omega
      have:=HG.out;rw [List.take_length,List.take_of_length_le (by have:=HL.out;omega)] at this;exact HR.out.trans (decide_eq_true (by first | exact⟨rfl,this⟩ | exact⟨trivial,this⟩))
     clear HG;go_wp2;go_ret;exact⟨rfl,zZ HT.out.below _⟩
  ·have hl1:((zs.length:Int) ==(zs'.length:Int))=false:=by rw [beq_eq_false_iff_ne];omega
   have hl2:((zs.length:Int) !=(zs'.length:Int))=true:=by rw [bne_iff_ne];omega
   obtain rfl:r=false:=HR.out.trans (decide_eq_false fun e=>hl (by rw [e.2]));clear hl HAC HBC;go_enter Tryz.func15,Tryz.ntmps15;go_wp2;go_ret;exact⟨rfl,HT.out.below⟩
 ·have hn1:(an==bn)=false:=by rw [beq_eq_false_iff_ne];exact hn
  have hn2:(an != bn)=true:=by rw [bne_iff_ne];exact hn
  obtain rfl:r=false:=HR.out.trans (decide_eq_false fun e=>hn e.1);clear hn HAC HBC;go_enter Tryz.func15,Tryz.ntmps15;go_wp2;go_ret;exact⟨rfl,HT.out.below⟩
theorem zgg (w:World)(va vb:Value)(zs ys:List Int)(n m:Nat)(ha:VecN w va zs n)(hb:VecN w vb ys m)(hzl:zs.length≤100000)(r:Bool)(hr:r=decide (zs=ys)):
  Calls Tryz.prog 79 #[va,vb] w fun e w'=>e=.returned (.bool r)∧Below w.heap.size w w':=by
 have HA:=hide ha;have HB:=hide hb;have HR:=hide hr;clear hr;by_cases hl:zs.length=ys.length
 ·obtain⟨ao,acap,rfl,-,-⟩:=ha;obtain⟨bo,bcap,rfl,-,-⟩:=hb;have hl1:((zs.length:Int) ==(ys.length:Int))=true:=by rw [beq_iff_eq];omega
  have hl2:((zs.length:Int) !=(ys.length:Int))=false:=by rw [bne_eq_false_iff_eq];omega
  have HLN:=hide hl;clear hl;go_enter Tryz.func79,Tryz.ntmps79;go_wp2;go_loopw [5] (fun i wr=>∃ k:Nat,k≤zs.length∧i=.int .i64 k∧Hid (zs.take k=ys.take k)∧Below w.heap.size w wr) (fun i _=>zs.length-(intOf i).toNat)
  case atStart=>exact⟨0,Nat.zero_le _,rfl,by show _=_;simp,zB _ _⟩
  case round=>
   obtain⟨k,hk,rfl,HG,hbe⟩:=hrel;have HBE:=hide hbe;clear hbe;by_cases hkl:k<zs.length
   ·have hky:k<ys.length:=by have:=HLN.out;omega
    obtain⟨ab,aoff,_,e⟩:=HA.out.form (by omega);simp only [zV,true_and] at e;obtain⟨rfl,rfl⟩:=e;obtain⟨bb,boff,_,e⟩:=HB.out.form (by omega);simp only [zV,true_and] at e;obtain⟨rfl,rfl⟩:=e;obtain⟨la,an,ao,al,ac,a0,a1,na⟩:=(HA.out.below HBE.out zL).at k hkl;obtain⟨lb,bn,bo,bl,bc,b0,b1,nb⟩:=(HB.out.below HBE.out zL).at k hky;have NA:=hide na;have NB:=hide nb;have HTS:=hide (fun e=>zgy hkl hky HG.out e);have HNE:Hid (zs.getD k 0≠ys.getD k 0→r=false):=fun h=>by
     rw [HR.out];exact decide_eq_false fun e=>h (by rw [e])
    clear na nb;generalize zs.getD k 0=z at *;generalize ys.getD k 0=y at *;go_wp2_with fail
    go_region_held3 (fun w'=>w'.cell? ⟨ab,aoff+k*2,none⟩=some (.bool an)∧w'.cell? ⟨ab,aoff+k*2+1,none⟩=some (.slice ao al ac)∧w'.cell? ⟨bb,boff+k*2,none⟩=some (.bool bn)∧w'.cell? ⟨bb,boff+k*2+1,none⟩=some (.slice bo bl bc)) (go_keep)
     (first
      |(go_at_call 15;refine(zki _ _ _ z y n m (by exact NA.out) (by exact NB.out)).mono ?_;rintro e w1 ⟨rfl,hb1⟩;have HB1:=hide (show Below w.heap.size w w1 from HBE.out.drew.trans (hb1.mono HBE.out.size));have p0:=(hb1.cell (p:=⟨ab,aoff+k*2,none⟩) la).trans a0;have p1:=(hb1.cell (p:=⟨ab,aoff+k*2+1,none⟩) la).trans a1;have p2:=(hb1.cell (p:=⟨bb,boff+k*2,none⟩) lb).trans b0;have p3:=(hb1.cell (p:=⟨bb,boff+k*2+1,none⟩) lb).trans b1;clear hb1))
    by_cases hz:z=y
    ·have HG':=hide (HTS.out hz);have ez:decide (z=y)=true:=decide_eq_true hz;rw [ez];clear HTS HNE hz ez p0 p1 p2 p3 a0 a1 b0 b1;go_wp2;go_roundw
     case rel=>exact⟨k+1,by omega,by go_num,HG',HB1.out⟩
     case measure=>simp [intOf];omega
    ·have ez:decide (z=y)=false:=decide_eq_false hz;rw [ez];obtain rfl:r=false:=HNE.out hz;clear HTS HNE hz ez p0 p1 p2 p3 a0 a1 b0 b1;go_wp2;go_ret;exact⟨rfl,HB1.out⟩
   ·obtain rfl:k=zs.length:=by omega
    have HE:Hid (zs=ys):=by
     have:=HG.out;rw [List.take_length,List.take_of_length_le (by have:=HLN.out;omega)] at this;exact this
    obtain rfl:r=true:=by rw [HR.out];exact decide_eq_true HE.out
    clear HG HE;go_wp2;go_ret;exact⟨rfl,HBE.out⟩
 ·obtain⟨ao,acap,rfl,-,-⟩:=ha;obtain⟨bo,bcap,rfl,-,-⟩:=hb;have hl1:((zs.length:Int) ==(ys.length:Int))=false:=by rw [beq_eq_false_iff_ne];omega
  have hl2:((zs.length:Int) !=(ys.length:Int))=true:=by rw [bne_iff_ne];omega
  obtain rfl:r=false:=by rw [HR.out];exact decide_eq_false fun e=>hl (by rw [e])
  go_enter Tryz.func79,Tryz.ntmps79;go_wp2;go_ret;exact⟨rfl,zB _ _⟩
theorem zkN {zs ys:List (List Int)}{k:Nat}(h1:k<zs.length)(h2:k<ys.length)(h:zs.take k=ys.take k)(e:zs[k]=ys[k]):zs.take (k+1)=ys.take (k+1):=by
 rw [List.take_succ_eq_append_getElem h1,List.take_succ_eq_append_getElem h2,h,e]
theorem zkj (w:World)(va vb:Value)(zss yss:List (List Int))(n m:Nat)(ha:MatN w va zss n)(hb:MatN w vb yss m)(hzl:zss.length≤100000)(hz:∀ zs∈zss,zs.length≤100000)(r:Bool)(hr:r=decide (zss=yss)):
  Calls Tryz.prog 72 #[va,vb] w fun e w'=>e=.returned (.bool r)∧Below w.heap.size w w':=by
 have HA:=hide ha;have HB:=hide hb;have HR:=hide hr;have HZ:=hide hz;clear hr hz;by_cases hl:zss.length=yss.length
 ·obtain⟨ao,acap,rfl,-,-⟩:=ha;obtain⟨bo,bcap,rfl,-,-⟩:=hb;have hl1:((zss.length:Int) ==(yss.length:Int))=true:=by rw [beq_iff_eq];omega
  have hl2:((zss.length:Int) !=(yss.length:Int))=false:=by rw [bne_eq_false_iff_eq];omega
  have HLN:=hide hl;clear hl;go_enter Tryz.func72,Tryz.ntmps72;go_wp2;go_loopw [5] (fun i wr=>∃ k:Nat,k≤zss.length∧i=.int .i64 k∧Hid (zss.take k=yss.take k)∧Below w.heap.size w wr) (fun i _=>zss.length-(intOf i).toNat)
  case atStart=>exact⟨0,Nat.zero_le _,rfl,by show _=_;simp,zB _ _⟩
  case round=>
   obtain⟨k,hk,rfl,HG,hbe⟩:=hrel;have HBE:=hide hbe;clear hbe;by_cases hkl:k<zss.length
   ·have hky:k<yss.length:=by have:=HLN.out;omega
    obtain⟨ab,aoff,_,e,la,ua,a0,na⟩:=(HA.out.below HBE.out zL).at k hkl;simp only [zV,true_and] at e;obtain⟨rfl,rfl⟩:=e;obtain⟨bb,boff,_,e,lb,ub,b0,nb⟩:=(HB.out.below HBE.out zL).at k hky;simp only [zV,true_and] at e;obtain⟨rfl,rfl⟩:=e;have NA:=hide na;have NB:=hide nb;have HTS:=hide (fun e=>zkN hkl hky HG.out e);have hzk:=HZ.out _ (List.getElem_mem hkl);have HNE:Hid (zss[k]≠yss[k]→r=false):=fun h=>by
     rw [HR.out];exact decide_eq_false fun e=>h (by simp only [e])
    clear na nb;generalize zss[k]=z at *;generalize yss[k]=y at *;obtain⟨uo1,uc1,rfl,-,-⟩:=NA.out;obtain⟨uo2,uc2,rfl,-,-⟩:=NB.out;go_wp2_with fail
    go_region_held3 (fun w'=>w'.cell? ⟨ab,aoff+k,none⟩=some (.slice uo1 z.length uc1)∧w'.cell? ⟨bb,boff+k,none⟩=some (.slice uo2 y.length uc2)) (go_keep)
     (first
      |(go_at_call 79;refine(zgg _ _ _ z y n m (by exact NA.out) (by exact NB.out) hzk _ rfl).mono ?_;rintro e w1 ⟨rfl,hb1⟩;have HB1:=hide (show Below w.heap.size w w1 from HBE.out.drew.trans (hb1.mono HBE.out.size));have p0:=(hb1.cell (p:=⟨ab,aoff+k,none⟩) la).trans a0;have p1:=(hb1.cell (p:=⟨bb,boff+k,none⟩) lb).trans b0;clear hb1))
    by_cases hz:z=y
    ·have HG':=hide (HTS.out hz);have ez:decide (z=y)=true:=decide_eq_true hz;rw [ez];clear HTS HNE hz ez p0 p1 a0 b0;go_wp2;go_roundw
     case rel=>exact⟨k+1,by omega,by go_num,HG',HB1.out⟩
     case measure=>simp [intOf];omega
    ·have ez:decide (z=y)=false:=decide_eq_false hz;rw [ez];obtain rfl:r=false:=HNE.out hz;clear HTS HNE hz ez p0 p1 a0 b0;go_wp2;go_ret;exact⟨rfl,HB1.out⟩
   ·obtain rfl:k=zss.length:=by omega
    have HE:Hid (zss=yss):=by
     have:=HG.out;rw [List.take_length,List.take_of_length_le (by have:=HLN.out;omega)] at this;exact this
    obtain rfl:r=true:=by rw [HR.out];exact decide_eq_true HE.out
    clear HG HE;go_wp2;go_ret;exact⟨rfl,HBE.out⟩
 ·obtain⟨ao,acap,rfl,-,-⟩:=ha;obtain⟨bo,bcap,rfl,-,-⟩:=hb;have hl1:((zss.length:Int) ==(yss.length:Int))=false:=by rw [beq_eq_false_iff_ne];omega
  have hl2:((zss.length:Int) !=(yss.length:Int))=true:=by rw [bne_iff_ne];omega
  obtain rfl:r=false:=by rw [HR.out];exact decide_eq_false fun e=>hl (by rw [e])
  go_enter Tryz.func72,Tryz.ntmps72;go_wp2;go_ret;exact⟨rfl,zB _ _⟩
theorem zaa (w:World)(a0 a1 b0 b1:Value)(t t':TypeId):Box ((w.alloc (.cells #[a0,a1] t)).alloc (.cells #[b0,b1] t')) w.heap.size a0 a1∧Box ((w.alloc (.cells #[a0,a1] t)).alloc (.cells #[b0,b1] t')) (w.heap.size+1) b0 b1∧Below w.heap.size w ((w.alloc (.cells #[a0,a1] t)).alloc (.cells #[b0,b1] t'))∧w.heap.size+1<((w.alloc (.cells #[a0,a1] t)).alloc (.cells #[b0,b1] t')).heap.size:=
 ⟨(zf w a0 a1 t _ rfl).later ((zB (w.heap.size+1) _).alloc (by simp) _) (by omega),zf _ b0 b1 t' _ (by simp),((zB w.heap.size w).alloc zL _).alloc (by simp) _,by simp⟩
theorem zd5 (w:World)(va vb:Value)(n nv mv:Nat)(hs ks:List (List Int))(ha:LatN w va n hs nv)(hb:LatN w vb n ks mv)(hn:n≤1000):
  Calls Tryz.prog 23 #[va,vb] w fun e w'=>e=.returned (.bool (decide (hs=ks)))∧Below w.heap.size w w':=by
 obtain⟨⟨u,rfl,hu⟩,p,hF⟩:=ha;obtain⟨⟨v,rfl,hv⟩,q,hG⟩:=hb;have HU:=hide hu;have HV:=hide hv;have h1:=hF.short;have HLE:Hid (∀ zs∈hs,zs.length≤100000):=fun zs hz=>by have:=hF.len zs hz;omega
 obtain⟨uo,ucap,rfl,-,-⟩:=hu;obtain⟨vo,vcap,rfl,-,-⟩:=hv;clear hF hG;have HX:=hide (zaa w (.int .i64 (n:Int)) (.slice uo hs.length ucap) (.int .i64 (n:Int)) (.slice vo ks.length vcap) 55 55);obtain⟨⟨c0,c1,z0,z1⟩,⟨d0,d1,y0,y1⟩,-,-⟩:=HX.out;go_enter Tryz.func23,Tryz.ntmps23;go_wp2_with fail;clear c0 c1 z0 z1 d0 d1 y0 y1;generalize ((w.alloc (.cells #[.int .i64 (n:Int),.slice uo hs.length ucap] 55)).alloc (.cells #[.int .i64 (n:Int),.slice vo ks.length vcap] 55))=W0 at *;refine(zkj W0 _ _ hs ks nv mv (by exact HU.out.below HX.out.2.2.1 zL) (by exact HV.out.below HX.out.2.2.1 zL) (by omega) HLE.out _ rfl).mono ?_;rintro e w1 ⟨rfl,hb1⟩;have HB1:=hide (HX.out.2.2.1.trans (hb1.mono HX.out.2.2.1.size));obtain⟨c0,c1,z0,z1⟩:=HX.out.1.later hb1 (by have:=HX.out.2.2.2;omega);obtain⟨d0,d1,y0,y1⟩:=HX.out.2.1.later hb1 HX.out.2.2.2;generalize hr:decide (hs=ks)=r at *;clear hb1 HX HU HV;have HRR:=hide hr;clear hr;go_wp2;go_ret;exact⟨by rw [HRR.out];rfl,HB1.out⟩
end Go.Proofs.YtdedolkgcdlmeaaGreatDoor
