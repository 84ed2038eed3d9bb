import Derived.Test.YtnkcjkpkphjecaaGreatDoorFilC
import Derived.Deep.Cut
namespace Go.Proofs.YtnkcjkpkphjecaaGreatDoor
open Go.RowKit Limbs Digs
set_option linter.unusedSimpArgs false in
set_option maxRecDepth 100000 in
set_option maxHeartbeats 6400000 in
theorem zkL (w:World)(ht:Tab w)(nI:Int)(go:Option Addr)(gcap:Nat)(rs:List (List Int))(hr:RowsS w (.slice go rs.length gcap) rs)(vo:Option Addr)(vcap:Nat)(vs:List Int)(hv:RowS w (.slice vo vs.length vcap) vs)(k:Int):
  Calls Tryz.prog 4 #[.agg #[.int .i64 nI,.slice go rs.length gcap],.slice vo vs.length vcap,.int .i64 k] w fun e w'=>e=.returned (.bool true)∧Below w.heap.size w w':=by
 have HT:=hide ht;have HR:=hide hr;have HV:=hide hv
 clear ht hr hv
 have XG:=hide (BoxL.new w (.int .i64 nI) (.slice go rs.length gcap) 24)
 have HBW:=hide (zy w (.cells #[.int .i64 nI,.slice go rs.length gcap] 24))
 go_enter Tryz.func4,Tryz.ntmps4
 go_wp2_with fail
 generalize w.alloc (.cells #[.int .i64 nI,.slice go rs.length gcap] 24)=W0 at *
 refine(zf4 W0 (HT.out.below HBW.out)).mono ?_
 rintro e w1 ⟨rfl,hb1⟩
 have XG':=hide (XG.out.later hb1)
 clear XG
 have XG:=XG'
 clear XG'
 have HBW':=hide (HBW.out.trans (hb1.mono HBW.out.size))
 clear HBW
 have HBW:=HBW'
 clear HBW'
 clear hb1
 obtain⟨a0,a1,a2,a3⟩:=XG.out.1
 go_wp2_with fail
 clear a0 a1 a2 a3
 refine(zcy w1 nI go gcap rs (HR.out.below HBW.out)).mono ?_
 rintro e w2 ⟨hb2,i1,bo,l1,bc,m1,ok,rfl,hg1⟩
 have HG1:=hide hg1
 clear hg1
 have XG':=hide (XG.out.later hb2)
 clear XG
 have XG:=XG'
 clear XG'
 have HBW':=hide (HBW.out.trans (hb2.mono HBW.out.size))
 clear HBW
 have HBW:=HBW'
 clear HBW'
 clear hb2
 have hN1:=zy w2 (.cells #[.int .i64 i1,.slice bo l1 bc] 29)
 have X8:=hide (BoxL.new w2 (.int .i64 i1) (.slice bo l1 bc) 29)
 have XG':=hide (XG.out.later hN1)
 have HG1':=hide (HG1.out.later hN1)
 clear XG HG1
 have XG:=XG'
 have HG1:=HG1'
 clear XG' HG1'
 have HBW':=hide (HBW.out.trans (hN1.mono HBW.out.size))
 clear HBW
 have HBW:=HBW'
 clear HBW'
 clear hN1
 obtain⟨a0,a1,a2,a3⟩:=XG.out.1
 obtain⟨b0,b1,b2,b3⟩:=X8.out.1
 cases ok with
 | false=>
  go_wp2
  go_ret
  exact⟨rfl,HBW.out⟩
 | true=>
  rcases HG1.out with⟨h,-⟩ |⟨-,hga,e1,hs,hx,-⟩
  ·cases h
  obtain⟨h14,-⟩:=ze4 hga
  obtain⟨n,hn⟩:=Int.eq_ofNat_of_zero_le (show 0≤nI by omega)
  subst hn e1
  have h1:1≤n:=by omega
  have h4:n≤4:=by omega
  rw [Int.toNat_natCast] at hx
  have hll:l1=hs.length:=by
   obtain⟨⟨u,e,⟨_,_,rfl,-,-⟩⟩,-⟩:=hx
   simp only [Value.agg.injEq,Array.mk.injEq,List.cons.injEq,Value.slice.injEq,and_true,true_and] at e
   exact e.2.1
  subst hll
  have LB:=hide (LatG.mk hx)
  obtain⟨p,hF⟩:=hx.2
  have HF:=hide hF
  have hsh:=hF.short
  clear hx hga hF HG1 h14
  obtain⟨hR1,hR2,hR3,hR4,hR5⟩:=roomF6 n (by omega)
  go_wp2_with fail
  clear a0 a1 a2 a3 b0 b1 b2 b3
  generalize w2.alloc (.cells #[.int .i64 (n:Int),.slice bo hs.length bc] 29)=W2 at *
  generalize w2.heap.size=B8 at *
  refine(zeX W2 _ n 6 hs (by exact LB.out.lat) h1 h4 (by first | exact hNV | decide) hR1 hR2).mono ?_
  rintro e w3 ⟨v3,ms3,fs3,rfl,hl3,hK3,hL3,hn3,hb3⟩
  have LF3:=hide (LatG.mk hl3)
  have HK3:=hide hK3;have HL3:=hide hL3
  obtain⟨⟨u3,rfl,⟨o3,k3,rfl,-,-⟩⟩,-⟩:=hl3
  have HN3:=hide hn3
  clear hK3 hL3 hn3
  have XG':=hide (XG.out.later hb3)
  have X8':=hide (X8.out.later hb3)
  have LB':=hide (LB.out.later hb3)
  clear XG X8 LB
  have XG:=XG'
  have X8:=X8'
  have LB:=LB'
  clear XG' X8' LB'
  have HBW':=hide (HBW.out.trans (hb3.mono HBW.out.size))
  clear HBW
  have HBW:=HBW'
  clear HBW'
  clear hb3
  have hNV:=Nat.le_add_left 2 (n *(n * 6+2))
  generalize n *(n * 6+2)+2=NV at *
  have hN1:=zy w3 (.cells #[.int .i64 (n:Int),.slice o3 fs3.length k3] 29)
  have X10:=hide (BoxL.new w3 (.int .i64 (n:Int)) (.slice o3 fs3.length k3) 29)
  have XG':=hide (XG.out.later hN1)
  have X8':=hide (X8.out.later hN1)
  have LB':=hide (LB.out.later hN1)
  have LF3':=hide (LF3.out.later hN1)
  clear XG X8 LB LF3
  have XG:=XG'
  have X8:=X8'
  have LB:=LB'
  have LF3:=LF3'
  clear XG' X8' LB' LF3'
  have HBW':=hide (HBW.out.trans (hN1.mono HBW.out.size))
  clear HBW
  have HBW:=HBW'
  clear HBW'
  clear hN1
  obtain⟨b0,b1,b2,b3⟩:=X10.out.1
  go_wp2_with fail
  clear b0 b1 b2 b3
  generalize w3.alloc (.cells #[.int .i64 (n:Int),.slice o3 fs3.length k3] 29)=W3 at *
  generalize w3.heap.size=B10 at *
  refine(zeX W3 _ n NV fs3 (by exact LF3.out.lat) h1 h4 (by first | exact hNV | decide) hR3 hR4).mono ?_
  rintro e w4 ⟨v4,ms4,fs4,rfl,hl4,hK4,hL4,hn4,hb4⟩
  have LF4:=hide (LatG.mk hl4)
  have HK4:=hide hK4;have HL4:=hide hL4
  obtain⟨⟨u4,rfl,⟨o4,k4,rfl,-,-⟩⟩,-⟩:=hl4
  have HN4:=hide hn4
  clear hK4 hL4 hn4
  have XG':=hide (XG.out.later hb4)
  have X8':=hide (X8.out.later hb4)
  have LB':=hide (LB.out.later hb4)
  have X10':=hide (X10.out.later hb4)
  have LF3':=hide (LF3.out.later hb4)
  clear XG X8 LB X10 LF3
  have XG:=XG'
  have X8:=X8'
  have LB:=LB'
  have X10:=X10'
  have LF3:=LF3'
  clear XG' X8' LB' X10' LF3'
  have HBW':=hide (HBW.out.trans (hb4.mono HBW.out.size))
  clear HBW
  have HBW:=HBW'
  clear HBW'
  clear hb4
  have hN1:=zy w4 (.cells #[.int .i64 (n:Int),.slice o4 fs4.length k4] 29)
  have X12:=hide (BoxL.new w4 (.int .i64 (n:Int)) (.slice o4 fs4.length k4) 29)
  have XG':=hide (XG.out.later hN1)
  have X8':=hide (X8.out.later hN1)
  have LB':=hide (LB.out.later hN1)
  have X10':=hide (X10.out.later hN1)
  have LF3':=hide (LF3.out.later hN1)
  have LF4':=hide (LF4.out.later hN1)
  clear XG X8 LB X10 LF3 LF4
  have XG:=XG'
  have X8:=X8'
  have LB:=LB'
  have X10:=X10'
  have LF3:=LF3'
  have LF4:=LF4'
  clear XG' X8' LB' X10' LF3' LF4'
  have HBW':=hide (HBW.out.trans (hN1.mono HBW.out.size))
  clear HBW
  have HBW:=HBW'
  clear HBW'
  clear hN1
  obtain⟨b0,b1,b2,b3⟩:=X8.out.1
  obtain⟨c0,c1,c2,c3⟩:=X10.out.1
  go_wp2_with fail
  clear b0 b1 b2 b3 c0 c1 c2 c3
  generalize w4.alloc (.cells #[.int .i64 (n:Int),.slice o4 fs4.length k4] 29)=W4 at *
  generalize w4.heap.size=B12 at *
  obtain⟨q3,hF3⟩:=LF3.out.lat.2
  refine(zY W4 _ _ n 6 NV hs fs3 q3 (by exact LB.out.lat) (by exact LF3.out.lat) hF3 h1 h4 (by omega) (zeW HF.out.len HK3.out HL3.out) roomS7).mono ?_
  clear hF3
  rintro e w5 ⟨hb5,hc5⟩
  rcases hc5 with⟨h,-⟩ |⟨-,v5,M5,rfl,hv5,-⟩
  ·exact absurd h (by have:=HN3.out;omega)
  obtain⟨⟨gn,go5,gl,gc⟩,rfl⟩:=hv5.nm
  clear hv5
  have XG':=hide (XG.out.later hb5)
  have X8':=hide (X8.out.later hb5)
  have LB':=hide (LB.out.later hb5)
  have X10':=hide (X10.out.later hb5)
  have LF3':=hide (LF3.out.later hb5)
  have X12':=hide (X12.out.later hb5)
  have LF4':=hide (LF4.out.later hb5)
  clear XG X8 LB X10 LF3 X12 LF4
  have XG:=XG'
  have X8:=X8'
  have LB:=LB'
  have X10:=X10'
  have LF3:=LF3'
  have X12:=X12'
  have LF4:=LF4'
  clear XG' X8' LB' X10' LF3' X12' LF4'
  have HBW':=hide (HBW.out.trans (hb5.mono HBW.out.size))
  clear HBW
  have HBW:=HBW'
  clear HBW'
  clear hb5
  have hN1:=zy w5 (.cells #[.bool gn,.slice go5 gl gc] 42)
  have XG':=hide (XG.out.later hN1)
  have X8':=hide (X8.out.later hN1)
  have LB':=hide (LB.out.later hN1)
  have X10':=hide (X10.out.later hN1)
  have LF3':=hide (LF3.out.later hN1)
  have X12':=hide (X12.out.later hN1)
  have LF4':=hide (LF4.out.later hN1)
  clear XG X8 LB X10 LF3 X12 LF4
  have XG:=XG'
  have X8:=X8'
  have LB:=LB'
  have X10:=X10'
  have LF3:=LF3'
  have X12:=X12'
  have LF4:=LF4'
  clear XG' X8' LB' X10' LF3' X12' LF4'
  have HBW':=hide (HBW.out.trans (hN1.mono HBW.out.size))
  clear HBW
  have HBW:=HBW'
  clear HBW'
  clear hN1
  obtain⟨b0,b1,b2,b3⟩:=X8.out.1
  obtain⟨c0,c1,c2,c3⟩:=X10.out.1
  obtain⟨d0,d1,d2,d3⟩:=X12.out.1
  go_wp2_with fail
  generalize w5.alloc (.cells #[.bool gn,.slice go5 gl gc] 42)=W5 at *
  clear b0 b1 b2 b3 c0 c1 c2 c3 d0 d1 d2 d3
  refine(zgV W5 _ _ n NV (n *(n * NV+2)+2) fs3 fs4 (by exact LF3.out.lat) (by exact LF4.out.lat) (by omega)).mono ?_
  rintro e w6 ⟨rfl,hb6⟩
  rw [decide_eq_true (zij HF.out.len HK3.out HL3.out HK4.out HL4.out).symm]
  have XG':=hide (XG.out.later hb6)
  have X8':=hide (X8.out.later hb6)
  have LB':=hide (LB.out.later hb6)
  have X10':=hide (X10.out.later hb6)
  have LF3':=hide (LF3.out.later hb6)
  clear XG X8 LB X10 LF3
  have XG:=XG'
  have X8:=X8'
  have LB:=LB'
  have X10:=X10'
  have LF3:=LF3'
  clear XG' X8' LB' X10' LF3'
  have HBW':=hide (HBW.out.trans (hb6.mono HBW.out.size))
  clear HBW
  have HBW:=HBW'
  clear HBW'
  clear hb6 X12 LF4 HK4 HL4
  have g0:((fs3.length:Int) !=(hs.length:Int))=false:=by rw [bne_eq_false_iff_eq];have:=HN3.out;omega
  obtain⟨a0,a1,a2,a3⟩:=XG.out.1
  obtain⟨b0,b1,b2,b3⟩:=X8.out.1
  obtain⟨c0,c1,c2,c3⟩:=X10.out.1
  go_upto_region 12 with fail
  by_cases hlv:¬ vs.length=n
  ·have f1:((vs.length:Int) ==(n:Int))=false:=beq_false_of_ne (by omega)
   have f2:((vs.length:Int) !=(n:Int))=true:=by rw [bne,f1];rfl
   go_wp2
   go_ret
   exact⟨rfl,HBW.out⟩
  ·have hlv:=Decidable.not_not.1 hlv
   have f1:((vs.length:Int) ==(n:Int))=true:=by rw [beq_iff_eq];omega
   have f2:((vs.length:Int) !=(n:Int))=false:=by rw [bne_eq_false_iff_eq];omega
   have HLV:=hide hlv
   clear hlv
   by_cases z0:k=0
   ·have j1:(k == 0)=true:=by rw [beq_iff_eq];exact z0
    go_wp2
    go_ret
    exact⟨rfl,HBW.out⟩
   ·by_cases z1:k < -1000000
    ·have j1:(k == 0)=false:=beq_false_of_ne z0
     have j2:decide (k < -1000000)=true:=decide_eq_true z1
     go_wp2
     go_ret
     exact⟨rfl,HBW.out⟩
    ·by_cases z2:1000000 < k
     ·have j1:(k == 0)=false:=beq_false_of_ne z0
      have j2:decide (k < -1000000)=false:=decide_eq_false z1
      have j3:decide (1000000 < k)=true:=decide_eq_true z2
      go_wp2
      go_ret
      exact⟨rfl,HBW.out⟩
     ·have j1:(k == 0)=false:=beq_false_of_ne z0
      have j2:decide (k < -1000000)=false:=decide_eq_false z1
      have j3:decide (1000000 < k)=false:=decide_eq_false z2
      go_upto_if 91 with fail
      go_cut [6] from 50 (fun v wc=>v=.bool false∧wc=w6)
      case first=>
       go_wp2
       go_meet
       case rel=>exact⟨rfl,rfl⟩
      case rest=>
       obtain⟨rfl,rfl⟩:=hcut
       apply_assumption
       exact zkK w _ vo vcap vs k B8 B10 n NV bo o3 bc k3 hs fs3 HBW.out HV.out HLV.out h1 h4 (by omega) (by omega) X8.out X10.out LB.out.lat LF3.out.lat (by omega) (fun h=>zii HK3.out HL3.out HLV.out z0 h) _ _ _ _ _ _ _ _ _ _ _ _ _ _ _ _ _ _ _ _ _ _ _ _ _ _ _ _ _ _ _ _ _ _ _ _ _ _ _ _ _ _ _ _ _ _ _ _ _ _ _ _ _ _ _ _ _ _ _ _ _ _ _ _ _ _ _ _ _ _ _ _ _ _ _ _ _ _ _ _ _ _ _ _ _ _ _ _ _ _ _ _ _ _ _ _ _ _ _ _ _ _ _ _ _ _ _ _ _ _ _ _ _ _ _ _ _ _ _ _ _ _ _ _ _ _ _ _ _ _ _ _ _ _ _ _ _ _
end Go.Proofs.YtnkcjkpkphjecaaGreatDoor
