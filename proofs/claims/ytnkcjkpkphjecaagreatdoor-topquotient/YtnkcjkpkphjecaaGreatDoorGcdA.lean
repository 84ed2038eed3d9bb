import Derived.Test.YtnkcjkpkphjecaaGreatDoorDiv
import Derived.Test.YtnkcjkpkphjecaaGreatDoorDivOne
import Derived.Deep.RegionHeld3
namespace Go.Proofs.YtnkcjkpkphjecaaGreatDoor
open Go.RowKit Limbs
set_option maxRecDepth 100000 in
set_option maxHeartbeats 3200000 in
theorem zaI (w:World)(va vb:Value)(x y:Int)(n m:Nat)(ha:NumL w va x n)(hb:NumL w vb y m)(hy:y≠0)(hn:n≤800000):
  Calls Tryz.prog 21 #[va,vb] w fun e w'=>QuoPost w x y n m e w':=by
 have HB:=hide hb
 obtain⟨an,sa,a,rfl,hla,nra,-,hx,hna⟩:=ha
 obtain⟨bn,sb,b,rfl,hlb,nrb,-,hyy,hnb⟩:=hb
 have HLA:=hide hla
 have HLB:=hide hlb
 obtain⟨ao,acap,rfl,-,-,halb,-⟩:=hla
 obtain⟨bo,bcap,rfl,-,-,hblb,-⟩:=hlb
 have hb0:b.length≠0:=fun h=>hy (by rw [hyy,List.eq_nil_of_length_eq_zero h];simp [lv])
 change x=sg an (lv a) at hx
 change y=sg bn (lv b) at hyy
 have HX:=hide hx;have HY:=hide hyy
 clear hx hyy
 go_enter Tryz.func21,Tryz.ntmps21
 go_wp2_with fail
 have hT:=four w (.bool an) (.slice ao a.length acap) (.bool bn) (.slice bo b.length bcap) (.bool false) (.slice none 0 0) (.bool false) (.slice none 0 0) 42 42 42 42
 generalize (((w.alloc (.cells #[.bool an,.slice ao a.length acap] 42)).alloc (.cells #[.bool bn,.slice bo b.length bcap] 42)).alloc (.cells #[.bool false,.slice none 0 0] 42)).alloc (.cells #[.bool false,.slice none 0 0] 42)=W at *
 refine(zae W _ y m (HB.out.below hT.below zL)).mono ?_
 rintro e w1 ⟨rfl,hb1⟩
 rw [decide_eq_false hy]
 have hT1:=hT.later hb1
 obtain⟨p0,p1,-,-⟩:=hT1.fst
 obtain⟨q0,q1,-,-⟩:=hT1.snd
 go_wp2_with fail
 refine(zhb w1 _ _ a b (HLA.out.below hT1.below zL) (HLB.out.below hT1.below zL) nra nrb hb0 (by omega)).mono ?_
 rintro e w2 ⟨v1,v2,qs,rs,rfl,hl1,hl2,hnq,hnr,hval,hlt,hql,hrl,hb2⟩
 have HV:=hide hval
 have HLT:=hide hlt
 have HL1:=hide hl1
 have HL2:=hide hl2
 have hT2:=hT1.later hb2
 clear p0 p1 q0 q1 hval hlt hT hT1 hb1
 obtain⟨ro,rcap,rfl,-,-,hrlb,-⟩:=hl2
 have hr0:=zG hrlb
 have hrz:=zbe hrlb hnr
 clear hl1
 obtain⟨p0,p1,-,-⟩:=hT2.fst
 obtain⟨q0,q1,-,-⟩:=hT2.snd
 by_cases hpl:an=bn∨lv rs=0
 ·have hfact:=zi5 an bn HV.out hr0 HLT.out hpl
  rw [← HX.out,← HY.out] at hfact
  rcases(show(an == bn)=true∨((an == bn)=false∧rs.length=0) by
   by_cases h:an=bn
   ·exact .inl (by simp [h])
   ·exact .inr ⟨by simpa using h,hrz.1 (hpl.resolve_left h)⟩) with hab |⟨hab,hr0'⟩
  ·clear hpl
   rw [hab] at hfact
   have HFA:=hide hfact
   clear hfact
   obtain⟨p0,p1,-,-⟩:=hT2.fst
   obtain⟨q0,q1,-,-⟩:=hT2.snd
   have tok1:True:=trivial
   have tok2:True:=trivial
   have hn2:¬(w.heap.size+1+1=w.heap.size):=by omega
   have hn3:¬(w.heap.size=w.heap.size+1+1):=by omega
   have hn4:¬(w.heap.size+3=w.heap.size):=by omega
   have hn5:¬(w.heap.size=w.heap.size+3):=by omega
   have hn6:¬(w.heap.size+2=w.heap.size):=by omega
   have hn7:¬(w.heap.size=w.heap.size+2):=by omega
   go_wp2_with fail
   go_region_held3 (fun w'=>w'.cell? ⟨w.heap.size,0,none⟩=some (.bool an)∧w'.cell? ⟨w.heap.size+1,0,none⟩=some (.bool bn)) (go_keep)
    (first
     |(go_at_call 31;have _t:=tok1;refine(zO _ _ _ qs (n+1) (by exact HL1.out) (by omega)).mono ?_;rintro e w8 ⟨r8,rfl,hr8,hb8⟩;have hT8:=hT2.drew.later hb8;obtain⟨p0',p1',-,-⟩:=hT8.fst;obtain⟨q0',q1',-,-⟩:=hT8.snd;have HR8:=hide hr8;obtain⟨rn8,rs8,rz8,rfl,hl8,-⟩:=hr8;obtain⟨ro8,rcap8,rfl,-⟩:=hl8;clear tok1)
     |(go_at_call 31;have _t:=tok2;refine(zO _ _ _ rs m ((show Lim _ _ rs from by exact HL2.out).below (drewed hb8) zL) (by omega)).mono ?_;rintro e w9 ⟨r9,rfl,hr9,hb9⟩;have hT9:=hT8.later hb9;obtain⟨p0'',p1'',-,-⟩:=hT9.fst;obtain⟨q0'',q1'',-,-⟩:=hT9.snd;obtain⟨c0,c1,f0,f1⟩:=hT9.res;obtain⟨d0,d1,g0,g1⟩:=hT9.sec;have HR9:=hide hr9;obtain⟨rn9,rs9,rz9,rfl,hl9,-⟩:=hr9;obtain⟨ro9,rcap9,rfl,-⟩:=hl9;have HR8':=hide (HR8.out.below hb9 zL);clear tok2))
   have HF:=hide (boxed2 (w:=w) HR8'.out HR9.out c0 c1 d0 d1 (by omega) (by simp) (by simp) (by simp) (by simp) hT9.below (by omega) (by omega))
   have HA:=hide (HFA.out)
   clear hT8 hT9 hb8 hb9 HR8 HR9 HR8' hT2
   go_wp2
   exact bodyPost_ret (v:=.tuple #[.agg #[.bool rn8,.slice ro8 rz8.length rcap8],.agg #[.bool rn9,.slice ro9 rz9.length rcap9],.nilIface]) (by simp [results,Tryz.results21,go_sem,c0,c1,d0,d1]) rfl ⟨_,_,_,_,rfl,HF.out.1,HF.out.2.1,HA.out.1,HA.out.2,HF.out.2.2⟩
  ·obtain rfl:rs=[]:=List.eq_nil_of_length_eq_zero hr0'
   rw [hab] at hfact
   have HFA:=hide hfact
   clear hfact hpl hr0' hrz
   obtain⟨p0,p1,-,-⟩:=hT2.fst
   obtain⟨q0,q1,-,-⟩:=hT2.snd
   have tok1:True:=trivial
   have tok2:True:=trivial
   have hn2:¬(w.heap.size+1+1=w.heap.size):=by omega
   have hn3:¬(w.heap.size=w.heap.size+1+1):=by omega
   have hn4:¬(w.heap.size+3=w.heap.size):=by omega
   have hn5:¬(w.heap.size=w.heap.size+3):=by omega
   have hn6:¬(w.heap.size+2=w.heap.size):=by omega
   have hn7:¬(w.heap.size=w.heap.size+2):=by omega
   go_wp2_with fail
   go_region_held3 (fun w'=>w'.cell? ⟨w.heap.size,0,none⟩=some (.bool an)∧w'.cell? ⟨w.heap.size+1,0,none⟩=some (.bool bn)) (go_keep)
    (first
     |(go_at_call 31;have _t:=tok1;refine(zO _ _ _ qs (n+1) (by exact HL1.out) (by omega)).mono ?_;rintro e w8 ⟨r8,rfl,hr8,hb8⟩;have hT8:=hT2.drew.later hb8;obtain⟨p0',p1',-,-⟩:=hT8.fst;obtain⟨q0',q1',-,-⟩:=hT8.snd;have HR8:=hide hr8;obtain⟨rn8,rs8,rz8,rfl,hl8,-⟩:=hr8;obtain⟨ro8,rcap8,rfl,-⟩:=hl8;clear tok1)
     |(go_at_call 31;have _t:=tok2;refine(zO _ _ _ [] m ((show Lim _ _ [] from by exact HL2.out).below (drewed hb8) zL) (by simp)).mono ?_;rintro e w9 ⟨r9,rfl,hr9,hb9⟩;have hT9:=hT8.later hb9;obtain⟨p0'',p1'',-,-⟩:=hT9.fst;obtain⟨q0'',q1'',-,-⟩:=hT9.snd;obtain⟨c0,c1,f0,f1⟩:=hT9.res;obtain⟨d0,d1,g0,g1⟩:=hT9.sec;have HR9:=hide hr9;obtain⟨rn9,rs9,rz9,rfl,hl9,-⟩:=hr9;obtain⟨ro9,rcap9,rfl,-⟩:=hl9;have HR8':=hide (HR8.out.below hb9 zL);clear tok2))
   have HF:=hide (boxed2 (w:=w) HR8'.out HR9.out c0 c1 d0 d1 (by omega) (by simp) (by simp) (by simp) (by simp) hT9.below (by omega) (by omega))
   have HA:=hide (HFA.out)
   clear hT8 hT9 hb8 hb9 HR8 HR9 HR8' hT2
   go_wp2
   exact bodyPost_ret (v:=.tuple #[.agg #[.bool rn8,.slice ro8 rz8.length rcap8],.agg #[.bool rn9,.slice ro9 rz9.length rcap9],.nilIface]) (by simp [results,Tryz.results21,go_sem,c0,c1,d0,d1]) rfl ⟨_,_,_,_,rfl,HF.out.1,HF.out.2.1,HA.out.1,HA.out.2,HF.out.2.2⟩
 ·have hab:(an == bn)=false:=by
   by_cases h:an=bn
   ·exact absurd (.inl h) hpl
   ·simpa using h
  have hrp:0 < lv rs:=by
   have:¬ lv rs=0:=fun h=>hpl (.inr h)
   omega
  have hrl0:0 < rs.length:=by
   have:rs.length≠0:=fun h=>by have:=hrz.2 h;omega
   omega
  have hfact:=zi4 an bn HV.out hrp HLT.out hab
  rw [← HX.out,← HY.out,hab] at hfact
  have HFA:=hide hfact
  have hRP:=hide hrp
  clear hfact hpl hrp hrz
  go_wp2_with fail
  have hone:=zfE w2 1 (by decide)
  have hba:=(Below.refl w2.heap.size w2).alloc zL (.cells #[.int .u32 1] 91)
  refine(zdY _ _ _ qs [1] (HL1.out.below hba zL) (hone.lim 1 (by simp) (by simp)) (by omega) (by simp)).mono ?_
  rintro e w3 ⟨v3,xs,rfl,hl3,hv3,hn3,hb3⟩
  have hT3:=(hT2.later hba).later hb3
  obtain⟨p0,p1,-,-⟩:=hT3.fst
  obtain⟨q0,q1,-,-⟩:=hT3.snd
  have HL3:=hide hl3
  have HV3:=hide hv3
  clear hl3 hv3 hone
  go_wp2_with fail
  refine(zdC w3 _ _ b rs (HLB.out.below hT3.below zL) (HL2.out.below (hba.trans (hb3.mono hba.size)) zL) hnr (by have:=HLT.out;omega)).mono ?_
  rintro e w4 ⟨v4,ys,rfl,hl4,hv4,hn4,hb4⟩
  have hT4:=hT3.later hb4
  have HL4:=hide hl4
  have HV4:=hide hv4
  have HL3':=hide (HL3.out.below hb4 zL)
  clear hl4 hv4 p0 p1 q0 q1 hT3 HL3 hb4 hb3 hba
  rw [show lv qs+1=lv xs by have:=HV3.out;simpa [lv] using this.symm,show lv b - lv rs=lv ys from HV4.out.symm] at HFA
  have ha1:1≤a.length:=by
   rcases Nat.lt_or_ge a.length 1 with h | h
   ·exfalso
    have e0:lv a=0:=by have h':a=[]:=List.eq_nil_of_length_eq_zero (by omega);rw [h'];rfl
    have e1:=HV.out
    have e2:=hRP.out
    have e3:=zG hblb
    have e4:LB qs:=by obtain⟨_,_,_,_,_,h,_⟩:=HL1.out;exact h
    have e5:=Int.mul_nonneg e3 (zG e4)
    omega
   ·exact h
  have hxl:xs.length≤n+1:=by simp at hn3;omega
  obtain⟨p0,p1,-,-⟩:=hT4.fst
  obtain⟨q0,q1,-,-⟩:=hT4.snd
  have tok1:True:=trivial
  have tok2:True:=trivial
  have hn2:¬(w.heap.size+1+1=w.heap.size):=by omega
  have hn3:¬(w.heap.size=w.heap.size+1+1):=by omega
  have hn4:¬(w.heap.size+3=w.heap.size):=by omega
  have hn5:¬(w.heap.size=w.heap.size+3):=by omega
  have hn6:¬(w.heap.size+2=w.heap.size):=by omega
  have hn7:¬(w.heap.size=w.heap.size+2):=by omega
  go_wp2_with fail
  go_region_held3 (fun w'=>w'.cell? ⟨w.heap.size,0,none⟩=some (.bool an)∧w'.cell? ⟨w.heap.size+1,0,none⟩=some (.bool bn)) (go_keep)
   (first
    |(go_at_call 31;have _t:=tok1;refine(zO _ _ _ xs (n+1) (by exact HL3'.out) hxl).mono ?_;rintro e w8 ⟨r8,rfl,hr8,hb8⟩;have hT8:=hT4.drew.later hb8;obtain⟨p0',p1',-,-⟩:=hT8.fst;obtain⟨q0',q1',-,-⟩:=hT8.snd;have HR8:=hide hr8;obtain⟨rn8,rs8,rz8,rfl,hl8,-⟩:=hr8;obtain⟨ro8,rcap8,rfl,-⟩:=hl8;clear tok1)
    |(go_at_call 31;have _t:=tok2;refine(zO _ _ _ ys m ((show Lim _ _ ys from by exact HL4.out).below (drewed hb8) zL) (by omega)).mono ?_;rintro e w9 ⟨r9,rfl,hr9,hb9⟩;have hT9:=hT8.later hb9;obtain⟨p0'',p1'',-,-⟩:=hT9.fst;obtain⟨q0'',q1'',-,-⟩:=hT9.snd;obtain⟨c0,c1,f0,f1⟩:=hT9.res;obtain⟨d0,d1,g0,g1⟩:=hT9.sec;have HR9:=hide hr9;obtain⟨rn9,rs9,rz9,rfl,hl9,-⟩:=hr9;obtain⟨ro9,rcap9,rfl,-⟩:=hl9;have HR8':=hide (HR8.out.below hb9 zL);clear tok2))
  have HF:=hide (boxed2 (w:=w) HR8'.out HR9.out c0 c1 d0 d1 (by omega) (by simp) (by simp) (by simp) (by simp) hT9.below (by omega) (by omega))
  have HA:=hide (HFA.out)
  clear hT8 hT9 hb8 hb9 HR8 HR9 HR8' hT2
  go_wp2
  exact bodyPost_ret (v:=.tuple #[.agg #[.bool rn8,.slice ro8 rz8.length rcap8],.agg #[.bool rn9,.slice ro9 rz9.length rcap9],.nilIface]) (by simp [results,Tryz.results21,go_sem,c0,c1,d0,d1]) rfl ⟨_,_,_,_,rfl,HF.out.1,HF.out.2.1,HA.out.1,HA.out.2,HF.out.2.2⟩
end Go.Proofs.YtnkcjkpkphjecaaGreatDoor
/- Are these numbers, and not too great? -/
namespace Go.Proofs.YtnkcjkpkphjecaaGreatDoor
open Go.RowKit Limbs
structure Raw where
 neg:Bool
 s:Value
 zs:List Int
def Raw.good (r:Raw):Bool:=decide (r.zs.length≤12) && isNum r.neg r.zs
def Raws (w:World)(B:Nat)(xs:List Raw):Prop:=
 B < w.heap.size∧∀ i r,xs[i]?=some r→w.cell? ⟨B,i * 2,none⟩=some (.bool r.neg)∧w.cell? ⟨B,i * 2+1,none⟩=some r.s∧Lim w r.s r.zs
theorem Raws.below {B C:Nat}{w w':World}{xs:List Raw}(h:Raws w B xs)(hb:Below C w w')(hC:w.heap.size≤C):Raws w' B xs:=by
 obtain⟨h1,h2⟩:=h
 refine⟨zT h1 hb.size,fun i r hi=>?_⟩
 obtain⟨h3,h4,h5⟩:=h2 i r hi
 exact⟨(hb.cell (p:=⟨B,i * 2,none⟩) (zT h1 hC)).trans h3,(hb.cell (p:=⟨B,i * 2+1,none⟩) (zT h1 hC)).trans h4,h5.below hb hC⟩
end Go.Proofs.YtnkcjkpkphjecaaGreatDoor
/- Small facts: the order -1, 0, 1; structs' cells in a row. -/
namespace Go.Proofs.YtnkcjkpkphjecaaGreatDoor
open Go.RowKit Limbs
theorem zkj (a b:Int):cmpI b a=-cmpI a b:=by
 unfold cmpI
 repeat' split
 all_goals omega
theorem zki (a b c:Int):cmpI (a+c) (b+c)=cmpI a b:=by
 unfold cmpI
 repeat' split
 all_goals omega
theorem zkl (a b c:Int)(h1:cmpI a b≤0)(h2:cmpI b c≤0):cmpI a c≤0:=by
 unfold cmpI at *
 repeat' split at h1
 all_goals repeat' split at h2
 all_goals repeat' split
 all_goals omega
theorem zkk (a b c:Int)(h:0 < c):cmpI (a * c) (b * c)=cmpI a b:=by
 by_cases h1:a < b
 ·rw [zQ h1,zQ (Int.mul_lt_mul_of_pos_right h1 h)]
 ·by_cases h2:b < a
  ·rw [zP h2,zP (Int.mul_lt_mul_of_pos_right h2 h)]
  ·obtain rfl:a=b:=by omega
   rw [zaV rfl,zaV rfl]
end Go.Proofs.YtnkcjkpkphjecaaGreatDoor
/- Four structs' variables, wherever they lie; rows of two structs. -/
namespace Go.Proofs.YtnkcjkpkphjecaaGreatDoor
open Go.RowKit Limbs
structure Hold (w W:World)(A B C D:Nat)(a0 a1 b0 b1 c0 c1 d0 d1:Value):Prop where
 a:Box W A a0 a1
 b:Box W B b0 b1
 c:Box W C c0 c1
 d:Box W D d0 d1
 below:Below w.heap.size w W
 la:w.heap.size≤A
 ab:A < B
 bc:B < C
 cd:C < D
 size:D < W.heap.size
theorem Hold.later {w W W':World}{A B C D:Nat}{a0 a1 b0 b1 c0 c1 d0 d1:Value}(h:Hold w W A B C D a0 a1 b0 b1 c0 c1 d0 d1)(hb:Below W.heap.size W W'):Hold w W' A B C D a0 a1 b0 b1 c0 c1 d0 d1 where
 a:=h.a.later hb (by have:=h.size;have:=h.ab;have:=h.bc;have:=h.cd;omega)
 b:=h.b.later hb (by have:=h.size;have:=h.bc;have:=h.cd;omega)
 c:=h.c.later hb (by have:=h.size;have:=h.cd;omega)
 d:=h.d.later hb h.size
 below:=h.below.trans (hb.mono h.below.size)
 la:=h.la
 ab:=h.ab
 bc:=h.bc
 cd:=h.cd
 size:=zT h.size hb.size
theorem Hold.drew {w W:World}{A B C D:Nat}{a0 a1 b0 b1 c0 c1 d0 d1:Value}(h:Hold w W A B C D a0 a1 b0 b1 c0 c1 d0 d1):Hold w W.drew A B C D a0 a1 b0 b1 c0 c1 d0 d1:=
 ⟨h.a,h.b,h.c,h.d,h.below.drew,h.la,h.ab,h.bc,h.cd,h.size⟩
theorem Box.other {W:World}{A B:Nat}{u0 u1:Value}(h:Box W A u0 u1)(hne:A≠B)(k:Nat)(u:Value):Box (W.setCell ⟨B,k,none⟩ u) A u0 u1:=by
 obtain⟨h1,h2,h3,h4⟩:=h
 have n1:∀ j,(⟨B,k,none⟩:Addr)≠⟨A,j,none⟩:=fun j e=>hne (congrArg Addr.block e).symm
 exact⟨(World.cell?_setCell_other (h:=n1 0) ..).trans h1,(World.cell?_setCell_other (h:=n1 1) ..).trans h2,by rw [World.frozen?_setCell];exact h3,by rw [World.frozen?_setCell];exact h4⟩
theorem Box.write {W:World}{B:Nat}{u0 u1:Value}(h:Box W B u0 u1)(v0 v1:Value):Box ((W.setCell ⟨B,0,none⟩ v0).setCell ⟨B,1,none⟩ v1) B v0 v1:=by
 obtain⟨h1,h2,h3,h4⟩:=h
 refine⟨?_,?_,by rw [World.frozen?_setCell,World.frozen?_setCell];exact h3,by rw [World.frozen?_setCell,World.frozen?_setCell];exact h4⟩
 ·exact(World.cell?_setCell_other (h:=fun e=>by simp at e) ..).trans (World.cell?_setCell_same (h:=h1) ..)
 ·exact World.cell?_setCell_same (h:=(World.cell?_setCell_other (h:=fun e=>by simp at e) ..).trans h2) ..
theorem Hold.write {w W:World}{A B C D:Nat}{a0 a1 b0 b1 c0 c1 d0 d1:Value}(h:Hold w W A B C D a0 a1 b0 b1 c0 c1 d0 d1)(u0 u1 v0 v1:Value):
  Hold w ((((W.setCell ⟨C,0,none⟩ u0).setCell ⟨C,1,none⟩ u1).setCell ⟨D,0,none⟩ v0).setCell ⟨D,1,none⟩ v1) A B C D a0 a1 b0 b1 u0 u1 v0 v1:=by
 obtain⟨ha,hb,hc,hd,hbe,hla,hab,hbc,hcd,hs⟩:=h
 refine⟨(((ha.other (by omega) _ _).other (by omega) _ _).other (by omega) _ _).other (by omega) _ _,(((hb.other (by omega) _ _).other (by omega) _ _).other (by omega) _ _).other (by omega) _ _,
  ((hc.write u0 u1).other (by omega) _ _).other (by omega) _ _,((hd.other (by omega) _ _).other (by omega) _ _).write v0 v1,(((hbe.setCell (by simp;omega) _).setCell (by simp;omega) _).setCell (by simp;omega) _).setCell (by simp;omega) _,hla,hab,hbc,hcd,by simpa using hs⟩
theorem Hold.num {w W:World}{A B C D:Nat}{a0 a1 c0 c1 d0 d1 b0 b1:Value}(h:Hold w W A B C D a0 a1 b0 b1 c0 c1 d0 d1)(hc0:∀ z,c0≠.int .u32 z)(hc1:∀ z,c1≠.int .u32 z)(hd0:∀ z,d0≠.int .u32 z)(hd1:∀ z,d1≠.int .u32 z)
  {qn rn:Bool} {qs rs:Value} {q r:Int} {n m:Nat} (hq:NumL W (.agg #[.bool qn,qs]) q n) (hr:NumL W (.agg #[.bool rn,rs]) r m):
  NumL ((((W.setCell ⟨C,0,none⟩ (.bool qn)).setCell ⟨C,1,none⟩ qs).setCell ⟨D,0,none⟩ (.bool rn)).setCell ⟨D,1,none⟩ rs) (.agg #[.bool qn,qs]) q n ∧
  NumL ((((W.setCell ⟨C,0,none⟩ (.bool qn)).setCell ⟨C,1,none⟩ qs).setCell ⟨D,0,none⟩ (.bool rn)).setCell ⟨D,1,none⟩ rs) (.agg #[.bool rn,rs]) r m:=by
 have hh:=boxed2 (w:=w) hq hr h.c.1 h.c.2.1 h.d.1 h.d.2.1 (by have:=h.cd;omega) hc0 hc1 hd0 hd1 h.below (by have:=h.la;have:=h.ab;have:=h.bc;omega) (by have:=h.la;have:=h.ab;have:=h.bc;have:=h.cd;omega)
 exact⟨hh.1,hh.2.1⟩
end Go.Proofs.YtnkcjkpkphjecaaGreatDoor
/- Euclid's steps with what they are made of: the arithmetic; a number's sign; what lies in a variable. -/
namespace Go.Proofs.YtnkcjkpkphjecaaGreatDoor
open Go.RowKit Limbs
def ab (z:Int):Int:=if z < 0 then -z else z
def sgn (z:Int):Int:=if z=0 then 0 else if z < 0 then -1 else 1
theorem zC (z:Int):0≤ab z:=by unfold ab;split <;> omega
theorem zdU (z:Int):ab z=sgn z * z:=by
 unfold ab sgn
 repeat' split
 all_goals omega
theorem zfR (z:Int):z=sgn z * ab z:=by
 unfold ab sgn
 repeat' split
 all_goals omega
theorem zbX (z:Int):ab (sgn z)≤1:=by
 unfold sgn
 repeat' split
 all_goals decide
structure Bez (K a b g h x u y v:Int):Prop where
 eg:g=x * a+y * b
 eh:h=u * a+v * b
 g0:0≤g
 h0:0≤h
 sx:x * u≤0
 sy:y * v≤0
 bx:ab x * h+ab u * g≤ab b
 by':ab y * h+ab v * g≤ab a
 spa:∃ p q,a=p * g+q * h
 spb:∃ p q,b=p * g+q * h
 ka:ab a≤K
 kb:ab b≤K
 kx:ab x≤K
 ku:ab u≤K
 ky:ab y≤K
 kv:ab v≤K
 kg:g≤K
 kh:h≤K
theorem Bez.start {K a b:Int}(hK:1≤K)(ha:ab a≤K)(hb:ab b≤K):Bez K a b (ab a) (ab b) (sgn a) 0 0 (sgn b) where
 eg:=by rw [zdU];omega
 eh:=by rw [zdU];omega
 g0:=zC a
 h0:=zC b
 sx:=by omega
 sy:=by omega
 bx:=by
  have:ab (sgn a) * ab b≤1 * ab b:=Int.mul_le_mul_of_nonneg_right (zbX a) (zC b)
  have e:ab 0 * ab a=0:=by simp [ab]
  omega
 by':=by
  have:ab (sgn b) * ab a≤1 * ab a:=Int.mul_le_mul_of_nonneg_right (zbX b) (zC a)
  have e:ab 0 * ab b=0:=by simp [ab]
  omega
 spa:=⟨sgn a,0,by have:=zfR a;omega⟩
 spb:=⟨0,sgn b,by have:=zfR b;omega⟩
 ka:=ha
 kb:=hb
 kx:=by have:=zbX a;omega
 ku:=by simp [ab];omega
 ky:=by simp [ab];omega
 kv:=by have:=zbX b;omega
 kg:=ha
 kh:=hb
theorem zgh {x u Q:Int}(hQ:0≤Q)(h:x * u≤0):ab (x - Q * u)=ab x+Q * ab u:=by
 rcases(by omega:u=0∨0 < u∨u < 0) with hu | hu | hu
 ·subst hu;simp [ab]
 ·have hx:x≤0:=by
   rcases Int.lt_or_le 0 x with hx | hx
   ·have:=Int.mul_pos hx hu;omega
   ·exact hx
  have hq:0≤Q * u:=Int.mul_nonneg hQ (by omega)
  have e1:ab u=u:=by unfold ab;rw [if_neg (by omega)]
  rw [e1]
  unfold ab
  repeat' split
  all_goals omega
 ·have hx:0≤x:=by
   rcases Int.lt_or_le x 0 with hx | hx
   ·have:=Int.mul_pos_of_neg_of_neg hx hu;omega
   ·exact hx
  have hq:0≤Q * -u:=Int.mul_nonneg hQ (by omega)
  have e1:ab u=-u:=by unfold ab;rw [if_pos hu]
  rw [e1]
  rw [Int.mul_neg] at hq ⊢
  unfold ab
  repeat' split
  all_goals omega
theorem zbk {x u Q:Int}(hQ:0≤Q)(h:x * u≤0):u *(x - Q * u)≤0:=by
 have:0≤Q *(u * u):=Int.mul_nonneg hQ (by
  rcases Int.le_total 0 u with hu | hu
  ·exact Int.mul_nonneg hu hu
  ·exact Int.mul_nonneg_of_nonpos_of_nonpos hu hu)
 have e:u *(x - Q * u)=x * u - Q *(u * u):=by rw [Int.mul_sub,Int.mul_comm u x,Int.mul_left_comm u Q u]
 omega
theorem zaT {x u g h Q R B:Int}(hQ:0≤Q)(hs:x * u≤0)(hg:g=Q * h+R)(hb:ab x * h+ab u * g≤B):ab u * R+ab (x - Q * u) * h≤B:=by
 rw [zgh hQ hs,Int.add_mul]
 have e:ab u * R=ab u * g - Q * ab u * h:=by
  have:R=g - Q * h:=by omega
  rw [this,Int.mul_sub];congr 1;ac_rfl
 rw [e]
 omega
theorem Bez.step {K a b g h x u y v Q R:Int}(H:Bez K a b g h x u y v)(hg:g=Q * h+R)(hR0:0≤R)(hR:R < h):Bez K a b h R u (x - Q * u) v (y - Q * v):=by
 have hpos:0 < h:=by have:=H.h0;omega
 have hQ:0≤Q:=by
  rcases Int.lt_or_le Q 0 with hq | hq
  ·have h1:Q * h≤-1 * h:=Int.mul_le_mul_of_nonneg_right (by omega) (by omega)
   have:=H.g0
   omega
  ·exact hq
 have b1:=zaT hQ H.sx hg H.bx
 have b2:=zaT hQ H.sy hg H.by'
 have le_mul:∀ t:Int,0≤t→t≤t * h:=fun t ht=>by
  have:t * 1≤t * h:=Int.mul_le_mul_of_nonneg_left (by omega) ht
  omega
 refine⟨H.eh,?_,H.h0,hR0,zbk hQ H.sx,zbk hQ H.sy,b1,b2,?_,?_,H.ka,H.kb,H.ku,?_,H.kv,?_,H.kh,by have:=H.kh;omega⟩
 ·have e1:=H.eg
  have e2:=H.eh
  have e3:R=g - Q * h:=by omega
  rw [e3,Int.sub_mul,Int.sub_mul]
  have e4:Q * h=Q * u * a+Q * v * b:=by rw [e2,Int.mul_add,Int.mul_assoc,Int.mul_assoc]
  omega
 ·obtain⟨p,q,e⟩:=H.spa
  refine⟨p * Q+q,p,?_⟩
  rw [e,hg,Int.mul_add,Int.add_mul,Int.mul_assoc]
  omega
 ·obtain⟨p,q,e⟩:=H.spb
  refine⟨p * Q+q,p,?_⟩
  rw [e,hg,Int.mul_add,Int.add_mul,Int.mul_assoc]
  omega
 ·have h1:=le_mul _ (zC (x - Q * u))
  have h2:0≤ab u * R:=Int.mul_nonneg (zC u) hR0
  have:=H.kb
  omega
 ·have h1:=le_mul _ (zC (y - Q * v))
  have h2:0≤ab v * R:=Int.mul_nonneg (zC v) hR0
  have:=H.ka
  omega
theorem NumL.tight {w:World}{v:Value}{z:Int}{n m:Nat}(h:NumL w v z n)(hz:ab z < bp m):NumL w v z m:=by
 obtain⟨neg,s,zs,e,hl,hn,h0,hzz,-⟩:=h
 refine⟨neg,s,zs,e,hl,hn,h0,hzz,?_⟩
 have hlb:LB zs:=by obtain⟨_,_,_,_,_,h,_⟩:=hl;exact h
 have hp:=zG hlb
 refine zeU hlb hn ?_
 rw [hzz] at hz
 unfold ab at hz
 split at hz <;> split at hz <;> omega
theorem NumL.ab_lt {w:World}{v:Value}{z:Int}{n:Nat}(h:NumL w v z n):ab z < bp n:=by
 obtain⟨neg,s,zs,e,hl,hn,h0,hzz,hle⟩:=h
 have hlb:LB zs:=by obtain⟨_,_,_,_,_,h,_⟩:=hl;exact h
 have hp:=zG hlb
 have h1:=zal hlb
 have h2:bp zs.length≤bp n:=zM hle
 rw [hzz]
 unfold ab
 repeat' split
 all_goals omega
theorem Lim.unique {w:World}{v:Value}{xs ys:List Int}(hx:Lim w v xs)(hy:Lim w v ys):xs=ys:=by
 obtain⟨ao,cap,rfl,-,-,-,hc⟩:=hx
 obtain⟨bo,cap',e,-,-,-,hd⟩:=hy
 simp only [Value.slice.injEq] at e
 obtain⟨rfl,hl,rfl⟩:=e
 refine List.ext_getElem hl fun i h1 h2=>?_
 obtain⟨b,off,e1,-,hc⟩:=hc (by omega)
 obtain⟨b',off',e2,-,hd⟩:=hd (by omega)
 rw [e1] at e2
 simp only [Option.some.injEq,Addr.mk.injEq,and_true] at e2
 obtain⟨rfl,rfl⟩:=e2
 have h3:=(hc i h1).symm.trans (hd i h2)
 simpa [List.getD_eq_getElem?_getD,h1,h2] using h3
theorem NumL.unique {w:World}{v:Value}{z z':Int}{n n':Nat}(h:NumL w v z n)(h':NumL w v z' n'):z=z':=by
 obtain⟨neg,s,zs,rfl,hl,-,-,hz,-⟩:=h
 obtain⟨neg',s',zs',e,hl',-,-,hz',-⟩:=h'
 simp only [Value.agg.injEq,Array.mk.injEq,List.cons.injEq,Value.bool.injEq,and_true] at e
 obtain⟨rfl,rfl⟩:=e
 rw [hz,hz',hl.unique hl']
noncomputable def numAt (W:World) (B:Nat):Int:=Classical.epsilon fun z=>∃ v0 v1 n,Box W B v0 v1∧NumL W (.agg #[v0,v1]) z n
theorem zfd {W:World}{B:Nat}{v0 v1:Value}{z:Int}{n:Nat}(hb:Box W B v0 v1)(hn:NumL W (.agg #[v0,v1]) z n):numAt W B=z:=by
 obtain⟨u0,u1,m,hb',hn'⟩:=Classical.epsilon_spec (p:=fun z=>∃ v0 v1 n,Box W B v0 v1∧NumL W (.agg #[v0,v1]) z n) ⟨z,v0,v1,n,hb,hn⟩
 have e0:u0=v0:=Option.some.inj (hb'.1.symm.trans hb.1)
 have e1:u1=v1:=Option.some.inj (hb'.2.1.symm.trans hb.2.1)
 rw [e0,e1] at hn'
 exact hn'.unique hn
set_option maxRecDepth 100000 in
set_option maxHeartbeats 800000 in
theorem zfT (w:World)(va:Value)(x:Int)(n:Nat)(ha:NumL w va x n):
  Calls Tryz.prog 124 #[va] w fun e w'=>e=.returned (.int .i64 (sgn x))∧Below w.heap.size w w':=by
 have HA:=hide ha
 have hsg:∀ neg s,va=.agg #[.bool neg,s]→(neg=true→x < 0)∧(neg=false→0≤x):=fun neg s e=>by
  obtain⟨neg',s',zs,e',hl,hn,h0,hz,-⟩:=ha
  rw [e] at e'
  simp only [Value.agg.injEq,Array.mk.injEq,List.cons.injEq,Value.bool.injEq,and_true] at e'
  obtain⟨rfl,rfl⟩:=e'
  have hlb:LB zs:=by obtain⟨_,_,_,_,_,h,_⟩:=hl;exact h
  have hp:=zG hlb
  have hz0:=zbe hlb hn
  constructor
  ·intro e;subst e
   have h1:zs.length≠0:=fun h=>by simpa using h0 h
   have h2:lv zs≠0:=fun h=>h1 (hz0.1 h)
   simp at hz;omega
  ·intro e;subst e;simp at hz;omega
 obtain⟨an,sa,a,rfl,hla,-⟩:=ha
 obtain⟨h1,h2⟩:=hsg an sa rfl
 clear hsg
 obtain⟨ao,acap,rfl,-⟩:=hla
 by_cases hx:x=0
 ·have hz:=hide (decide_eq_true hx)
  have e:sgn x=0:=by unfold sgn;rw [if_pos hx]
  rw [e]
  go_enter Tryz.func124,Tryz.ntmps124
  go_wp2_with fail
  have hB:Below w.heap.size w (w.alloc (.cells #[.bool an,.slice ao a.length acap] 42)):=(Below.refl _ _).alloc zL _
  refine(zae _ _ x n (HA.out.below hB zL)).mono ?_
  rintro e w1 ⟨rfl,hb1⟩
  rw [hz.out]
  have HF:=hide (hB.trans (hb1.mono hB.size))
  clear hb1 hB
  go_wp2
  go_ret
  exact⟨rfl,HF.out⟩
 ·have hz:=hide (decide_eq_false hx)
  cases an
  ·have e:sgn x=1:=by unfold sgn;rw [if_neg hx,if_neg (by have:=h2 rfl;omega)]
   rw [e]
   go_enter Tryz.func124,Tryz.ntmps124
   go_wp2_with fail
   have hB:Below w.heap.size w (w.alloc (.cells #[.bool false,.slice ao a.length acap] 42)):=(Below.refl _ _).alloc zL _
   have hbx:=zg w (.bool false) (.slice ao a.length acap) 42 _ rfl
   refine(zae _ _ x n (HA.out.below hB zL)).mono ?_
   rintro e w1 ⟨rfl,hb1⟩
   rw [hz.out]
   obtain⟨c0,c1,-,-⟩:=hbx.later hb1 (by simp)
   have HF:=hide (hB.trans (hb1.mono hB.size))
   clear hb1 hB hbx
   go_wp2
   go_ret
   exact⟨rfl,HF.out⟩
  ·have e:sgn x=-1:=by unfold sgn;rw [if_neg hx,if_pos (h1 rfl)]
   rw [e]
   go_enter Tryz.func124,Tryz.ntmps124
   go_wp2_with fail
   have hB:Below w.heap.size w (w.alloc (.cells #[.bool true,.slice ao a.length acap] 42)):=(Below.refl _ _).alloc zL _
   have hbx:=zg w (.bool true) (.slice ao a.length acap) 42 _ rfl
   refine(zae _ _ x n (HA.out.below hB zL)).mono ?_
   rintro e w1 ⟨rfl,hb1⟩
   rw [hz.out]
   obtain⟨c0,c1,-,-⟩:=hbx.later hb1 (by simp)
   have HF:=hide (hB.trans (hb1.mono hB.size))
   clear hb1 hB hbx
   go_wp2
   go_ret
   exact⟨rfl,HF.out⟩
end Go.Proofs.YtnkcjkpkphjecaaGreatDoor
/- Moves of a region that draws its order, for operations whose guard says no. -/
namespace Go.Proofs.YtnkcjkpkphjecaaGreatDoor
open Go
variable {P:Program}{ops:Array Oper}{Q:Exit→Act→World→Prop}{md:Region.Mode}{S:World→Prop}
theorem zi (i d:Nat){oi:Oper}{v:Value}{fuel:Nat}{listed:Array Bool}{a:Act}{w:World}(hi:ops[i]?=some oi)(hd:oi.dst=some d)
  (hs:Region.noSelect ops=true) (hf:Region.free md ops listed i=true) (hr:(Region.ready md ops listed).contains i=true)
  (hQ:∀ c a w,Q (.panic c) (a.put (some d) v) w→Q (.panic c) a w) (hw:Region.wanted oi (yielded ops a.tmps)=true) (hy:∀ w,S w→(execOp a.eval oi).run P w=.ok (.value v) w) (hS:S w)
  (h:wpAnyH P md ops Q S fuel (listed.setIfInBounds i true) (a.put (some d) v) w):wpAnyH P md ops Q S (fuel+1) listed a w:=
 wpAnyH_take hi hs hf hr (by rw [hd];exact hQ) (.inl ⟨hw,hy⟩) hS (by rw [hd];exact h)
theorem zR (i d:Nat){oi:Oper}{fuel:Nat}{listed:Array Bool}{a:Act}{w:World}(hi:ops[i]?=some oi)(hd:oi.dst=some d)
  (hs:Region.noSelect ops=true) (hf:Region.free md ops listed i=true) (hr:(Region.ready md ops listed).contains i=true)
  (hQ:∀ c a w,Q (.panic c) (a.put (some d) undef) w→Q (.panic c) a w) (hw:Region.wanted oi (yielded ops a.tmps)=false) (hS:S w)
  (h:wpAnyH P md ops Q S fuel (listed.setIfInBounds i true) (a.put (some d) undef) w):wpAnyH P md ops Q S (fuel+1) listed a w:=
 wpAnyH_take hi hs hf hr (by rw [hd];exact hQ) (.inr ⟨hw,rfl⟩) hS (by rw [hd];exact h)
end Go.Proofs.YtnkcjkpkphjecaaGreatDoor
/- Moves of a region that draws its order and writes, at its end, cells that it read before: what is held is asked only of the operations ahead of the writes. -/
namespace Go.Proofs.YtnkcjkpkphjecaaGreatDoor
open Go
section
variable {P:Program}{ops:Array Oper}{Q:Exit→Act→World→Prop}{md:Region.Mode}{S:World→Prop}{k:Nat}
def wpUpto (P:Program)(md:Region.Mode)(ops:Array Oper)(Q:Exit→Act→World→Prop)(S:World→Prop)(k:Nat):Nat→Array Bool→Act→World→Prop
 | 0=>fun listed a w=>Region.ready md ops listed=[]∧Q .normal a w
 | fuel+1=>fun listed a w=>(Region.ready md ops listed=[]→Q .normal a w) ∧
   ∀ j,j∈Region.ready md ops listed→wpOp P ops Q j (fun a' w'=>(j < k→S w')∧wpUpto P md ops Q S k fuel (listed.setIfInBounds j true) a' w') a w
theorem zgv (fuel:Nat):∀(listed:Array Bool) (a:Act) (w:World),wpUpto P md ops Q S k fuel listed a w→wpAny P md ops Q fuel listed a w:=by
 induction fuel with
 | zero=>exact fun _ _ _ h=>h
 | succ fuel ih=>exact fun _ _ _ h=>⟨h.1,fun j hj=>wpOp_mono (fun a' w' h'=>ih _ a' w' h'.2) (h.2 j hj)⟩
def waits (md:Region.Mode)(ops:Array Oper)(k i:Nat)(ds:List Nat):Bool:=
 ((List.range ops.size).all fun j=>decide (j < k) || ds.contains j) &&
  ds.all fun j=>match ops[j]? with
   | some o=>o.after.any fun e=>Region.binds md e && (e.on == i || ds.contains e.on)
   | none=>true
theorem zkf {i:Nat}{ds:List Nat}(h:waits md ops k i ds=true):
  (∀ j o,ops[j]?=some o→j ∉ ds→j < k)∧∀ j,j∈ds→∀ o,ops[j]?=some o→∃ e∈o.after,Region.binds md e=true∧(e.on=i∨e.on∈ds):=by
 simp only [waits,Bool.and_eq_true,List.all_eq_true] at h
 refine⟨fun j o hj hn=>?_,fun j hj o ho=>?_⟩
 ·have h1:=h.1 j (List.mem_range.2 (Array.getElem?_eq_some_iff.1 hj).1)
  simp only [Bool.or_eq_true,decide_eq_true_eq,List.contains_iff_mem] at h1
  exact h1.resolve_right hn
 ·have h2:=h.2 j hj
  rw [ho] at h2
  obtain⟨e,he,hb⟩:=Array.any_eq_true'.1 h2
  simp only [Bool.and_eq_true,Bool.or_eq_true,beq_iff_eq,List.contains_iff_mem] at hb
  exact⟨e,he,hb.1,hb.2⟩
theorem zkd {i:Nat}{oi:Oper}{v:Value}(hi:ops[i]?=some oi)(hsel:∀(j:Nat) (o:Oper) cs b,ops[j]?=some o→o.op≠.select cs b)
  (hQ:∀ c a w,Q (.panic c) (a.put oi.dst v) w→Q (.panic c) a w) (ds:List Nat) (hw:waits md ops k i ds=true) (fuel:Nat):
  ∀(listed:Array Bool) (a:Act) (w:World),
   (∀ j oj,ops[j]?=some oj→j≠i→listed.getD j true=false→(∀ e∈oj.after,Region.binds md e=true→e.on≠i)→oi.apart ops oj=true) →
   i∈Region.ready md ops listed→(∀ j∈ds,listed.getD j false=false)→YieldsIf P ops S oi v a→S w →
   wpUpto P md ops Q S k fuel (listed.setIfInBounds i true) (a.put oi.dst v) w→wpUpto P md ops Q S k (fuel+1) listed a w:=by
 obtain⟨hlow,hds⟩:=zkf hw
 induction fuel with
 | zero=>
  intro listed a w _ hr _ hy hS H
  refine⟨fun h0=>absurd hr (by rw [h0];exact List.not_mem_nil),fun j hj=>?_⟩
  by_cases e:j=i
  ·subst e;exact hy.wpOp hi hS ⟨fun _=>hS,H⟩
  ·have:=ready_mono hj e
   rw [H.1] at this
   cases this
 | succ fuel ih=>
  intro listed a w hfree hr hun hy hS H
  refine⟨fun h0=>absurd hr (by rw [h0];exact List.not_mem_nil),fun j hj=>?_⟩
  by_cases e:j=i
  ·subst e;exact hy.wpOp hi hS ⟨fun _=>hS,H⟩
  ·obtain⟨hj0,oj,hoj,hall⟩:=mem_ready.1 hj
   have hi0:=(mem_ready.1 hr).1
   have hi1:listed.getD i false=true→False:=fun h=>by
    by_cases hl:i < listed.size
    ·simp [hl] at hi0 h;rw [hi0] at h;cases h
    ·simp [Array.getElem?_eq_none (Nat.le_of_not_lt hl)] at h
   have hnd:j ∉ ds:=fun hd=>by
    obtain⟨ed,hed,hbd,hon⟩:=hds j hd oj hoj
    have h1:=hall ed hed hbd
    rcases hon with hon | hon
    ·rw [hon] at h1;exact hi1 h1
    ·rw [hun _ hon] at h1;cases h1
   have hnot:∀ ed∈oj.after,Region.binds md ed=true→ed.on≠i:=fun ed hed hbd heq=>hi1 (by have:=hall ed hed hbd;rwa [heq] at this)
   have h2:=wpOp_putIf hoj (hfree j oj hoj e hj0 hnot) (fun cs b=>hsel i oi cs b hi) (fun cs b=>hsel j oj cs b hoj) hQ hy (H.2 j (ready_mono hj e))
   refine wpOp_mono (fun a' w' h3=>?_) h2
   have hS':=h3.2.1 (hlow j oj hoj hnd)
   refine⟨h3.2.1,ih (listed.setIfInBounds j true) a' w' (fun m om hm hmi hmu hmn=>?_) (ready_mono hr (Ne.symm e)) (fun d hd=>?_) h3.1 hS' ?_⟩
   ·refine hfree m om hm hmi ?_ hmn
    by_cases ejm:j=m
    ·subst ejm;exact hj0
    ·rwa [getD_set_ne true ejm] at hmu
   ·rw [getD_set_ne (i:=j) (j:=d) false (fun e'=>hnd (by rw [e'];exact hd))]
    exact hun d hd
   ·rw [Array.setIfInBounds_comm _ _ e]
    exact h3.2.2
theorem ze (i d:Nat)(ds:List Nat){oi:Oper}{v:Value}{fuel:Nat}{listed:Array Bool}{a:Act}{w:World}(hi:ops[i]?=some oi)(hd:oi.dst=some d)
  (hs:Region.noSelect ops=true) (hf:Region.free md ops listed i=true) (hr:(Region.ready md ops listed).contains i=true) (hw:waits md ops k i ds=true) (hu:(ds.all fun j=>!listed.getD j false)=true)
  (hQ:∀ c a w,Q (.panic c) (a.put (some d) v) w→Q (.panic c) a w) (hwt:Region.wanted oi (yielded ops a.tmps)=true) (hy:∀ w,S w→(execOp a.eval oi).run P w=.ok (.value v) w) (hS:S w)
  (h:wpUpto P md ops Q S k fuel (listed.setIfInBounds i true) (a.put (some d) v) w):wpUpto P md ops Q S k (fuel+1) listed a w:=
 zkd hi (Region.noSelect_spec hs) (by rw [hd];exact hQ) ds hw fuel listed a w (Region.free_spec hi hf) (by simpa using hr)
  (fun j hj=>by simpa using List.all_eq_true.1 hu j hj) (.inl ⟨hwt,hy⟩) hS (by rw [hd];exact h)
theorem zf (i:Nat){o:Oper}{fuel:Nat}{listed:Array Bool}{a:Act}{w:World}(hr:Region.ready md ops listed=[i])(ho:ops[i]?=some o)
  (h:∀ K':Act→World→Prop,Shut (∀ a w,(i < k→S w)→wpUpto P md ops Q S k fuel (listed.setIfInBounds i true) a w→K' a w)→if Region.wanted o (yielded ops a.tmps)=true then Oper.wp P o a w K' Q else K' (a.put o.dst undef) w):
  wpUpto P md ops Q S k (fuel+1) listed a w:=by
 refine⟨fun h0=>absurd (hr.symm.trans h0) (by simp),fun j hj=>?_⟩
 rw [hr] at hj
 obtain rfl:j=i:=by simpa using hj
 exact wpOp_step ho (fun K' hK=>h K' (fun a w hS hW=>hK a w ⟨hS,hW⟩))
theorem zl {fuel:Nat}{listed:Array Bool}{a:Act}{w:World}(hr:Region.ready md ops listed=[])(h:Q .normal a w):wpUpto P md ops Q S k fuel listed a w:=by
 cases fuel with
 | zero=>exact⟨hr,h⟩
 | succ fuel=>exact⟨fun _=>h,fun j hj=>by rw [hr] at hj;cases hj⟩
theorem zp {id:Nat}{a:Act}{w:World}(hm:P.follows .mixedOrders=true)(hS:S w.drew)
  (h:S w.drew→wpUpto P .any ops Q S k ops.size (Array.replicate ops.size false) a w.drew):(Code.region id ops true).wp P Q a w:=
 wp_region_any hm (zgv _ _ _ _ (h hS))
theorem zhv (l:List Nat)(p q:Nat→Bool)(hpq:∀ x,q x=true→p x=true){i:Nat}(hi:i∈l)(hp:p i=true)(hq:q i=false):(l.filter q).length < (l.filter p).length:=by
 induction l with
 | nil=>cases hi
 | cons x xs ih=>
  have hle:(xs.filter q).length≤(xs.filter p).length:=by
   clear ih hi
   induction xs with
   | nil=>exact Nat.le_refl _
   | cons y ys ih=>
    simp only [List.filter_cons]
    cases hq':q y
    ·cases p y <;> simp <;> omega
    ·simp [hpq y hq'];omega
  simp only [List.filter_cons]
  rcases List.mem_cons.1 hi with rfl | hi
  ·rw [hp,hq];simp;omega
  ·have:=ih hi
   cases hq':q x
   ·cases p x <;> simp <;> omega
   ·simp [hpq x hq'];omega
def ordered (md:Region.Mode)(ops:Array Oper):Bool:=
 (List.range ops.size).all fun j=>match ops[j]? with
  | some o=>o.after.all fun e=>!Region.binds md e || decide (e.on < j)
  | none=>true
theorem ziO (h:ordered md ops=true){j:Nat}{o:Oper}(hj:ops[j]?=some o){e:Edge}(he:e∈o.after)(hb:Region.binds md e=true):e.on < j:=by
 have h1:=List.all_eq_true.1 h j (List.mem_range.2 (Array.getElem?_eq_some_iff.1 hj).1)
 simp only [hj] at h1
 have h2:=(Array.all_eq_true_iff_forall_mem.1 h1) e he
 simpa [hb] using h2
theorem zd7 (ho:ordered md ops=true){listed:Array Bool}(hs:listed.size=ops.size)(h0:Region.ready md ops listed=[]):∀ i,i < ops.size→listed.getD i false=true:=by
 intro i
 induction i using Nat.strongRecOn with
 | _ i ih=>
  intro hi
  cases hc:listed.getD i false with
  | true=>rfl
  | false=>
   have hl:i < listed.size:=by omega
   have hm:i∈Region.ready md ops listed:=by
    refine mem_ready.2 ⟨?_,ops[i],by simp [hi],fun e he hb=>?_⟩
    ·simp [hl] at hc ⊢;exact hc
    ·have hlt:=ziO (j:=i) ho (by simp [hi]) he hb
     exact ih _ hlt (by omega)
   rw [h0] at hm
   cases hm
theorem zgt (ho:ordered md ops=true)(I:Array Bool→Act→World→Prop)
  (step:∀(L:Array Bool) (a:Act) (w:World) (i:Nat) (o:Oper),I L a w→ops[i]?=some o→L.getD i true=false→(∀ e∈o.after,Region.binds md e=true→L.getD e.on false=true) →
   ∀ K':Act→World→Prop,Shut (∀ a' w',I (L.setIfInBounds i true) a' w'→K' a' w')→if Region.wanted o (yielded ops a.tmps)=true then Oper.wp P o a w K' Q else K' (a.put o.dst undef) w)
  (fin:∀(L:Array Bool) (a:Act) (w:World),I L a w→(∀ i,i < ops.size→L.getD i false=true)→Q .normal a w) (fuel:Nat):
  ∀(L:Array Bool) (a:Act) (w:World),L.size=ops.size→((List.range ops.size).filter fun i=>!L.getD i true).length≤fuel→I L a w→wpAny P md ops Q fuel L a w:=by
 induction fuel with
 | zero=>
  intro L a w hs hf hI
  have h0:Region.ready md ops L=[]:=by
   cases hr:Region.ready md ops L with
   | nil=>rfl
   | cons x xs=>
    have hx:x∈Region.ready md ops L:=by rw [hr];simp
    obtain⟨h1,o,h2,-⟩:=mem_ready.1 hx
    have hm:x∈(List.range ops.size).filter fun i=>!L.getD i true:=List.mem_filter.2 ⟨List.mem_range.2 (Array.getElem?_eq_some_iff.1 h2).1,by simp only [h1];rfl⟩
    have:=List.length_pos_of_mem hm
    omega
  exact⟨h0,fin L a w hI (zd7 ho hs h0)⟩
 | succ fuel ih=>
  intro L a w hs hf hI
  refine⟨fun h0=>fin L a w hI (zd7 ho hs h0),fun i hi=>?_⟩
  obtain⟨h1,o,h2,h3⟩:=mem_ready.1 hi
  refine wpOp_step h2 fun K' hK=>step L a w i o hI h2 h1 h3 K' (fun a' w' hI'=>hK a' w' (ih _ a' w' (by simpa using hs) ?_ hI'))
  have hil:i < L.size:=by rw [hs];exact(Array.getElem?_eq_some_iff.1 h2).1
  have hlt:=zhv (List.range ops.size) (fun j=>!L.getD j true) (fun j=>!(L.setIfInBounds i true).getD j true) (fun x hx=>by
   by_cases e:i=x
   ·subst e;simp [hil] at hx
   ·rwa [getD_set_ne true e] at hx) (List.mem_range.2 (Array.getElem?_eq_some_iff.1 h2).1) (by simp only [h1];rfl) (by simp [hil])
  omega
theorem zab {id:Nat}{a:Act}{w:World}(hm:P.follows .mixedOrders=true)(ho:ordered .any ops=true)(I:Array Bool→Act→World→Prop)
  (start:I (Array.replicate ops.size false) a w.drew)
  (step:∀(L:Array Bool) (a:Act) (w:World) (i:Nat) (o:Oper),I L a w→ops[i]?=some o→L.getD i true=false→(∀ e∈o.after,Region.binds .any e=true→L.getD e.on false=true) →
   ∀ K':Act→World→Prop,Shut (∀ a' w',I (L.setIfInBounds i true) a' w'→K' a' w')→if Region.wanted o (yielded ops a.tmps)=true then Oper.wp P o a w K' Q else K' (a.put o.dst undef) w)
  (fin:∀(L:Array Bool) (a:Act) (w:World),I L a w→(∀ i,i < ops.size→L.getD i false=true)→Q .normal a w):(Code.region id ops true).wp P Q a w:=
 wp_region_any hm (zgt ho I step fin _ _ _ _ (by simp) (Nat.le_trans (List.length_filter_le _ _) (by simp)) start)
end
end Go.Proofs.YtnkcjkpkphjecaaGreatDoor
/- The greatest that goes into both: what lies where while it is reckoned. -/
namespace Go.Proofs.YtnkcjkpkphjecaaGreatDoor
open Go.RowKit Limbs
structure Nm where
 neg:Bool
 o:Option Addr
 l:Nat
 c:Nat
theorem NumL.nm {w:World}{v:Value}{z:Int}{n:Nat}(h:NumL w v z n):∃ r:Nm,v=.agg #[.bool r.neg,.slice r.o r.l r.c]:=by
 obtain⟨neg,s,zs,rfl,hl,-⟩:=h
 obtain⟨ao,cap,rfl,-⟩:=hl
 exact⟨⟨neg,ao,zs.length,cap⟩,rfl⟩
structure Var (W:World)(B:Nat)(r:Nm)(z:Int):Prop where
 box:Box W B (.bool r.neg) (.slice r.o r.l r.c)
 num:NumL W (.agg #[.bool r.neg,.slice r.o r.l r.c]) z 12
 lt:B < W.heap.size
theorem Var.later {W W':World}{B:Nat}{r:Nm}{z:Int}(h:Var W B r z)(hb:Below W.heap.size W W'):Var W' B r z:=⟨h.box.later hb h.lt,h.num.below hb zL,zT h.lt hb.size⟩
theorem Var.drew {W:World}{B:Nat}{r:Nm}{z:Int}(h:Var W B r z):Var W.drew B r z:=⟨h.box,h.num,h.lt⟩
theorem NumL.wrote {W:World}{B:Nat}{u0 u1 v0 v1 v:Value}{z:Int}{n:Nat}(h:NumL W v z n)(hb:Box W B u0 u1)(h0:∀ z,u0≠.int .u32 z)(h1:∀ z,u1≠.int .u32 z):NumL ((W.setCell ⟨B,0,none⟩ v0).setCell ⟨B,1,none⟩ v1) v z n:=
 (h.setCell hb.1 h0).setCell (p:=⟨B,1,none⟩) (u:=u1) ((World.cell?_setCell_other (h:=fun e=>by simp at e) ..).trans hb.2.1) h1
theorem Var.other {W:World}{B C:Nat}{r s:Nm}{z y:Int}(h:Var W B r z)(hc:Var W C s y)(hne:B≠C)(v0 v1:Value):Var ((W.setCell ⟨C,0,none⟩ v0).setCell ⟨C,1,none⟩ v1) B r z:=
 ⟨(h.box.other hne _ _).other hne _ _,h.num.wrote hc.box (by simp) (by simp),by simpa using h.lt⟩
theorem Var.write {W:World}{C:Nat}{s r:Nm}{y z:Int}(hc:Var W C s y)(hn:NumL W (.agg #[.bool r.neg,.slice r.o r.l r.c]) z 12):Var ((W.setCell ⟨C,0,none⟩ (.bool r.neg)).setCell ⟨C,1,none⟩ (.slice r.o r.l r.c)) C r z:=
 ⟨hc.box.write _ _,hn.wrote hc.box (by simp) (by simp),by simpa using hc.lt⟩
theorem NumL.drewed {W:World}{v:Value}{z:Int}{n:Nat}(h:NumL W v z n):NumL W.drew v z n:=h
theorem zgw {B:Nat}{w W:World}(h:Below B w W):Below B w W.drew:=h.drew
structure VarQ (W:World)(B:Nat)(r:Nm)(z:Int):Prop where
 box:Box W B (.bool r.neg) (.slice r.o r.l r.c)
 num:NumL W (.agg #[.bool r.neg,.slice r.o r.l r.c]) z 13
 lt:B < W.heap.size
theorem VarQ.later {W W':World}{B:Nat}{r:Nm}{z:Int}(h:VarQ W B r z)(hb:Below W.heap.size W W'):VarQ W' B r z:=⟨h.box.later hb h.lt,h.num.below hb zL,zT h.lt hb.size⟩
theorem VarQ.drew {W:World}{B:Nat}{r:Nm}{z:Int}(h:VarQ W B r z):VarQ W.drew B r z:=⟨h.box,h.num,h.lt⟩
theorem VarQ.other {W:World}{B C:Nat}{r s:Nm}{z y:Int}(h:VarQ W B r z)(hc:Var W C s y)(hne:B≠C)(v0 v1:Value):VarQ ((W.setCell ⟨C,0,none⟩ v0).setCell ⟨C,1,none⟩ v1) B r z:=
 ⟨(h.box.other hne _ _).other hne _ _,h.num.wrote hc.box (by simp) (by simp),by simpa using h.lt⟩
structure GSt (w W:World)(G X Y H U V:Nat)(rg rx ry rh ru rv:Nm)(g h x u y v:Int):Prop where
 g:Var W G rg g
 x:Var W X rx x
 y:Var W Y ry y
 h:Var W H rh h
 u:Var W U ru u
 v:Var W V rv v
 below:Below w.heap.size w W
theorem GSt.later {w W W':World}{G X Y H U V:Nat}{rg rx ry rh ru rv:Nm}{g h x u y v:Int}(s:GSt w W G X Y H U V rg rx ry rh ru rv g h x u y v)(hb:Below W.heap.size W W'):GSt w W' G X Y H U V rg rx ry rh ru rv g h x u y v:=
 ⟨s.g.later hb,s.x.later hb,s.y.later hb,s.h.later hb,s.u.later hb,s.v.later hb,s.below.trans (hb.mono s.below.size)⟩
theorem GSt.drew {w W:World}{G X Y H U V:Nat}{rg rx ry rh ru rv:Nm}{g h x u y v:Int}(s:GSt w W G X Y H U V rg rx ry rh ru rv g h x u y v):GSt w W.drew G X Y H U V rg rx ry rh ru rv g h x u y v:=
 ⟨s.g.drew,s.x.drew,s.y.drew,s.h.drew,s.u.drew,s.v.drew,s.below.drew⟩
structure Blocks (w:World)(G X Y H U V:Nat):Prop where
 g:w.heap.size≤G
 gx:G < X
 xy:X < Y
 yh:Y < H
 yu:Y < U
 yv:Y < V
 hu:H≠U
 hv:H≠V
 uv:U≠V
theorem GSt.gh {w W:World}{G X Y H U V:Nat}{rg rx ry rh ru rv r r':Nm}{g h x u y v z z':Int}(s:GSt w W G X Y H U V rg rx ry rh ru rv g h x u y v)(b:Blocks w G X Y H U V)
  (hn:NumL W (.agg #[.bool r.neg,.slice r.o r.l r.c]) z 12) (hn':NumL W (.agg #[.bool r'.neg,.slice r'.o r'.l r'.c]) z' 12):
  GSt w ((((W.setCell ⟨G,0,none⟩ (.bool r.neg)).setCell ⟨G,1,none⟩ (.slice r.o r.l r.c)).setCell ⟨H,0,none⟩ (.bool r'.neg)).setCell ⟨H,1,none⟩ (.slice r'.o r'.l r'.c)) G X Y H U V r rx ry r' ru rv z z' x u y v:=by
 obtain⟨b1,b2,b3,b4,b5,b6,b7,b8,b9⟩:=b
 have hh:=s.h.other s.g (by omega) (.bool r.neg) (.slice r.o r.l r.c)
 have hg:=s.g.write hn
 exact⟨hg.other hh (by omega) _ _,(s.x.other s.g (by omega) _ _).other hh (by omega) _ _,(s.y.other s.g (by omega) _ _).other hh (by omega) _ _,hh.write (hn'.wrote s.g.box (by simp) (by simp)),(s.u.other s.g (by omega) _ _).other hh (by omega) _ _,(s.v.other s.g (by omega) _ _).other hh (by omega) _ _,
  (((s.below.setCell (by simp;omega) _).setCell (by simp;omega) _).setCell (by simp;omega) _).setCell (by simp;omega) _⟩
theorem GSt.xu {w W:World}{G X Y H U V:Nat}{rg rx ry rh ru rv r r':Nm}{g h x u y v z z':Int}(s:GSt w W G X Y H U V rg rx ry rh ru rv g h x u y v)(b:Blocks w G X Y H U V)
  (hn:NumL W (.agg #[.bool r.neg,.slice r.o r.l r.c]) z 12) (hn':NumL W (.agg #[.bool r'.neg,.slice r'.o r'.l r'.c]) z' 12):
  GSt w ((((W.setCell ⟨X,0,none⟩ (.bool r.neg)).setCell ⟨X,1,none⟩ (.slice r.o r.l r.c)).setCell ⟨U,0,none⟩ (.bool r'.neg)).setCell ⟨U,1,none⟩ (.slice r'.o r'.l r'.c)) G X Y H U V rg r ry rh r' rv g h z z' y v:=by
 obtain⟨b1,b2,b3,b4,b5,b6,b7,b8,b9⟩:=b
 have hu:=s.u.other s.x (by omega) (.bool r.neg) (.slice r.o r.l r.c)
 have hx:=s.x.write hn
 exact⟨(s.g.other s.x (by omega) _ _).other hu (by omega) _ _,hx.other hu (by omega) _ _,(s.y.other s.x (by omega) _ _).other hu (by omega) _ _,(s.h.other s.x (by omega) _ _).other hu (by omega) _ _,hu.write (hn'.wrote s.x.box (by simp) (by simp)),(s.v.other s.x (by omega) _ _).other hu (by omega) _ _,
  (((s.below.setCell (by simp;omega) _).setCell (by simp;omega) _).setCell (by simp;omega) _).setCell (by simp;omega) _⟩
theorem GSt.yv {w W:World}{G X Y H U V:Nat}{rg rx ry rh ru rv r r':Nm}{g h x u y v z z':Int}(s:GSt w W G X Y H U V rg rx ry rh ru rv g h x u y v)(b:Blocks w G X Y H U V)
  (hn:NumL W (.agg #[.bool r.neg,.slice r.o r.l r.c]) z 12) (hn':NumL W (.agg #[.bool r'.neg,.slice r'.o r'.l r'.c]) z' 12):
  GSt w ((((W.setCell ⟨Y,0,none⟩ (.bool r.neg)).setCell ⟨Y,1,none⟩ (.slice r.o r.l r.c)).setCell ⟨V,0,none⟩ (.bool r'.neg)).setCell ⟨V,1,none⟩ (.slice r'.o r'.l r'.c)) G X Y H U V rg rx r rh ru r' g h x u z z':=by
 obtain⟨b1,b2,b3,b4,b5,b6,b7,b8,b9⟩:=b
 have hv:=s.v.other s.y (by omega) (.bool r.neg) (.slice r.o r.l r.c)
 have hy:=s.y.write hn
 exact⟨(s.g.other s.y (by omega) _ _).other hv (by omega) _ _,(s.x.other s.y (by omega) _ _).other hv (by omega) _ _,hy.other hv (by omega) _ _,(s.h.other s.y (by omega) _ _).other hv (by omega) _ _,(s.u.other s.y (by omega) _ _).other hv (by omega) _ _,hv.write (hn'.wrote s.y.box (by simp) (by simp)),
  (((s.below.setCell (by simp;omega) _).setCell (by simp;omega) _).setCell (by simp;omega) _).setCell (by simp;omega) _⟩
def GcdPost (w:World)(a b:Int)(e:Ending)(w':World):Prop:=
 ∃ vg vx vy g x y,e=.returned (.tuple #[vg,vx,vy])∧NumL w' vg g 12∧NumL w' vx x 12∧NumL w' vy y 12∧g=x * a+y * b∧0≤g∧(∃ p,a=p * g)∧(∃ p,b=p * g)∧Below w.heap.size w w'
end Go.Proofs.YtnkcjkpkphjecaaGreatDoor
