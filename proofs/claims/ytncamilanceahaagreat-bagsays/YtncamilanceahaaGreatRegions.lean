import Derived.Test.YtncamilanceahaaGreatDivG
set_option maxRecDepth 100000
set_option maxHeartbeats 3200000
namespace Go.Proofs.YtncamilanceahaaGreat
open Go.RowKit Limbs
variable{w W:World}{v u0 u1 a0 a1 b0 b1 r0 r1 s0 s1:Value}{n B fuel m:Nat}{x u Q z q r A V K a b g h R:Int}
theorem zg5 (w:World)(va vb:Value)(a b:List Int)(ha:Lim w va a)(hb:Lim w vb b)(na:Nrm a)(nb:Nrm b)(h0:b.length≠0)(hla:a.length≤900000):
  Calls Tryz.prog 83 #[va,vb] w fun e w'=>DivPost w a b e w':=by
 by_cases h1:lv a<lv b
 ·exact zg6 w va vb a b ha hb na nb h1
 ·by_cases h2:b.length=1
  ·exact zg8 w va vb a b ha hb na nb (by omega) h2
  ·exact zg7 w va vb a b ha hb na nb (by omega) (by omega) hla
theorem zdN (w:World)(va:Value)(x:Int)(n:Nat)(ha:NumL w va x n)(hn:n≤1000000):
  Calls Tryz.prog 89 #[va] w fun e w'=>NumPost w (if x<0 then -x else x) n e w':=by
 obtain⟨an,sa,a,rfl,hla,nra,-,hx,hna⟩:=ha;have HA:=hide hla;have hlb:LB a:=by obtain⟨_,_,_,_,_,h,_⟩:=hla;exact h
 have e:lv a=if x<0 then -x else x:=by
  have:=zF hlb;rw [hx];split <;> split <;> omega
 obtain⟨ao,acap,rfl,-⟩:=hla;rw [← e];clear hx e hlb;go_enter Tryz.func89,Tryz.ntmps89;go_wp2_with fail;have hT:=two w (.bool an) (.slice ao a.length acap) (.bool false) (.slice none 0 0) 90 90;generalize (w.alloc (.cells #[.bool an,.slice ao a.length acap] 90)).alloc (.cells #[.bool false,.slice none 0 0] 90)=W at *;refine(zci _ _ a (HA.out.below hT.below zL)).mono ?_;rintro e w1 ⟨rfl,hr1,hb1⟩;have hT1:=hT.later hb1;go_wp2_with fail;refine(zW _ _ _ a n (FreshPost.lim hr1 (by omega)) hna).mono ?_;rintro e w2 ⟨r,rfl,hr,hb2⟩;have hT2:=hT1.later hb2;obtain⟨c0,c1,f0,f1⟩:=hT2.res;have HR:=hide hr;obtain⟨rn,rs,rz,rfl,hl,-⟩:=hr;obtain⟨ro,rcap,rfl,-⟩:=hl;rw [if_neg (by decide)] at HR;have HF:=hide (boxed (w:=w) HR.out c0 c1 (by simp) (by simp) hT2.below (by omega));clear hT hT1 hT2 hb1 hb2 HR hr1;go_wp2;exact bodyPost_ret (v:=.agg #[.bool rn,.slice ro rz.length rcap]) (by simp [results,Tryz.results89,go_sem,c0,c1]) rfl HF.out
structure Four (w W:World)(a0 a1 b0 b1 r0 r1 s0 s1:Value):Prop where
 fst:Box W w.heap.size a0 a1
 snd:Box W (w.heap.size+1) b0 b1
 res:Box W (w.heap.size+2) r0 r1
 sec:Box W (w.heap.size+3) s0 s1
 below:Below w.heap.size w W
 size:w.heap.size+3<W.heap.size
theorem four (w:World)(a0 a1 b0 b1 r0 r1 s0 s1:Value)(t1 t2 t3 t4:TypeId):Four w ((((w.alloc (.cells #[a0,a1] t1)).alloc (.cells #[b0,b1] t2)).alloc (.cells #[r0,r1] t3)).alloc (.cells #[s0,s1] t4)) a0 a1 b0 b1 r0 r1 s0 s1 where
 fst:=(three w a0 a1 b0 b1 r0 r1 t1 t2 t3).fst.later ((zB _ _).alloc (by simp) _:Below (w.heap.size+3) _ _) (by omega)
 snd:=(three w a0 a1 b0 b1 r0 r1 t1 t2 t3).snd.later ((zB _ _).alloc (by simp) _:Below (w.heap.size+3) _ _) (by omega)
 res:=(three w a0 a1 b0 b1 r0 r1 t1 t2 t3).res.later ((zB _ _).alloc (by simp) _:Below (w.heap.size+3) _ _) (by omega)
 sec:=zl _ _ _ _ _ (by simp)
 below:=(three w a0 a1 b0 b1 r0 r1 t1 t2 t3).below.alloc (by simp;omega) _
 size:=by simp
theorem Four.later{W':World}(h:Four w W a0 a1 b0 b1 r0 r1 s0 s1)(hb:Below W.heap.size W W'):Four w W' a0 a1 b0 b1 r0 r1 s0 s1 where
 fst:=h.fst.later hb (by have:=h.size;omega)
 snd:=h.snd.later hb (by have:=h.size;omega)
 res:=h.res.later hb (by have:=h.size;omega)
 sec:=h.sec.later hb h.size
 below:=h.below.trans (hb.mono h.below.size)
 size:=zT h.size hb.size
theorem Four.drew(h:Four w W a0 a1 b0 b1 r0 r1 s0 s1):Four w W.drew a0 a1 b0 b1 r0 r1 s0 s1:=⟨h.fst,h.snd,h.res,h.sec,h.below.drew,h.size⟩
def Left (r y:Int):Prop:=(0<y→0≤r∧r<y)∧(y<0→y<r∧r≤0)
def QuoPost (w:World)(x y:Int)(n m:Nat)(e:Ending)(w':World):Prop:=
 ∃ vq vr q r,e=.returned (.tuple #[vq,vr,.nilIface])∧NumL w' vq q (n+1)∧NumL w' vr r m∧x=q*y+r∧Left r y∧Below w.heap.size w w'
theorem zi1(an bn:Bool)(h:A=V*q+r)(h0:0≤r)(h1:r<V)(hs:an=bn∨r=0):
  sg an A=(if (!(an==bn))=true then -q else q)*sg bn V+(if bn=true then -r else r)∧Left (if bn=true then -r else r) (sg bn V):=by
 unfold sg Left;have e:V*q=q*V:=Int.mul_comm _ _;rw [e] at h;rcases hs with rfl | rfl
 ·cases an <;> simp [Int.mul_neg] <;> omega
 ·cases an <;> cases bn <;> simp [Int.mul_neg,Int.neg_mul] <;> omega
theorem zi0(an bn:Bool)(h:A=V*q+r)(h0:0<r)(h1:r<V)(hs:(an==bn)=false):
  sg an A=(if (!(an==bn))=true then -(q+1) else q+1)*sg bn V+(if bn=true then -(V-r) else V-r)∧Left (if bn=true then -(V-r) else V-r) (sg bn V):=by
 unfold sg Left;have e:V*q=q*V:=Int.mul_comm _ _;rw [e] at h;cases an <;> cases bn <;> simp at hs <;> simp [Int.mul_neg,Int.neg_mul,Int.add_mul,Int.neg_add] <;> omega
theorem boxed2{w2:World}{C:Nat}{qn rn:Bool}{qs rs:Value}{t0 t1:Value}(hq:NumL w2 (.agg #[.bool qn,qs]) q n)(hr:NumL w2 (.agg #[.bool rn,rs]) r m)
  (c0:w2.cell? ⟨B,0,none⟩=some u0) (c1:w2.cell? ⟨B,1,none⟩=some u1) (d0:w2.cell? ⟨C,0,none⟩=some t0) (d1:w2.cell? ⟨C,1,none⟩=some t1) (hBC:B≠C)
  (hu0:∀ z,u0≠.int .u32 z) (hu1:∀ z,u1≠.int .u32 z) (ht0:∀ z,t0≠.int .u32 z) (ht1:∀ z,t1≠.int .u32 z) (hb:Below w.heap.size w w2) (hB:w.heap.size≤B) (hC:w.heap.size≤C):
  NumL ((((w2.setCell ⟨B,0,none⟩ (.bool qn)).setCell ⟨B,1,none⟩ qs).setCell ⟨C,0,none⟩ (.bool rn)).setCell ⟨C,1,none⟩ rs) (.agg #[.bool qn,qs]) q n ∧
  NumL ((((w2.setCell ⟨B,0,none⟩ (.bool qn)).setCell ⟨B,1,none⟩ qs).setCell ⟨C,0,none⟩ (.bool rn)).setCell ⟨C,1,none⟩ rs) (.agg #[.bool rn,rs]) r m ∧
  Below w.heap.size w ((((w2.setCell ⟨B,0,none⟩ (.bool qn)).setCell ⟨B,1,none⟩ qs).setCell ⟨C,0,none⟩ (.bool rn)).setCell ⟨C,1,none⟩ rs):=by
 have k1:(w2.setCell ⟨B,0,none⟩ (.bool qn)).cell? ⟨B,1,none⟩=some u1:=Eq.trans (World.cell?_setCell_other (h:=fun e=>by simp at e) ..) c1;have k2:((w2.setCell ⟨B,0,none⟩ (.bool qn)).setCell ⟨B,1,none⟩ qs).cell? ⟨C,0,none⟩=some t0:=Eq.trans (World.cell?_setCell_other (h:=fun e=>by simp at e) ..) (Eq.trans (World.cell?_setCell_other (h:=fun e=>by simp at e) ..) d0);have k3:(((w2.setCell ⟨B,0,none⟩ (.bool qn)).setCell ⟨B,1,none⟩ qs).setCell ⟨C,0,none⟩ (.bool rn)).cell? ⟨C,1,none⟩=some t1:=
  Eq.trans (World.cell?_setCell_other (h:=fun e=>by simp at e) ..) (Eq.trans (World.cell?_setCell_other (h:=fun e=>by simp at e) ..) (Eq.trans (World.cell?_setCell_other (h:=fun e=>by simp at e) ..) d1))
 exact⟨(((hq.setCell c0 hu0).setCell k1 hu1).setCell k2 ht0).setCell k3 ht1,(((hr.setCell c0 hu0).setCell k1 hu1).setCell k2 ht0).setCell k3 ht1,(((hb.setCell (by exact hB) _).setCell (by exact hB) _).setCell (by exact hC) _).setCell (by exact hC) _⟩
theorem zcd (w:World)(va vb:Value)(x y:Int)(n m:Nat)(ha:NumL w va x n)(hb:NumL w vb y m)(hy:y≠0)(hn:n≤800000):
  Calls Tryz.prog 78 #[va,vb] w fun e w'=>QuoPost w x y n m e w':=by
 have HB:=hide hb;obtain⟨an,sa,a,rfl,hla,nra,-,hx,hna⟩:=ha;obtain⟨bn,sb,b,rfl,hlb,nrb,-,hyy,hnb⟩:=hb;have HLA:=hide hla;have HLB:=hide hlb;obtain⟨ao,acap,rfl,-,-,halb,-⟩:=hla;obtain⟨bo,bcap,rfl,-,-,hblb,-⟩:=hlb;have hb0:b.length≠0:=fun h=>hy (by rw [hyy,List.eq_nil_of_length_eq_zero h];simp [lv]);change x=sg an (lv a) at hx;change y=sg bn (lv b) at hyy;have HX:=hide hx;have HY:=hide hyy;clear hx hyy;go_enter Tryz.func78,Tryz.ntmps78;go_wp2_with fail;have hT:=four w (.bool an) (.slice ao a.length acap) (.bool bn) (.slice bo b.length bcap) (.bool false) (.slice none 0 0) (.bool false) (.slice none 0 0) 90 90 90 90;generalize (((w.alloc (.cells #[.bool an,.slice ao a.length acap] 90)).alloc (.cells #[.bool bn,.slice bo b.length bcap] 90)).alloc (.cells #[.bool false,.slice none 0 0] 90)).alloc (.cells #[.bool false,.slice none 0 0] 90)=W at *;refine(zaT W _ y m (HB.out.below hT.below zL)).mono ?_;rintro e w1 ⟨rfl,hb1⟩;rw [decide_eq_false hy];have hT1:=hT.later hb1;obtain⟨p0,p1,-,-⟩:=hT1.fst;obtain⟨q0,q1,-,-⟩:=hT1.snd;go_wp2_with fail;refine(zg5 w1 _ _ a b (HLA.out.below hT1.below zL) (HLB.out.below hT1.below zL) nra nrb hb0 (by omega)).mono ?_;rintro e w2 ⟨v1,v2,qs,rs,rfl,hl1,hl2,hnq,hnr,hval,hlt,hql,hrl,hb2⟩;have HV:=hide hval;have HLT:=hide hlt;have HL1:=hide hl1;have HL2:=hide hl2;have hT2:=hT1.later hb2;clear p0 p1 q0 q1 hval hlt hT hT1 hb1;obtain⟨ro,rcap,rfl,-,-,hrlb,-⟩:=hl2;have hr0:=zF hrlb;have hrz:=zbe hrlb hnr;clear hl1;obtain⟨p0,p1,-,-⟩:=hT2.fst;obtain⟨q0,q1,-,-⟩:=hT2.snd;by_cases hpl:an=bn∨lv rs=0
 ·have hfact:=zi1 an bn HV.out hr0 HLT.out hpl;rw [← HX.out,← HY.out] at hfact;rcases(show(an==bn)=true∨((an==bn)=false∧rs.length=0) by
   by_cases h:an=bn
   ·exact .inl (by simp [h])
   ·exact .inr ⟨by simpa using h,hrz.1 (hpl.resolve_left h)⟩) with hab |⟨hab,hr0'⟩
  ·clear hpl;rw [hab] at hfact;have HFA:=hide hfact;clear hfact;obtain⟨p0,p1,-,-⟩:=hT2.fst;obtain⟨q0,q1,-,-⟩:=hT2.snd;have tok1:True:=trivial;have tok2:True:=trivial;have hn2:¬(w.heap.size+1+1=w.heap.size):=by omega
   have hn3:¬(w.heap.size=w.heap.size+1+1):=by omega
   have hn4:¬(w.heap.size+3=w.heap.size):=by omega
   have hn5:¬(w.heap.size=w.heap.size+3):=by omega
   have hn6:¬(w.heap.size+2=w.heap.size):=by omega
   have hn7:¬(w.heap.size=w.heap.size+2):=by omega
   go_wp2_with fail
   go_region_held3 (fun w'=>w'.cell? ⟨w.heap.size,0,none⟩=some (.bool an)∧w'.cell? ⟨w.heap.size+1,0,none⟩=some (.bool bn)) (go_keep)
    (first
     |(go_at_call 57;have _t:=tok1;refine(zW _ _ _ qs (n+1) (by exact HL1.out) (by omega)).mono ?_;rintro e w8 ⟨r8,rfl,hr8,hb8⟩;have hT8:=hT2.drew.later hb8;obtain⟨p0',p1',-,-⟩:=hT8.fst;obtain⟨q0',q1',-,-⟩:=hT8.snd;have HR8:=hide hr8;obtain⟨rn8,rs8,rz8,rfl,hl8,-⟩:=hr8;obtain⟨ro8,rcap8,rfl,-⟩:=hl8;clear tok1)
     |(go_at_call 57;have _t:=tok2;refine(zW _ _ _ rs m ((show Lim _ _ rs from by exact HL2.out).below (drewed hb8) zL) (by omega)).mono ?_;rintro e w9 ⟨r9,rfl,hr9,hb9⟩;have hT9:=hT8.later hb9;obtain⟨p0'',p1'',-,-⟩:=hT9.fst;obtain⟨q0'',q1'',-,-⟩:=hT9.snd;obtain⟨c0,c1,f0,f1⟩:=hT9.res;obtain⟨d0,d1,g0,g1⟩:=hT9.sec;have HR9:=hide hr9;obtain⟨rn9,rs9,rz9,rfl,hl9,-⟩:=hr9;obtain⟨ro9,rcap9,rfl,-⟩:=hl9;have HR8':=hide (HR8.out.below hb9 zL);clear tok2))
   have HF:=hide (boxed2 (w:=w) HR8'.out HR9.out c0 c1 d0 d1 (by omega) (by simp) (by simp) (by simp) (by simp) hT9.below (by omega) (by omega));have HA:=hide (HFA.out);clear hT8 hT9 hb8 hb9 HR8 HR9 HR8' hT2;go_wp2;exact bodyPost_ret (v:=.tuple #[.agg #[.bool rn8,.slice ro8 rz8.length rcap8],.agg #[.bool rn9,.slice ro9 rz9.length rcap9],.nilIface]) (by simp [results,Tryz.results78,go_sem,c0,c1,d0,d1]) rfl ⟨_,_,_,_,rfl,HF.out.1,HF.out.2.1,HA.out.1,HA.out.2,HF.out.2.2⟩
  ·obtain rfl:rs=[]:=List.eq_nil_of_length_eq_zero hr0';rw [hab] at hfact;have HFA:=hide hfact;clear hfact hpl hr0' hrz;obtain⟨p0,p1,-,-⟩:=hT2.fst;obtain⟨q0,q1,-,-⟩:=hT2.snd;have tok1:True:=trivial;have tok2:True:=trivial;have hn2:¬(w.heap.size+1+1=w.heap.size):=by omega
   have hn3:¬(w.heap.size=w.heap.size+1+1):=by omega
   have hn4:¬(w.heap.size+3=w.heap.size):=by omega
   have hn5:¬(w.heap.size=w.heap.size+3):=by omega
   have hn6:¬(w.heap.size+2=w.heap.size):=by omega
   have hn7:¬(w.heap.size=w.heap.size+2):=by omega
   go_wp2_with fail
   go_region_held3 (fun w'=>w'.cell? ⟨w.heap.size,0,none⟩=some (.bool an)∧w'.cell? ⟨w.heap.size+1,0,none⟩=some (.bool bn)) (go_keep)
    (first
     |(go_at_call 57;have _t:=tok1;refine(zW _ _ _ qs (n+1) (by exact HL1.out) (by omega)).mono ?_;rintro e w8 ⟨r8,rfl,hr8,hb8⟩;have hT8:=hT2.drew.later hb8;obtain⟨p0',p1',-,-⟩:=hT8.fst;obtain⟨q0',q1',-,-⟩:=hT8.snd;have HR8:=hide hr8;obtain⟨rn8,rs8,rz8,rfl,hl8,-⟩:=hr8;obtain⟨ro8,rcap8,rfl,-⟩:=hl8;clear tok1)
     |(go_at_call 57;have _t:=tok2;refine(zW _ _ _ [] m ((show Lim _ _ [] from by exact HL2.out).below (drewed hb8) zL) (by simp)).mono ?_;rintro e w9 ⟨r9,rfl,hr9,hb9⟩;have hT9:=hT8.later hb9;obtain⟨p0'',p1'',-,-⟩:=hT9.fst;obtain⟨q0'',q1'',-,-⟩:=hT9.snd;obtain⟨c0,c1,f0,f1⟩:=hT9.res;obtain⟨d0,d1,g0,g1⟩:=hT9.sec;have HR9:=hide hr9;obtain⟨rn9,rs9,rz9,rfl,hl9,-⟩:=hr9;obtain⟨ro9,rcap9,rfl,-⟩:=hl9;have HR8':=hide (HR8.out.below hb9 zL);clear tok2))
   have HF:=hide (boxed2 (w:=w) HR8'.out HR9.out c0 c1 d0 d1 (by omega) (by simp) (by simp) (by simp) (by simp) hT9.below (by omega) (by omega));have HA:=hide (HFA.out);clear hT8 hT9 hb8 hb9 HR8 HR9 HR8' hT2;go_wp2;exact bodyPost_ret (v:=.tuple #[.agg #[.bool rn8,.slice ro8 rz8.length rcap8],.agg #[.bool rn9,.slice ro9 rz9.length rcap9],.nilIface]) (by simp [results,Tryz.results78,go_sem,c0,c1,d0,d1]) rfl ⟨_,_,_,_,rfl,HF.out.1,HF.out.2.1,HA.out.1,HA.out.2,HF.out.2.2⟩
 ·have hab:(an==bn)=false:=by
   by_cases h:an=bn
   ·exact absurd (.inl h) hpl
   ·simpa using h
  have hrp:0<lv rs:=by
   have:¬ lv rs=0:=fun h=>hpl (.inr h);omega
  have hrl0:0<rs.length:=by
   have:rs.length≠0:=fun h=>by have:=hrz.2 h;omega
   omega
  have hfact:=zi0 an bn HV.out hrp HLT.out hab;rw [← HX.out,← HY.out,hab] at hfact;have HFA:=hide hfact;have hRP:=hide hrp;clear hfact hpl hrp hrz;go_wp2_with fail;have hone:=zfe w2 1 (by decide);have hba:=(zB w2.heap.size w2).alloc zL (.cells #[.int .u32 1] 112);refine(zdO _ _ _ qs [1] (HL1.out.below hba zL) (hone.lim 1 (by simp) (by simp)) (by omega) (by simp)).mono ?_;rintro e w3 ⟨v3,xs,rfl,hl3,hv3,hn3,hb3⟩;have hT3:=(hT2.later hba).later hb3;obtain⟨p0,p1,-,-⟩:=hT3.fst;obtain⟨q0,q1,-,-⟩:=hT3.snd;have HL3:=hide hl3;have HV3:=hide hv3;clear hl3 hv3 hone;go_wp2_with fail;refine(zdy w3 _ _ b rs (HLB.out.below hT3.below zL) (HL2.out.below (hba.trans (hb3.mono hba.size)) zL) hnr (by have:=HLT.out;omega)).mono ?_;rintro e w4 ⟨v4,ys,rfl,hl4,hv4,hn4,hb4⟩;have hT4:=hT3.later hb4;have HL4:=hide hl4;have HV4:=hide hv4;have HL3':=hide (HL3.out.below hb4 zL);clear hl4 hv4 p0 p1 q0 q1 hT3 HL3 hb4 hb3 hba;rw [show lv qs+1=lv xs by have:=HV3.out;simpa [lv] using this.symm,show lv b-lv rs=lv ys from HV4.out.symm] at HFA;have ha1:1≤a.length:=by
   rcases Nat.lt_or_ge a.length 1 with h | h
   ·exfalso;have e0:lv a=0:=by have h':a=[]:=List.eq_nil_of_length_eq_zero (by omega);rw [h'];rfl
    have e1:=HV.out;have e2:=hRP.out;have e3:=zF hblb;have e4:LB qs:=by obtain⟨_,_,_,_,_,h,_⟩:=HL1.out;exact h
    have e5:=Int.mul_nonneg e3 (zF e4);omega
   ·exact h
  have hxl:xs.length≤n+1:=by simp at hn3;omega
  obtain⟨p0,p1,-,-⟩:=hT4.fst;obtain⟨q0,q1,-,-⟩:=hT4.snd;have tok1:True:=trivial;have tok2:True:=trivial;have hn2:¬(w.heap.size+1+1=w.heap.size):=by omega
  have hn3:¬(w.heap.size=w.heap.size+1+1):=by omega
  have hn4:¬(w.heap.size+3=w.heap.size):=by omega
  have hn5:¬(w.heap.size=w.heap.size+3):=by omega
  have hn6:¬(w.heap.size+2=w.heap.size):=by omega
  have hn7:¬(w.heap.size=w.heap.size+2):=by omega
  go_wp2_with fail
  go_region_held3 (fun w'=>w'.cell? ⟨w.heap.size,0,none⟩=some (.bool an)∧w'.cell? ⟨w.heap.size+1,0,none⟩=some (.bool bn)) (go_keep)
   (first
    |(go_at_call 57;have _t:=tok1;refine(zW _ _ _ xs (n+1) (by exact HL3'.out) hxl).mono ?_;rintro e w8 ⟨r8,rfl,hr8,hb8⟩;have hT8:=hT4.drew.later hb8;obtain⟨p0',p1',-,-⟩:=hT8.fst;obtain⟨q0',q1',-,-⟩:=hT8.snd;have HR8:=hide hr8;obtain⟨rn8,rs8,rz8,rfl,hl8,-⟩:=hr8;obtain⟨ro8,rcap8,rfl,-⟩:=hl8;clear tok1)
    |(go_at_call 57;have _t:=tok2;refine(zW _ _ _ ys m ((show Lim _ _ ys from by exact HL4.out).below (drewed hb8) zL) (by omega)).mono ?_;rintro e w9 ⟨r9,rfl,hr9,hb9⟩;have hT9:=hT8.later hb9;obtain⟨p0'',p1'',-,-⟩:=hT9.fst;obtain⟨q0'',q1'',-,-⟩:=hT9.snd;obtain⟨c0,c1,f0,f1⟩:=hT9.res;obtain⟨d0,d1,g0,g1⟩:=hT9.sec;have HR9:=hide hr9;obtain⟨rn9,rs9,rz9,rfl,hl9,-⟩:=hr9;obtain⟨ro9,rcap9,rfl,-⟩:=hl9;have HR8':=hide (HR8.out.below hb9 zL);clear tok2))
  have HF:=hide (boxed2 (w:=w) HR8'.out HR9.out c0 c1 d0 d1 (by omega) (by simp) (by simp) (by simp) (by simp) hT9.below (by omega) (by omega));have HA:=hide (HFA.out);clear hT8 hT9 hb8 hb9 HR8 HR9 HR8' hT2;go_wp2;exact bodyPost_ret (v:=.tuple #[.agg #[.bool rn8,.slice ro8 rz8.length rcap8],.agg #[.bool rn9,.slice ro9 rz9.length rcap9],.nilIface]) (by simp [results,Tryz.results78,go_sem,c0,c1,d0,d1]) rfl ⟨_,_,_,_,rfl,HF.out.1,HF.out.2.1,HA.out.1,HA.out.2,HF.out.2.2⟩
structure Raw where
 neg:Bool
 s:Value
 zs:List Int
theorem zka (a b:Int):cmpI b a=-cmpI a b:=by
 unfold cmpI
 repeat' split
 all_goals omega
theorem zj9 (a b c:Int):cmpI (a+c) (b+c)=cmpI a b:=by
 unfold cmpI
 repeat' split
 all_goals omega
theorem zkc (a b c:Int)(h1:cmpI a b≤0)(h2:cmpI b c≤0):cmpI a c≤0:=by
 unfold cmpI at *
 repeat' split at h1
 all_goals repeat' split at h2
 all_goals repeat' split
 all_goals omega
theorem zkb (a b c:Int)(h:0<c):cmpI (a*c) (b*c)=cmpI a b:=by
 by_cases h1:a<b
 ·rw [zab h1,zab (Int.mul_lt_mul_of_pos_right h1 h)]
 ·by_cases h2:b<a
  ·rw [zaa h2,zaa (Int.mul_lt_mul_of_pos_right h2 h)]
  ·obtain rfl:a=b:=by omega
   rw [za8 rfl,za8 rfl]
theorem Box.other{A:Nat}(h:Box W A u0 u1)(hne:A≠B)(k:Nat)(u:Value):Box (W.setCell ⟨B,k,none⟩ u) A u0 u1:=by
 obtain⟨h1,h2,h3,h4⟩:=h;have n1:∀ j,(⟨B,k,none⟩:Addr)≠⟨A,j,none⟩:=fun j e=>hne (congrArg Addr.block e).symm;exact⟨(World.cell?_setCell_other (h:=n1 0) ..).trans h1,(World.cell?_setCell_other (h:=n1 1) ..).trans h2,by rw [World.frozen?_setCell];exact h3,by rw [World.frozen?_setCell];exact h4⟩
theorem Box.write(h:Box W B u0 u1)(v0 v1:Value):Box ((W.setCell ⟨B,0,none⟩ v0).setCell ⟨B,1,none⟩ v1) B v0 v1:=by
 obtain⟨h1,h2,h3,h4⟩:=h;refine⟨?_,?_,by rw [World.frozen?_setCell,World.frozen?_setCell];exact h3,by rw [World.frozen?_setCell,World.frozen?_setCell];exact h4⟩
 ·exact(World.cell?_setCell_other (h:=fun e=>by simp at e) ..).trans (World.cell?_setCell_same (h:=h1) ..)
 ·exact World.cell?_setCell_same (h:=(World.cell?_setCell_other (h:=fun e=>by simp at e) ..).trans h2) ..
def ab (z:Int):Int:=if z<0 then -z else z
def sgn (z:Int):Int:=if z=0 then 0 else if z<0 then -1 else 1
theorem zr (z:Int):0≤ab z:=by unfold ab;split <;> omega
theorem zdJ (z:Int):ab z=sgn z*z:=by
 unfold ab sgn
 repeat' split
 all_goals omega
theorem zft (z:Int):z=sgn z*ab z:=by
 unfold ab sgn
 repeat' split
 all_goals omega
theorem zcb (z:Int):ab (sgn z)≤1:=by
 unfold sgn
 repeat' split
 all_goals decide
structure Bez (K a b g h x u y v:Int):Prop where
 eg:g=x*a+y*b
 eh:h=u*a+v*b
 g0:0≤g
 h0:0≤h
 sx:x*u≤0
 sy:y*v≤0
 bx:ab x*h+ab u*g≤ab b
 by':ab y*h+ab v*g≤ab a
 spa:∃ p q,a=p*g+q*h
 spb:∃ p q,b=p*g+q*h
 ka:ab a≤K
 kb:ab b≤K
 kx:ab x≤K
 ku:ab u≤K
 ky:ab y≤K
 kv:ab v≤K
 kg:g≤K
 kh:h≤K
theorem Bez.start(hK:1≤K)(ha:ab a≤K)(hb:ab b≤K):Bez K a b (ab a) (ab b) (sgn a) 0 0 (sgn b) where
 eg:=by rw [zdJ];omega
 eh:=by rw [zdJ];omega
 g0:=zr a
 h0:=zr b
 sx:=by omega
 sy:=by omega
 bx:=by
  have:ab (sgn a)*ab b≤1*ab b:=Int.mul_le_mul_of_nonneg_right (zcb a) (zr b);have e:ab 0*ab a=0:=by simp [ab]
  omega
 by':=by
  have:ab (sgn b)*ab a≤1*ab a:=Int.mul_le_mul_of_nonneg_right (zcb b) (zr a);have e:ab 0*ab b=0:=by simp [ab]
  omega
 spa:=⟨sgn a,0,by have:=zft a;omega⟩
 spb:=⟨0,sgn b,by have:=zft b;omega⟩
 ka:=ha
 kb:=hb
 kx:=by have:=zcb a;omega
 ku:=by simp [ab];omega
 ky:=by simp [ab];omega
 kv:=by have:=zcb b;omega
 kg:=ha
 kh:=hb
theorem zfP(hQ:0≤Q)(h:x*u≤0):ab (x-Q*u)=ab x+Q*ab u:=by
 rcases(by omega:u=0∨0<u∨u<0) with hu | hu | hu
 ·subst hu;simp [ab]
 ·have hx:x≤0:=by
   rcases Int.lt_or_le 0 x with hx | hx
   ·have:=Int.mul_pos hx hu;omega
   ·exact hx
  have hq:0≤Q*u:=Int.mul_nonneg hQ (by omega);have e1:ab u=u:=by unfold ab;rw [if_neg (by omega)]
  rw [e1];unfold ab
  repeat' split
  all_goals omega
 ·have hx:0≤x:=by
   rcases Int.lt_or_le x 0 with hx | hx
   ·have:=Int.mul_pos_of_neg_of_neg hx hu;omega
   ·exact hx
  have hq:0≤Q*-u:=Int.mul_nonneg hQ (by omega);have e1:ab u=-u:=by unfold ab;rw [if_pos hu]
  rw [e1];rw [Int.mul_neg] at hq ⊢;unfold ab
  repeat' split
  all_goals omega
theorem zbn(hQ:0≤Q)(h:x*u≤0):u *(x-Q*u)≤0:=by
 have:0≤Q *(u*u):=Int.mul_nonneg hQ (by
  rcases Int.le_total 0 u with hu | hu
  ·exact Int.mul_nonneg hu hu
  ·exact Int.mul_nonneg_of_nonpos_of_nonpos hu hu)
 have e:u *(x-Q*u)=x*u-Q *(u*u):=by rw [Int.mul_sub,Int.mul_comm u x,Int.mul_left_comm u Q u]
 omega
theorem zaY{B:Int}(hQ:0≤Q)(hs:x*u≤0)(hg:g=Q*h+R)(hb:ab x*h+ab u*g≤B):ab u*R+ab (x-Q*u)*h≤B:=by
 rw [zfP hQ hs,Int.add_mul];have e:ab u*R=ab u*g-Q*ab u*h:=by
  have:R=g-Q*h:=by omega
  rw [this,Int.mul_sub];congr 1;ac_rfl
 rw [e];omega
theorem Bez.step{y v:Int}(H:Bez K a b g h x u y v)(hg:g=Q*h+R)(hR0:0≤R)(hR:R<h):Bez K a b h R u (x-Q*u) v (y-Q*v):=by
 have hpos:0<h:=by have:=H.h0;omega
 have hQ:0≤Q:=by
  rcases Int.lt_or_le Q 0 with hq | hq
  ·have h1:Q*h≤-1*h:=Int.mul_le_mul_of_nonneg_right (by omega) (by omega);have:=H.g0;omega
  ·exact hq
 have b1:=zaY hQ H.sx hg H.bx;have b2:=zaY hQ H.sy hg H.by';have le_mul:∀ t:Int,0≤t→t≤t*h:=fun t ht=>by
  have:t*1≤t*h:=Int.mul_le_mul_of_nonneg_left (by omega) ht;omega
 refine⟨H.eh,?_,H.h0,hR0,zbn hQ H.sx,zbn hQ H.sy,b1,b2,?_,?_,H.ka,H.kb,H.ku,?_,H.kv,?_,H.kh,by have:=H.kh;omega⟩
 ·have e1:=H.eg;have e2:=H.eh;have e3:R=g-Q*h:=by omega
  rw [e3,Int.sub_mul,Int.sub_mul];have e4:Q*h=Q*u*a+Q*v*b:=by rw [e2,Int.mul_add,Int.mul_assoc,Int.mul_assoc]
  omega
 ·obtain⟨p,q,e⟩:=H.spa;refine⟨p*Q+q,p,?_⟩;rw [e,hg,Int.mul_add,Int.add_mul,Int.mul_assoc];omega
 ·obtain⟨p,q,e⟩:=H.spb;refine⟨p*Q+q,p,?_⟩;rw [e,hg,Int.mul_add,Int.add_mul,Int.mul_assoc];omega
 ·have h1:=le_mul _ (zr (x-Q*u));have h2:0≤ab u*R:=Int.mul_nonneg (zr u) hR0;have:=H.kb;omega
 ·have h1:=le_mul _ (zr (y-Q*v));have h2:0≤ab v*R:=Int.mul_nonneg (zr v) hR0;have:=H.ka;omega
theorem NumL.tight(h:NumL w v z n)(hz:ab z<bp m):NumL w v z m:=by
 obtain⟨neg,s,zs,e,hl,hn,h0,hzz,-⟩:=h;refine⟨neg,s,zs,e,hl,hn,h0,hzz,?_⟩;have hlb:LB zs:=by obtain⟨_,_,_,_,_,h,_⟩:=hl;exact h
 have hp:=zF hlb;refine zeI hlb hn ?_;rw [hzz] at hz;unfold ab at hz;split at hz <;> split at hz <;> omega
theorem NumL.ab_lt(h:NumL w v z n):ab z<bp n:=by
 obtain⟨neg,s,zs,e,hl,hn,h0,hzz,hle⟩:=h;have hlb:LB zs:=by obtain⟨_,_,_,_,_,h,_⟩:=hl;exact h
 have hp:=zF hlb;have h1:=zaq hlb;have h2:bp zs.length≤bp n:=zad hle;rw [hzz];unfold ab
 repeat' split
 all_goals omega
theorem Lim.unique{xs ys:List Int}(hx:Lim w v xs)(hy:Lim w v ys):xs=ys:=by
 obtain⟨ao,cap,rfl,-,-,-,hc⟩:=hx;obtain⟨bo,cap',e,-,-,-,hd⟩:=hy;simp only [zV] at e;obtain⟨rfl,hl,rfl⟩:=e;refine List.ext_getElem hl fun i h1 h2=>?_;obtain⟨b,off,e1,-,hc⟩:=hc (by omega);obtain⟨b',off',e2,-,hd⟩:=hd (by omega);rw [e1] at e2;simp only [Option.some.injEq,Addr.mk.injEq,and_true] at e2;obtain⟨rfl,rfl⟩:=e2;have h3:=(hc i h1).symm.trans (hd i h2);simpa [List.getD_eq_getElem?_getD,h1,h2] using h3
theorem NumL.unique{z':Int}{n':Nat}(h:NumL w v z n)(h':NumL w v z' n'):z=z':=by
 obtain⟨neg,s,zs,rfl,hl,-,-,hz,-⟩:=h;obtain⟨neg',s',zs',e,hl',-,-,hz',-⟩:=h';simp only [Value.agg.injEq,Array.mk.injEq,List.cons.injEq,Value.bool.injEq,and_true] at e;obtain⟨rfl,rfl⟩:=e;rw [hz,hz',hl.unique hl']
noncomputable def numAt (W:World) (B:Nat):Int:=Classical.epsilon fun z=>∃ v0 v1 n,Box W B v0 v1∧NumL W (.agg #[v0,v1]) z n
theorem zeV{v0 v1:Value}(hb:Box W B v0 v1)(hn:NumL W (.agg #[v0,v1]) z n):numAt W B=z:=by
 obtain⟨u0,u1,m,hb',hn'⟩:=Classical.epsilon_spec (p:=fun z=>∃ v0 v1 n,Box W B v0 v1∧NumL W (.agg #[v0,v1]) z n) ⟨z,v0,v1,n,hb,hn⟩;have e0:u0=v0:=zI (hb'.1.symm.trans hb.1);have e1:u1=v1:=zI (hb'.2.1.symm.trans hb.2.1);rw [e0,e1] at hn';exact hn'.unique hn
theorem zfv (w:World)(va:Value)(x:Int)(n:Nat)(ha:NumL w va x n):
  Calls Tryz.prog 90 #[va] w fun e w'=>e=.returned (.int .i64 (sgn x))∧Below w.heap.size w w':=by
 have HA:=hide ha;have hsg:∀ neg s,va=.agg #[.bool neg,s]→(neg=true→x<0)∧(neg=false→0≤x):=fun neg s e=>by
  obtain⟨neg',s',zs,e',hl,hn,h0,hz,-⟩:=ha;rw [e] at e';simp only [Value.agg.injEq,Array.mk.injEq,List.cons.injEq,Value.bool.injEq,and_true] at e';obtain⟨rfl,rfl⟩:=e';have hlb:LB zs:=by obtain⟨_,_,_,_,_,h,_⟩:=hl;exact h
  have hp:=zF hlb;have hz0:=zbe hlb hn;constructor
  ·intro e;subst e;have h1:zs.length≠0:=fun h=>by simpa using h0 h
   have h2:lv zs≠0:=fun h=>h1 (hz0.1 h);simp at hz;omega
  ·intro e;subst e;simp at hz;omega
 obtain⟨an,sa,a,rfl,hla,-⟩:=ha;obtain⟨h1,h2⟩:=hsg an sa rfl;clear hsg;obtain⟨ao,acap,rfl,-⟩:=hla;by_cases hx:x=0
 ·have hz:=hide (decide_eq_true hx);have e:sgn x=0:=by unfold sgn;rw [if_pos hx]
  rw [e];go_enter Tryz.func90,Tryz.ntmps90;go_wp2_with fail;have hB:Below w.heap.size w (w.alloc (.cells #[.bool an,.slice ao a.length acap] 90)):=(zB _ _).alloc zL _;refine(zaT _ _ x n (HA.out.below hB zL)).mono ?_;rintro e w1 ⟨rfl,hb1⟩;rw [hz.out];have HF:=hide (hB.trans (hb1.mono hB.size));clear hb1 hB;go_wp2;go_ret;exact⟨rfl,HF.out⟩
 ·have hz:=hide (decide_eq_false hx);cases an
  ·have e:sgn x=1:=by unfold sgn;rw [if_neg hx,if_neg (by have:=h2 rfl;omega)]
   rw [e];go_enter Tryz.func90,Tryz.ntmps90;go_wp2_with fail;have hB:Below w.heap.size w (w.alloc (.cells #[.bool false,.slice ao a.length acap] 90)):=(zB _ _).alloc zL _;have hbx:=zl w (.bool false) (.slice ao a.length acap) 90 _ rfl;refine(zaT _ _ x n (HA.out.below hB zL)).mono ?_;rintro e w1 ⟨rfl,hb1⟩;rw [hz.out];obtain⟨c0,c1,-,-⟩:=hbx.later hb1 (by simp);have HF:=hide (hB.trans (hb1.mono hB.size));clear hb1 hB hbx;go_wp2;go_ret;exact⟨rfl,HF.out⟩
  ·have e:sgn x=-1:=by unfold sgn;rw [if_neg hx,if_pos (h1 rfl)]
   rw [e];go_enter Tryz.func90,Tryz.ntmps90;go_wp2_with fail;have hB:Below w.heap.size w (w.alloc (.cells #[.bool true,.slice ao a.length acap] 90)):=(zB _ _).alloc zL _;have hbx:=zl w (.bool true) (.slice ao a.length acap) 90 _ rfl;refine(zaT _ _ x n (HA.out.below hB zL)).mono ?_;rintro e w1 ⟨rfl,hb1⟩;rw [hz.out];obtain⟨c0,c1,-,-⟩:=hbx.later hb1 (by simp);have HF:=hide (hB.trans (hb1.mono hB.size));clear hb1 hB hbx;go_wp2;go_ret;exact⟨rfl,HF.out⟩
open Go
variable {P:Program}{ops:Array Oper}{Q:Exit→Act→World→Prop}{md:Region.Mode}{S:World→Prop}
theorem zhT (i d:Nat){oi:Oper}{listed:Array Bool}{a:Act}(hi:ops[i]?=some oi)(hd:oi.dst=some d)
  (hs:Region.noSelect ops=true) (hf:Region.free md ops listed i=true) (hr:(Region.ready md ops listed).contains i=true)
  (hQ:∀ c a w,Q (.panic c) (a.put (some d) v) w→Q (.panic c) a w) (hw:Region.wanted oi (yielded ops a.tmps)=true) (hy:∀ w,S w→(execOp a.eval oi).run P w=.ok (.value v) w) (hS:S w)
  (h:wpAnyH P md ops Q S fuel (listed.setIfInBounds i true) (a.put (some d) v) w):wpAnyH P md ops Q S (fuel+1) listed a w:=
 wpAnyH_take hi hs hf hr (by rw [hd];exact hQ) (.inl ⟨hw,hy⟩) hS (by rw [hd];exact h)
theorem ze (i d:Nat){oi:Oper}{listed:Array Bool}{a:Act}(h:wpAnyH P md ops Q S fuel (listed.setIfInBounds i true) (a.put (some d) v) w)(hi:ops[i]?=some oi:=by rfl)(hd:oi.dst=some d:=by rfl)(hs:Region.noSelect ops=true:=by kernel_rfl)(hf:Region.free md ops listed i=true:=by kernel_rfl)(hr:(Region.ready md ops listed).contains i=true:=by kernel_rfl)(hQ:∀ c a w,Q (.panic c) (a.put (some d) v) w→Q (.panic c) a w:=by exact fun _ _ _ h=>h)(hw:Region.wanted oi (yielded ops a.tmps)=true:=by rfl)(hy:∀ w,S w→(execOp a.eval oi).run P w=.ok (.value v) w:=by intro w hSw;(try dsimp only at hSw);go_simp;with_reducible rfl)(hS:S w:=by assumption):wpAnyH P md ops Q S (fuel+1) listed a w:=zhT i d hi hd hs hf hr hQ hw hy hS h
theorem zhU (i d:Nat){oi:Oper}{listed:Array Bool}{a:Act}(hi:ops[i]?=some oi)(hd:oi.dst=some d)
  (hs:Region.noSelect ops=true) (hf:Region.free md ops listed i=true) (hr:(Region.ready md ops listed).contains i=true)
  (hQ:∀ c a w,Q (.panic c) (a.put (some d) undef) w→Q (.panic c) a w) (hw:Region.wanted oi (yielded ops a.tmps)=false) (hS:S w)
  (h:wpAnyH P md ops Q S fuel (listed.setIfInBounds i true) (a.put (some d) undef) w):wpAnyH P md ops Q S (fuel+1) listed a w:=
 wpAnyH_take hi hs hf hr (by rw [hd];exact hQ) (.inr ⟨hw,rfl⟩) hS (by rw [hd];exact h)
theorem zj (i d:Nat){oi:Oper}{listed:Array Bool}{a:Act}(h:wpAnyH P md ops Q S fuel (listed.setIfInBounds i true) (a.put (some d) undef) w)(hi:ops[i]?=some oi:=by rfl)(hd:oi.dst=some d:=by rfl)(hs:Region.noSelect ops=true:=by kernel_rfl)(hf:Region.free md ops listed i=true:=by kernel_rfl)(hr:(Region.ready md ops listed).contains i=true:=by kernel_rfl)(hQ:∀ c a w,Q (.panic c) (a.put (some d) undef) w→Q (.panic c) a w:=by exact fun _ _ _ h=>h)(hw:Region.wanted oi (yielded ops a.tmps)=false:=by rfl)(hS:S w:=by assumption):wpAnyH P md ops Q S (fuel+1) listed a w:=zhU i d hi hd hs hf hr hQ hw hS h
end Go.Proofs.YtncamilanceahaaGreat
