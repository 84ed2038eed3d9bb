import Derived.Test.YtncamilanceahaaGreatNum
import Derived.Laws.CopyOwn
set_option maxRecDepth 100000
set_option maxHeartbeats 800000
namespace Go.Proofs.YtncamilanceahaaGreat
open Go.RowKit Limbs
variable{w W w' W':World}{g p:Nat}{zs:List Int}{a0 a1 r0 r1 b0 b1:Value}
theorem Box.drew{B:Nat}{u0 u1:Value}(h:Box w B u0 u1):Box w.drew B u0 u1:=h
structure Three (w W:World)(a0 a1 b0 b1 r0 r1:Value):Prop where
 fst:Box W w.heap.size a0 a1
 snd:Box W (w.heap.size+1) b0 b1
 res:Box W (w.heap.size+2) r0 r1
 below:Below w.heap.size w W
 size:w.heap.size+2<W.heap.size
theorem three (w:World)(a0 a1 b0 b1 r0 r1:Value)(t1 t2 t3:TypeId):Three w (((w.alloc (.cells #[a0,a1] t1)).alloc (.cells #[b0,b1] t2)).alloc (.cells #[r0,r1] t3)) a0 a1 b0 b1 r0 r1 where
 fst:=(zl w _ _ _ _ rfl).later (((zB _ _).alloc (by simp) _).alloc (by simp) _:Below (w.heap.size+1) _ _) (by omega)
 snd:=(zl (w.alloc _) _ _ _ _ (by simp)).later ((zB _ _).alloc (by simp) _:Below (w.heap.size+2) _ _) (by omega)
 res:=zl _ _ _ _ _ (by simp)
 below:=(((zB _ _).alloc zL _).alloc (by simp) _).alloc (by simp;omega) _
 size:=by simp
theorem Three.later(h:Three w W a0 a1 b0 b1 r0 r1)(hb:Below W.heap.size W W'):Three w W' a0 a1 b0 b1 r0 r1 where
 fst:=h.fst.later hb (by have:=h.size;omega)
 snd:=h.snd.later hb (by have:=h.size;omega)
 res:=h.res.later hb h.size
 below:=h.below.trans (hb.mono h.below.size)
 size:=zT h.size hb.size
theorem Three.drew(h:Three w W a0 a1 b0 b1 r0 r1):Three w W.drew a0 a1 b0 b1 r0 r1:=⟨h.fst,h.snd,h.res,h.below.drew,h.size⟩
theorem zjq (an bn:Bool)(p q:Int):(if (!(an==bn))=true then -(p*q) else p*q)=sg an p*sg bn q:=by
 unfold sg;cases an <;> cases bn <;> simp [Int.neg_mul,Int.mul_neg]
theorem zbK (w:World)(va vb:Value)(x y:Int)(n m:Nat)(ha:NumL w va x n)(hb:NumL w vb y m)(hn:n≤400000)(hm:m≤400000):
  Calls Tryz.prog 87 #[va,vb] w fun e w'=>NumPost w (x*y) (n+m) e w':=by
 obtain⟨an,sa,a,rfl,hla,nra,-,hx,hna⟩:=ha;obtain⟨bn,sb,b,rfl,hlb,nrb,-,hy,hnb⟩:=hb;have HA:=hide hla;have HB:=hide hlb;obtain⟨ao,acap,rfl,-⟩:=hla;obtain⟨bo,bcap,rfl,-⟩:=hlb;have HX:=hide hx;clear hx;have HY:=hide hy;clear hy;go_enter Tryz.func87,Tryz.ntmps87;go_wp2_with fail;have hT:=three w (.bool an) (.slice ao a.length acap) (.bool bn) (.slice bo b.length bcap) (.bool false) (.slice none 0 0) 90 90 90;generalize ((w.alloc (.cells #[.bool an,.slice ao a.length acap] 90)).alloc (.cells #[.bool bn,.slice bo b.length bcap] 90)).alloc (.cells #[.bool false,.slice none 0 0] 90)=W at *;obtain⟨k0,k1,-,-⟩:=hT.fst;obtain⟨l0,l1,-,-⟩:=hT.snd;have hn2:¬(w.heap.size+1+1=w.heap.size):=by omega
 have hn3:¬(w.heap.size=w.heap.size+1+1):=by omega
 go_region_held3 (fun w'=>w'.cell? ⟨w.heap.size,0,none⟩=some (.bool an)∧w'.cell? ⟨w.heap.size,1,none⟩=some (.slice ao a.length acap)∧w'.cell? ⟨w.heap.size+1,0,none⟩=some (.bool bn)∧w'.cell? ⟨w.heap.size+1,1,none⟩=some (.slice bo b.length bcap)) (go_keep)
  (first
   |(go_at_call 102;refine(zir _ _ _ a b (HA.out.below (by exact hT.below.drew) zL) (HB.out.below (by exact hT.below.drew) zL) (by omega) (by omega)).mono ?_;rintro e w1 ⟨v1,zs,rfl,hl1,hv1,hn1,hb1⟩;have HV:=hide hv1;clear hv1;have hT1:=hT.drew.later hb1;obtain⟨p0,p1,-,-⟩:=hT1.fst;obtain⟨q0,q1,-,-⟩:=hT1.snd)
   |(go_at_call 57;refine(zW _ _ _ zs (n+m) hl1 (by omega)).mono ?_;rintro e w2 ⟨r,rfl,hr,hb2⟩;have hT2:=hT1.later hb2;obtain⟨p0',p1',-,-⟩:=hT2.fst;obtain⟨q0',q1',-,-⟩:=hT2.snd;obtain⟨c0,c1,f0,f1⟩:=hT2.res;have HR:=hide hr;obtain⟨rn,rs,rz,rfl,hl,-⟩:=hr;obtain⟨ro,rcap,rfl,-⟩:=hl))
 have e:(if (!(an==bn))=true then -lv zs else lv zs)=x*y:=by rw [HV.out,zjq,HX.out,HY.out];rfl
 rw [e] at HR;have HF:=hide (boxed (w:=w) HR.out c0 c1 (by simp) (by simp) hT2.below (by omega));clear hT hT1 hT2 hb1 hb2 HR e;go_wp2;exact bodyPost_ret (v:=.agg #[.bool rn,.slice ro rz.length rcap]) (by simp [results,Tryz.results87,go_sem,c0,c1]) rfl HF.out
theorem zaT (w:World)(va:Value)(x:Int)(n:Nat)(ha:NumL w va x n):
  Calls Tryz.prog 72 #[va] w fun e w'=>e=.returned (.bool (decide (x=0)))∧Below w.heap.size w w':=by
 obtain⟨an,sa,a,rfl,hla,nra,hz,hx,hna⟩:=ha;obtain⟨ao,acap,rfl,-,hlen,hlb,-⟩:=hla;have e:decide (x=0)=decide (a.length=0):=by
  rw [decide_eq_decide,← zbe hlb nra,hx];split <;> omega
 rw [e];clear hx e;by_cases h0:a.length=0
 ·have h1:((a.length:Int)==0)=true:=by simp [h0]
  rw [decide_eq_true h0];clear h0;go_enter Tryz.func72,Tryz.ntmps72;go_wp2;go_ret;exact⟨rfl,(zB _ _).alloc zL _⟩
 ·have h1:((a.length:Int)==0)=false:=by rw [beq_eq_false_iff_ne];omega
  rw [decide_eq_false h0];go_enter Tryz.func72,Tryz.ntmps72;go_wp2;go_ret;exact⟨rfl,(zB _ _).alloc zL _⟩
theorem zcm (W:World)(lo hi:Int)(t:TypeId)(hlo:0≤lo∧lo<4294967296)(hhi:0≤hi∧hi<4294967296)(B:Nat)(hB:B=W.heap.size):Lim (W.alloc (.cells #[.int .u32 lo,.int .u32 hi] t)) (.slice (some ⟨B,0,none⟩) 2 2) [lo,hi]:=by
 subst hB;refine⟨_,2,rfl,Nat.le_refl _,by simp,zbY hlo (zbY hhi zaF),fun _=>⟨_,0,rfl,by simp,fun i hi=>?_⟩⟩;rcases(by simp at hi;omega:i=0∨i=1) with rfl | rfl <;> simp
theorem zcp (n:Int):lv [n%4294967296,n/4294967296]=n:=by simp only [lv];omega
theorem zaQ (w:World)(n:Int)(h0:-9223372036854775808≤n)(h1:n≤9223372036854775807):
  Calls Tryz.prog 38 #[.int .i64 n] w fun e w'=>NumPost w n 2 e w':=by
 by_cases hn:n<0
 ·have hw:IntKind.u64.wrap (-IntKind.u64.wrap n)=-n:=by rw [IntKind.wrap_u64,IntKind.wrap_u64];omega
  have hw2:-n/4294967296%4294967296=-n/4294967296:=by omega
  have HN:=hide (zcp (-n));go_enter Tryz.func38,Tryz.ntmps38;go_wp2_with fail;refine(zW _ _ _ [-n%4294967296,-n/4294967296] 2 (zcm _ _ _ _ (by omega) (by omega) _ (by simp)) zL).mono ?_;rintro e w2 ⟨r,rfl,hr,hb2⟩;obtain⟨c0,c1,f0,f1⟩:=Box.later (B:=w.heap.size) ((zl w _ _ _ _ rfl).later ((zB _ _).alloc (by simp) _:Below (w.heap.size+1) _ _) (by omega)) hb2 (by simp;omega);rw [HN.out,if_pos rfl,Int.neg_neg] at hr;have HF:=hide (fun rn rs (h:NumL w2 (.agg #[.bool rn,rs]) n 2)=>boxed (w:=w) h c0 c1 (by simp) (by simp) ((((zB _ _).alloc zL _).alloc (by simp) _).trans (hb2.mono (by simp;omega))) zL);have HR:=hide hr;obtain⟨rn,rs,rz,rfl,hl,-⟩:=hr;obtain⟨ro,rcap,rfl,-⟩:=hl;clear hb2;go_wp2;exact bodyPost_ret (v:=.agg #[.bool rn,.slice ro rz.length rcap]) (by simp [results,Tryz.results38,go_sem,c0,c1]) rfl (HF.out _ _ HR.out)
 ·have HN:=hide (zcp n);go_enter Tryz.func38,Tryz.ntmps38;go_wp2_with fail;refine(zW _ _ _ [n%4294967296,n/4294967296] 2 (zcm _ _ _ _ (by omega) (by omega) _ (by simp)) zL).mono ?_;rintro e w2 ⟨r,rfl,hr,hb2⟩;obtain⟨c0,c1,f0,f1⟩:=Box.later (B:=w.heap.size) ((zl w _ _ _ _ rfl).later ((zB _ _).alloc (by simp) _:Below (w.heap.size+1) _ _) (by omega)) hb2 (by simp;omega);rw [HN.out,if_neg (by decide)] at hr;have HF:=hide (fun rn rs (h:NumL w2 (.agg #[.bool rn,rs]) n 2)=>boxed (w:=w) h c0 c1 (by simp) (by simp) ((((zB _ _).alloc zL _).alloc (by simp) _).trans (hb2.mono (by simp;omega))) zL);have HR:=hide hr;obtain⟨rn,rs,rz,rfl,hl,-⟩:=hr;obtain⟨ro,rcap,rfl,-⟩:=hl;clear hb2;go_wp2;exact bodyPost_ret (v:=.agg #[.bool rn,.slice ro rz.length rcap]) (by simp [results,Tryz.results38,go_sem,c0,c1]) rfl (HF.out _ _ HR.out)
def isNum (neg:Bool)(zs:List Int):Bool:=if zs.length=0 then !neg else zs.getD (zs.length-1) 0 != 0
def checked (b:Bool):Value:=if b=true then .nilIface else .iface 66 (.int .i64 3)
theorem zgD (w:World)(neg:Bool)(s:Value)(zs:List Int)(hl:Lim w s zs):
  Calls Tryz.prog 70 #[.agg #[.bool neg,s]] w fun e w'=>e=.returned (checked (isNum neg zs))∧Below w.heap.size w w':=by
 obtain⟨ao,acap,rfl,-,hlen,hlb,hc⟩:=hl;by_cases h0:zs.length=0
 ·have hb:((zs.length:Int)==0)=true:=by simp [h0]
  have e:isNum neg zs=!neg:=by unfold isNum;rw [if_pos h0]
  rw [e];clear hc h0 e;cases neg
  ·go_enter Tryz.func70,Tryz.ntmps70;go_wp2;go_ret;exact⟨rfl,(zB _ _).alloc zL _⟩
  ·go_enter Tryz.func70,Tryz.ntmps70;go_wp2;go_ret;exact⟨rfl,(zB _ _).alloc zL _⟩
 ·have hb:((zs.length:Int)==0)=false:=by rw [beq_eq_false_iff_ne];omega
  obtain⟨b,off,rfl,hbb,hc⟩:=hc (by omega);have hcc:=hc (zs.length-1) (by omega);have hi:(zs.length:Int)-1=((zs.length-1:Nat):Int):=by omega
  obtain⟨k,hk⟩:∃ k,k=zs.length-1:=⟨_,rfl⟩;have hkl:k<zs.length:=by omega
  rw [← hk] at hi hcc;have e:isNum neg zs=(zs.getD k 0 != 0):=by unfold isNum;rw [if_neg h0,hk]
  rw [e];have hz:=hlb k;clear hc hk e;generalize zs.getD k 0=z at *;have hcc2:∀ o,(w.alloc o).cell? ⟨b,off+k,none⟩=some (.int .u32 z):=fun o=>((((zB w.heap.size w).alloc zL o).cell (p:=⟨b,off+k,none⟩) hbb)).trans hcc;by_cases hz0:z=0
  ·subst hz0;go_enter Tryz.func70,Tryz.ntmps70;go_wp2;go_ret;exact⟨rfl,(zB _ _).alloc zL _⟩
  ·have hz1:(z==0)=false:=by simp [hz0]
   have hz2:(z != 0)=true:=by simp [hz0]
   rw [hz2];go_enter Tryz.func70,Tryz.ntmps70;go_wp2;go_ret;exact⟨rfl,(zB _ _).alloc zL _⟩
theorem Tryz.sizeU32:(Tryz.prog.info? 112).map (·.size)=some 1:=by kernel_rfl
theorem Row.of_block{t:TypeId}(h:w.heap[g]?=some (.cells (zs.map (Value.int .u32)).toArray t (0,0)))(hlb:LB zs):Row w g zs:=by
 refine⟨?_,hlb,fun j hj=>⟨?_,frozen_of_row w g j _ t h⟩⟩
 ·rcases Nat.lt_or_ge g w.heap.size with hlt | hge
  ·exact hlt
  ·rw [Array.getElem?_eq_none hge] at h;cases h
 ·rw [cell_of_row w g j _ t (0,0) h];simp [List.getD_eq_getElem?_getD,hj]
theorem zim (m:Nat):madeCells #[Value.int .u32 0] m=((List.replicate m (0:Int)).map (Value.int .u32)).toArray:=by
 apply Array.ext_getElem?;intro j;by_cases hj:j<m
 ·simp [madeCells,hj,Nat.mod_one]
 ·simp [madeCells,hj]
def FreshPost (w:World)(zs:List Int)(e:Ending)(w':World):Prop:=
 e=.returned (.slice (some ⟨w.heap.size,0,none⟩) zs.length zs.length)∧Row w' w.heap.size zs∧Below w.heap.size w w'
theorem zgU (w:World)(ao:Option Addr)(cap:Nat)(zs:List Int)(hc:0<zs.length→∃ b off,ao=some ⟨b,off,none⟩∧b<w.heap.size∧∀ i,i<zs.length→w.cell? ⟨b,off+i,none⟩=some (.int .u32 (zs.getD i 0))):
  ∃ W,(∀ ty,(Builtin.copy_ #[88,88] ty #[.slice (some ⟨w.heap.size,0,none⟩) zs.length zs.length,.slice ao zs.length cap]).run Tryz.prog (w.alloc (.cells ((List.replicate zs.length (0:Int)).map (Value.int .u32)).toArray 112))=.ok (goInt zs.length) W) ∧
   W.heap[w.heap.size]?=some (.cells (zs.map (Value.int .u32)).toArray 112 (0,0))∧Below w.heap.size w W:=by
 by_cases h0:zs.length=0
 ·obtain rfl:zs=[]:=List.eq_nil_of_length_eq_zero h0;refine⟨_,fun ty=>?_,heap_alloc_new w _,(zB _ _).alloc zL _⟩;exact run_copy_none _ _ _ ty 112 _ _ _ _ _ _ Tryz.underlying88 Tryz.sizeU32 (by simp)
 ·obtain⟨b,off,rfl,hb,hcell⟩:=hc (by omega);have hsrc:∀ j v,(zs.map (Value.int .u32))[j]?=some v→(w.alloc (.cells ((List.replicate zs.length (0:Int)).map (Value.int .u32)).toArray 112)).cell? ((⟨b,off,none⟩:Addr).add j)=some v:=by
   intro j u hj;rw [List.getElem?_map] at hj;by_cases hjl:j<zs.length
   ·rw [List.getElem?_eq_getElem hjl] at hj;simp at hj;subst hj;have hadd:(⟨b,off,none⟩:Addr).add j=⟨b,off+j,none⟩:=by unfold Addr.add;split <;> simp_all
    rw [hadd,World.cell?_alloc_past _ _ _ hb,hcell j hjl];simp [List.getD_eq_getElem?_getD,hjl]
   ·rw [List.getElem?_eq_none (by omega)] at hj;cases hj
  have hrun:=fun ty=>run_copy_row (P:=Tryz.prog) (w.alloc (.cells ((List.replicate zs.length (0:Int)).map (Value.int .u32)).toArray 112)) 88 88 ty 112 w.heap.size 0 zs.length zs.length ⟨b,off,none⟩ zs.length cap _ 112 (zs.map (Value.int .u32)) Tryz.underlying88 Tryz.sizeU32 (heap_alloc_new w _) (by simp) hsrc (by simp) (ints_oneCell _ _);rw [zM] at hrun;refine⟨_,hrun,?_,below_setRow ((zB _ _).alloc zL _) zL _⟩;rw [setRow_heap _ _ _ _ _ _ (heap_alloc_new w _)];simp
theorem zci (w:World)(v:Value)(zs:List Int)(h:Lim w v zs):
  Calls Tryz.prog 88 #[v] w fun e w'=>FreshPost w zs e w':=by
 obtain⟨ao,cap,rfl,hcap,hlen,hlb,hc⟩:=h;obtain⟨W,hcp,hrow,hbe⟩:=zgU w ao cap zs hc;clear hc;have hmk:=zaR zs.length (by omega);rw [zim] at hmk;have HL:=hide (Row.of_block hrow hlb);have HB:=hide hbe;clear hrow hbe;generalize ((List.replicate zs.length (0:Int)).map (Value.int .u32)).toArray=C at *;go_enter Tryz.func88,Tryz.ntmps88;go_wp2;go_ret;exact⟨rfl,HL.out,HB.out⟩
theorem FreshPost.lim(hr:Row w' w.heap.size zs)(hl:zs.length≤1000000):Lim w' (.slice (some ⟨w.heap.size,0,none⟩) zs.length zs.length) zs:=hr.lim _ zL hl
structure Two (w W:World)(a0 a1 r0 r1:Value):Prop where
 fst:Box W w.heap.size a0 a1
 res:Box W (w.heap.size+1) r0 r1
 below:Below w.heap.size w W
 size:w.heap.size+1<W.heap.size
theorem two (w:World)(a0 a1 r0 r1:Value)(t1 t2:TypeId):Two w ((w.alloc (.cells #[a0,a1] t1)).alloc (.cells #[r0,r1] t2)) a0 a1 r0 r1 where
 fst:=(zl w _ _ _ _ rfl).later ((zB _ _).alloc (by simp) _:Below (w.heap.size+1) _ _) (by omega)
 res:=zl _ _ _ _ _ (by simp)
 below:=((zB _ _).alloc zL _).alloc (by simp) _
 size:=by simp
theorem Two.later(h:Two w W a0 a1 r0 r1)(hb:Below W.heap.size W W'):Two w W' a0 a1 r0 r1 where
 fst:=h.fst.later hb (by have:=h.size;omega)
 res:=h.res.later hb h.size
 below:=h.below.trans (hb.mono h.below.size)
 size:=zT h.size hb.size
theorem Two.drew(h:Two w W a0 a1 r0 r1):Two w W.drew a0 a1 r0 r1:=⟨h.fst,h.res,h.below.drew,h.size⟩
theorem zeS (w:World)(va:Value)(x:Int)(n:Nat)(ha:NumL w va x n)(hn:n≤1000000):
  Calls Tryz.prog 80 #[va] w fun e w'=>NumPost w (-x) n e w':=by
 obtain⟨an,sa,a,rfl,hla,nra,-,hx,hna⟩:=ha;have HA:=hide hla;obtain⟨ao,acap,rfl,-⟩:=hla;have HX:=hide hx;clear hx;go_enter Tryz.func80,Tryz.ntmps80;go_wp2_with fail;have hT:=two w (.bool an) (.slice ao a.length acap) (.bool false) (.slice none 0 0) 90 90;generalize (w.alloc (.cells #[.bool an,.slice ao a.length acap] 90)).alloc (.cells #[.bool false,.slice none 0 0] 90)=W at *;obtain⟨k0,k1,-,-⟩:=hT.fst
 go_region_held3 (fun w'=>w'.cell? ⟨w.heap.size,0,none⟩=some (.bool an)∧w'.cell? ⟨w.heap.size,1,none⟩=some (.slice ao a.length acap)) (go_keep)
  (first
   |(go_at_call 88;refine(zci _ _ a (HA.out.below (by exact hT.below.drew) zL)).mono ?_;rintro e w1 ⟨rfl,hr1,hb1⟩;have hT1:=hT.drew.later hb1;obtain⟨p0,p1,-,-⟩:=hT1.fst)
   |(go_at_call 57;refine(zW _ _ _ a n (FreshPost.lim hr1 (by omega)) hna).mono ?_;rintro e w2 ⟨r,rfl,hr,hb2⟩;have hT2:=hT1.later hb2;obtain⟨p0',p1',-,-⟩:=hT2.fst;obtain⟨c0,c1,f0,f1⟩:=hT2.res;have HR:=hide hr;obtain⟨rn,rs,rz,rfl,hl,-⟩:=hr;obtain⟨ro,rcap,rfl,-⟩:=hl))
 have e:(if (!an)=true then -lv a else lv a)=-x:=by rw [HX.out];cases an <;> simp
 rw [e] at HR;have HF:=hide (boxed (w:=w) HR.out c0 c1 (by simp) (by simp) hT2.below (by omega));clear hT hT1 hT2 hb1 hb2 HR e hr1;go_wp2;exact bodyPost_ret (v:=.agg #[.bool rn,.slice ro rz.length rcap]) (by simp [results,Tryz.results80,go_sem,c0,c1]) rfl HF.out
theorem zfB (w:World)(va vb:Value)(x y:Int)(n:Nat)(ha:NumL w va x n)(hb:NumL w vb y n)(hn:n≤900000):
  Calls Tryz.prog 91 #[va,vb] w fun e w'=>NumPost w (x-y) (n+1) e w':=by
 obtain⟨an,sa,a,rfl,hla,nra,-,hx,hna⟩:=ha;obtain⟨bn,sb,b,rfl,hlb,nrb,-,hy,hnb⟩:=hb;have HA:=hide hla;have HB:=hide hlb;obtain⟨ao,acap,rfl,-⟩:=hla;obtain⟨bo,bcap,rfl,-⟩:=hlb;have HX:=hide hx;clear hx;have HY:=hide hy;clear hy;go_enter Tryz.func91,Tryz.ntmps91;go_wp2_with fail;have hT:=three w (.bool an) (.slice ao a.length acap) (.bool bn) (.slice bo b.length bcap) (.bool false) (.slice none 0 0) 90 90 90;refine(zdP _ _ _ a _ _ b (HA.out.below hT.below zL) (HB.out.below hT.below zL) nra nrb n hna hnb hn).mono ?_;rintro e w2 ⟨r,rfl,hr,hb2⟩;have hT2:=hT.later hb2;obtain⟨c0,c1,f0,f1⟩:=hT2.res;have HR:=hide hr;obtain⟨rn,rs,rz,rfl,hl,-⟩:=hr;obtain⟨ro,rcap,rfl,-⟩:=hl;have e:sg an (lv a)+sg (!bn) (lv b)=x-y:=by rw [HX.out,HY.out];unfold sg;cases an <;> cases bn <;> simp <;> omega
 rw [e] at HR;have HF:=hide (boxed (w:=w) HR.out c0 c1 (by simp) (by simp) hT2.below (by simp));clear hT hT2 hb2 HR e;go_wp2;exact bodyPost_ret (v:=.agg #[.bool rn,.slice ro rz.length rcap]) (by simp [results,Tryz.results91,go_sem,c0,c1]) rfl HF.out
theorem zcu (hi lo:Int)(h0:0≤hi)(h1:hi<4294967296)(h2:0≤lo)(h3:lo<4294967296):bits BinOp.or IntKind.u64 (hi*4294967296) lo=hi*4294967296+lo:=by
 rw [u64_or _ _ (by omega) (by omega) (by omega) (by omega),nat_join 32 _ _ (by omega) (by omega)];omega
theorem zcA (hi lo:Int)(h0:0≤hi)(h1:hi<4294967296)(h2:0≤lo)(h3:lo<4294967296):0≤hi*4294967296+lo∧hi*4294967296+lo<18446744073709551616:=by omega
theorem zfa{hi lo y:Int}(h0:0≤hi)(h1:hi<y)(h2:0≤lo)(h3:lo<4294967296):0≤(hi*4294967296+lo)/y∧(hi*4294967296+lo)/y<4294967296:=by
 have hy:0<y:=by omega
 refine⟨Int.ediv_nonneg (by omega) (by omega),?_⟩;rw [Int.ediv_lt_iff_lt_mul hy];have:(hi+1)*4294967296≤y*4294967296:=Int.mul_le_mul_of_nonneg_right (by omega) (by decide);rw [Int.mul_comm 4294967296 y];omega
def Drawn (w w':World):Prop:=∃ nq,w'=w.drewN nq
theorem div32 (hi lo y:Int)(w:World)(h0:0≤hi)(h1:hi<y)(h2:0≤lo)(h3:lo<4294967296)(h4:y<4294967296):
  Calls Tryz.prog 105 #[.int .u32 hi,.int .u32 lo,.int .u32 y] w fun e w'=>e=.returned (.tuple #[.int .u32 ((hi*4294967296+lo)/y),.int .u32 ((hi*4294967296+lo)%y)])∧Drawn w w':=by
 have hor:=zcu hi lo h0 (by omega) h2 h3;have hsh:=zcA hi lo h0 (by omega) h2 h3;have hq:=zfa h0 h1 h2 h3;have hr0:=Int.emod_nonneg (hi*4294967296+lo) (show y≠0 by omega);have hr1:=Int.emod_lt_of_pos (hi*4294967296+lo) (show 0<y by omega);have hy1:(y != 0)=true:=by rw [bne_iff_ne];omega
 have hy2:decide (y≤hi)=false:=decide_eq_false (by omega);have hy3:(y==0)=false:=by rw [beq_eq_false_iff_ne];omega
 go_enter Tryz.func105,Tryz.ntmps105;go_wp2
 go_quiet (fail)
 go_wp2;go_ret2;exact⟨rfl,_,rfl⟩
theorem Row.drewN(h:Row w g zs)(n:Nat):Row (w.drewN n) g zs:=h
theorem zcX{r:Option Nat}(h:w.grownBy w' r)(n:Nat):w.grownBy (w'.drewN n) r:=⟨h.os,h.tape,h.output,h.size,h.block⟩
theorem zck(h:w.grownBy w' (some g))(k:Nat)(u:Value):w.grownBy (w'.setCell ⟨g,k,none⟩ u) (some g):=
 ⟨h.os,h.tape,h.output,by simpa using h.size,fun j hj hne=>by
  rw [heap_setCell_other _ _ _ _ (fun e=>hne (by simp [e]))];exact h.block j hj hne⟩
def DivInv (w wr:World)(g:Nat)(b:Int)(zs:List Int)(p:Nat)(r:Int)(qs:List Int):Prop:=
 qs.length=zs.length∧Row wr g qs∧w.grownBy wr (some g)∧qs.take p=zs.take p∧lv (zs.drop p)=b*lv (qs.drop p)+r
theorem DivInv.start(h:Row w g zs)(b:Int):DivInv w w g b zs zs.length 0 zs:=
 ⟨rfl,h,World.grownBy.refl _ _,rfl,by rw [List.drop_length];simp [lv]⟩
theorem zev{a b:List Int}{i:Nat}(h:a.take p=b.take p)(hi:i<p):a.getD i 0=b.getD i 0:=by
 rw [← zay a p i hi,h,zay b p i hi]
theorem DivInv.step{wr:World}{b:Int}{r:Int}{qs:List Int}(h:DivInv w wr g b zs (p+1) r qs)(hp:p<zs.length){q s:Int}(hq:0≤q∧q<4294967296)(hs:r*4294967296+zs.getD p 0=b*q+s)(nq:Nat):
  DivInv w ((wr.drewN nq).setCell ⟨g,p,none⟩ (.int .u32 q)) g b zs p s (qs.set p q):=by
 obtain⟨h1,h2,h3,h4,h5⟩:=h;refine⟨by rw [List.length_set];exact h1,(h2.drewN nq).store (by omega) hq,zck (zcX h3 nq) _ _,?_,?_⟩
 ·rw [zau _ _ _ _ zL];have:=congrArg (List.take p) h4
  rwa [List.take_take,List.take_take,Nat.min_eq_left (by omega)] at this
 ·rw [zE zs p hp,zE (qs.set p q) p (by rw [List.length_set];omega),zce _ _ _ _ (Nat.lt_succ_self p),zC _ _ _ _ (by omega),if_pos rfl];simp only [lv];rw [h5,Int.mul_add,Int.mul_add];have e:b *(4294967296*lv (qs.drop (p+1)))=4294967296 *(b*lv (qs.drop (p+1))):=by rw [Int.mul_left_comm]
  rw [e];omega
def DivOnePost (w:World)(g:Nat)(b:Int)(zs:List Int)(e:Ending)(w':World):Prop:=
 ∃ r qs,e=.returned (.int .u32 r)∧0≤r∧r<b∧qs.length=zs.length∧Row w' g qs∧w.grownBy w' (some g)∧lv zs=b*lv qs+r
theorem zg4 (w:World)(g cap:Nat)(zs:List Int)(b:Int)(hr:Row w g zs)(hl:zs.length≤1000000)(hb0:0<b)(hb1:b<4294967296):
  Calls Tryz.prog 93 #[.slice (some ⟨g,0,none⟩) zs.length cap,.int .u32 b] w fun e w'=>DivOnePost w g b zs e w':=by
 have HR:=hide hr;have hlb:=hr.2.1;clear hr;go_enter Tryz.func93,Tryz.ntmps93;go_wp2;go_loopw [5,10] (fun c i wr=>∃(k:Nat) (r:Int) (qs:List Int),k≤zs.length∧i=.int .i64 k∧c=.int .u32 r∧0≤r∧r<b∧DivInv w wr g b zs (zs.length-k) r qs) (fun _ i _=>zs.length-(intOf i).toNat)
 case atStart=>exact⟨0,0,zs,Nat.zero_le _,rfl,rfl,Int.le_refl _,hb0,DivInv.start HR.out b⟩
 case round=>
  obtain⟨k,r,qs,hk,rfl,rfl,hr0,hr1,hinv⟩:=hrel;by_cases hlt:k<zs.length
  ·obtain⟨p,hp⟩:∃ p,p=zs.length-1-k:=⟨_,rfl⟩;have hP:(zs.length:Int)-1-(k:Int)=(p:Int):=by omega
   have hpl:p<zs.length:=by omega
   rw [show zs.length-k=p+1 by omega] at hinv;have hz:=hlb p;obtain⟨hcell,hfr⟩:=hinv.2.1.2.2 p (by have:=hinv.1;omega);rw [zev hinv.2.2.2.1 (Nat.lt_succ_self p)] at hcell;have hst:=fun q s hq hs nq=>hinv.step hpl (q:=q) (s:=s) hq hs nq;have HK:=hide (show zs.length-(k+1)=p by omega);clear hp;generalize zs.getD p 0=z at *;go_wp2_with fail;refine(div32 r z b _ hr0 hr1 hz.1 hz.2 hb1).mono ?_;rintro e w' ⟨rfl,nq,rfl⟩;have hq:=zfa hr0 hr1 hz.1 hz.2;have hm0:=Int.emod_nonneg (r*4294967296+z) (show b≠0 by omega);have hm1:=Int.emod_lt_of_pos (r*4294967296+z) hb0;have HS:=hide (hst _ _ hq (Int.mul_ediv_add_emod (r*4294967296+z) b).symm nq);clear hst;generalize (r*4294967296+z)/b=q at *;generalize (r*4294967296+z)%b=s at *;go_wp2;go_roundw
   case rel=>exact⟨k+1,s,_,by omega,by go_num,rfl,hm0,hm1,by rw [HK.out];exact HS.out⟩
   case measure=>simp [intOf];omega
  ·obtain rfl:k=zs.length:=by omega
   rw [Nat.sub_self] at hinv;go_wp2;go_ret;exact⟨r,qs,rfl,hr0,hr1,hinv.1,hinv.2.1,hinv.2.2.1,by have:=hinv.2.2.2.2;simpa using this⟩
end Go.Proofs.YtncamilanceahaaGreat
