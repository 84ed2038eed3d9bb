import Derived.Test.YtdedolkgcdlmeaaGreatDoorRefF
import Derived.Test.YtdedolkgcdlmeaaGreatDoorRegions
import Derived.Test.YtdedolkgcdlmeaaGreatDoorHermite
import Derived.OwnWalk
import Derived.Test.YtdedolkgcdlmeaaGreatDoorRefC
import Derived.Laws.MakeOwn
namespace Go.Proofs.YtdedolkgcdlmeaaGreatDoor
open Go.RowKit Limbs Digs
theorem RowI.owns {w:World}{base g cap:Nat}{ds:List Int}(h:w.ownsRow base 3 1 (.slice (some ⟨g,0,none⟩) ds.length cap) ds.length (ds.map (Value.int .i64)))(hd:DB ds):RowI w g ds:=by
 refine⟨?_,hd,fun j hj=>⟨?_,h.frozenAt j⟩⟩
 ·rcases h.2 with⟨e,-⟩ |⟨g',cap',cur,e,hb,hg,-⟩
  ·cases e
  ·simp only [Value.slice.injEq,Option.some.injEq,Addr.mk.injEq,true_and,and_true] at e
   obtain⟨rfl,rfl⟩:=e
   exact⟨_,_,hg⟩
 ·rw [h.cellAt j (by omega)]
  simp [List.getD_eq_getElem?_getD,hj]
theorem RowI.take {w:World}{g:Nat}{zs:List Int}(h:RowI w g zs)(n:Nat):RowI w g (zs.take n):=by
 obtain⟨h1,h2,h3⟩:=h
 refine⟨h1,zbG h2 n,fun j hj=>?_⟩
 rw [List.length_take] at hj
 rw [zaM zs n j (by omega)]
 exact h3 j (by omega)
theorem RowI.later {w w':World}{g B:Nat}{zs:List Int}(h:RowI w g zs)(hb:Below B w w')(hg:g < B):RowI w' g zs:=by
 obtain⟨⟨cur,fz,h1⟩,h2,h3⟩:=h
 exact⟨⟨cur,fz,(hb.block g hg).trans h1⟩,h2,fun j hj=>⟨(hb.cell (p:=⟨g,j,none⟩) hg).trans (h3 j hj).1,(hb.frozen (p:=⟨g,j,none⟩) hg).trans (h3 j hj).2⟩⟩
structure IBox (w W:World)(a0 a1:Value):Prop where
 fst:BoxR W w.heap.size a0 a1
 res:Box W (w.heap.size+1) (.bool false) (.slice none 0 0)
 below:Below w.heap.size w W
 size:w.heap.size+1 < W.heap.size
theorem IBox.later {w W W':World}{a0 a1:Value}(h:IBox w W a0 a1){B:Nat}(hb:Below B W W')(hB:w.heap.size+1+1≤B):IBox w W' a0 a1 where
 fst:=h.fst.later hb (by omega)
 res:=h.res.later hb (by omega)
 below:=h.below.trans (hb.mono (by omega))
 size:=zT h.size hb.size
def IOut (w wr:World)(a0 a1:Value)(A:Int)(n:Nat)(g:Nat)(l:Value)(zs ls:List Int):Prop:=
 IBox w wr a0 a1∧RowI wr g zs∧Nrm zs∧zs.length≤n∧wr.ownsRow (g+1) 104 1 l ls.length (ls.map (Value.int .u32))∧LB ls∧A=lv ls+bp ls.length * dv zs ∧
  (dv zs=0→ls.length=0∨ls.getD (ls.length - 1) 0≠0)∧g < wr.heap.size∧lenOf l=ls.length∧ls.length≤n
theorem IOut.few {w wr:World}{a0 a1:Value}{A:Int}{n g:Nat}{l:Value}{zs ls:List Int}(h:IOut w wr a0 a1 A n g l zs ls)(hA:A < bp n)(hz:zs.length≠0):ls.length < n:=by
 obtain⟨-,h2,h3,-,-,h6,h7,-⟩:=h
 have h8:=zcv h2.2.1 h3 hz
 have h9:=zN h6
 have h10:=zD ls.length
 have e5:bp ls.length * 1≤bp ls.length * dv zs:=Int.mul_le_mul_of_nonneg_left (by omega) (by omega)
 by_cases hk:ls.length < n
 ·exact hk
 ·have:=zY (m:=n) (n:=ls.length) (by omega)
  omega
def IDiv (wr:World)(g:Nat)(zs:List Int)(p:Nat)(r:Int)(qs:List Int):Prop:=
 qs.length=zs.length∧RowI wr g qs∧qs.take p=zs.take p∧dv (zs.drop p)=4294967296 * dv (qs.drop p)+r∧0≤r∧r < 4294967296
theorem IDiv.start {wr:World}{g:Nat}{zs:List Int}(h:RowI wr g zs):IDiv wr g zs zs.length 0 zs:=
 ⟨rfl,h,rfl,by rw [List.drop_length];simp [dv],by decide,by decide⟩
theorem IDiv.step {wr:World}{g:Nat}{zs:List Int}{p:Nat}{r:Int}{qs:List Int}(h:IDiv wr g zs (p+1) r qs)(hp:p < zs.length){T:Int}(hT:T=r * 10000+qs.getD p 0):
  IDiv (wr.setCell ⟨g,p,none⟩ (.int .i64 (T / 4294967296))) g zs p (T % 4294967296) (qs.set p (T / 4294967296)):=by
 obtain⟨h1,h2,h4,h5,h6,h7⟩:=h
 have hz:=h2.2.1 p
 have he:qs.getD p 0=zs.getD p 0:=zfg h4 (Nat.lt_succ_self p)
 refine⟨by rw [List.length_set];exact h1,h2.store (by omega) (by omega),?_,?_,by omega,by omega⟩
 ·rw [zaw _ _ _ _ zL]
  have:=congrArg (List.take p) h4
  rwa [List.take_take,List.take_take,Nat.min_eq_left (by omega)] at this
 ·rw [zB zs p hp,zB (qs.set p (T / 4294967296)) p (by rw [List.length_set];omega),zbQ qs p (p+1) _ (Nat.lt_succ_self p),zK _ _ _ _ (by omega),if_pos rfl]
  simp only [dv]
  rw [h5,← he]
  omega
theorem IOut.step {w wr w1 w3:World}{a0 a1:Value}{A:Int}{n g m:Nat}{l l':Value}{zs ls qs:List Int}{r:Int}(h:IOut w wr a0 a1 A n g l zs ls)(hgw:w.heap.size+1+1≤g)(hA:A < bp n)(hz:zs.length≠0)
  (hd:IDiv w1 g zs 0 r qs) (hb1:Below g wr w1) (hg1:wr.grownBy w1 (some g))
  (hown:w3.ownsRow (g+1) 104 1 l' (ls.length+1) (ls.map (Value.int .u32) ++ [.int .u32 r])) (hg3:(w1.alloc (.cells #[.int .u32 r] 104)).grownBy w3 l.ownBlock)
  (hm:m≤qs.length) (hqm:dv (qs.take m)=dv qs) (hnm:Nrm (qs.take m)):IOut w w3 a0 a1 A n g l' (qs.take m) (ls ++ [r]):=by
 have hf:=h.few hA hz
 obtain⟨h1,h2,h3,h4,h5,h6,h7,h8,h9,h10,h11⟩:=h
 obtain⟨d1,d2,d3,d4,d5,d6⟩:=hd
 rw [List.drop_zero,List.drop_zero] at d4
 have hpos:=zcv h2.2.1 h3 hz
 have hown1:=h5.kept hg1 (.inr (fun e=>by have:=h5.lt _ e;omega))
 have hb3:Below (g+1) w1 w3:=zbJ hown1 (by have:=hg1.size;omega) hg3
 refine⟨(h1.later hb1 hgw).later hb3 (by omega),(d2.take m).later hb3 (by omega),hnm,by rw [List.length_take];omega,by rw [List.length_append,List.map_append];exact hown,zg8 h6 ⟨d5,d6⟩,?_,?_,?_,?_,by simp;omega⟩
 ·rw [zjE,hqm,h7,d4,List.length_append,List.length_singleton]
  simp only [bp]
  rw [Int.mul_add]
  have e:bp ls.length *(4294967296 * dv qs)=4294967296 * bp ls.length * dv qs:=by rw [Int.mul_left_comm,Int.mul_assoc]
  rw [e]
  omega
 ·intro h0
  right
  rw [hqm] at h0
  rw [List.length_append,List.length_singleton,Nat.add_sub_cancel,List.getD_eq_getElem?_getD,List.getElem?_append_right zL,Nat.sub_self]
  simp
  omega
 ·have:=hb3.size;have:=hg1.size;omega
 ·rw [zdB hown];simp
theorem zkR {s d:Int}{k:Nat}(hs:(k=0∧s=0)∨(0 < k∧(s=1∨s=-1)))(hk:k=0→d=0):(if decide (s < 0)=true then -d else d)=s * d:=by
 rcases hs with⟨h1,h2⟩ |⟨-,h2 | h2⟩
 ·subst h2;rw [hk h1];simp
 ·subst h2;simp
 ·subst h2;simp
theorem IOut.done {w wr:World}{sa A:Int}{a1:Value}{k n g:Nat}{l:Value}{zs ls:List Int}(h:IOut w wr (.int .i64 sa) a1 A n g l zs ls)(hn:n≤1000000)(hz:zs.length=0)(hs:(k=0∧sa=0)∨(0 < k∧(sa=1∨sa=-1)))(hk:k=0→A=0)(hk':A=0→k=0):
  NumL wr (.agg #[.bool (decide (sa < 0)),l]) (sa * A) n:=by
 obtain⟨h1,h2,h3,h4,h5,h6,h7,h8,h9,h10,h11⟩:=h
 have e0:zs=[]:=List.eq_nil_of_length_eq_zero hz
 subst e0
 have e:A=lv ls:=by simpa [dv] using h7
 refine⟨_,l,ls,rfl,Lim.owns h5 h6 (by omega),h8 rfl,fun h0=>?_,?_,h11⟩
 ·have:A=0:=by rw [e,List.eq_nil_of_length_eq_zero h0];rfl
  have:=hk' this
  have:sa=0:=by omega
  subst this;rfl
 ·rw [← e,zkR hs hk]
theorem zhZ {sa sb A B:Int}(ha:(A=0∧sa=0)∨(0 < A∧(sa=1∨sa=-1)))(hb:(B=0∧sb=0)∨(0 < B∧(sb=1∨sb=-1)))(hne:sa≠sb):cmpI (sa * A) (sb * B)=if sa < sb then -1 else 1:=by
 unfold cmpI
 rcases ha with⟨rfl,rfl⟩ |⟨h1,rfl | rfl⟩ <;> rcases hb with⟨rfl,rfl⟩ |⟨h2,rfl | rfl⟩ <;>(repeat' split) <;> omega
theorem zhY {s A B:Int}(ha:(A=0∧s=0)∨(0 < A∧(s=1∨s=-1)))(hb:(B=0∧s=0)∨(0 < B∧(s=1∨s=-1))):s * cmpI A B=cmpI (s * A) (s * B):=by
 unfold cmpI
 rcases ha with⟨rfl,rfl⟩ |⟨h1,rfl | rfl⟩ <;>(repeat' split) <;> omega
theorem zhT (a b:Int):-1≤cmpI a b∧cmpI a b≤1:=by unfold cmpI;repeat' split;all_goals omega
theorem zbz {s:Int}{sl:Value}{ds:List Int}(hd:DB ds)(hn:Nrm ds)(h:(ds.length=0∧s=0∧sl=.slice none 0 0)∨(0 < ds.length∧(s=1∨s=-1))):(dv ds=0∧s=0)∨(0 < dv ds∧(s=1∨s=-1)):=by
 rcases h with⟨h1,h2,-⟩ |⟨h1,h2⟩
 ·exact .inl ⟨(zdl hd hn).2 h1,h2⟩
 ·exact .inr ⟨zcv hd hn (by omega),h2⟩
set_option maxRecDepth 100000 in
set_option maxHeartbeats 1600000 in
theorem zhU (w:World)(va vb:Value)(x y:Int)(n m:Nat)(ha:NumR w va x n)(hb:NumR w vb y m):
  Calls Tryz.prog 90 #[va,vb] w fun e w'=>CmpPost w (cmpI x y) e w':=by
 obtain⟨sa,la,a,rfl,hla,nra,hx,hsa,hna⟩:=ha
 obtain⟨sb,lb,b,rfl,hlb,nrb,hy,hsb,hnb⟩:=hb
 have HA:=hide hla;have HB:=hide hlb
 obtain⟨ao,acap,rfl,-,-,adb,-⟩:=hla
 obtain⟨bo,bcap,rfl,-,-,bdb,-⟩:=hlb
 have h1:=zbz adb nra hsa
 have h2:=zbz bdb nrb hsb
 clear hsa hsb
 subst hx hy
 have hW:Below w.heap.size w ((w.alloc (.cells #[.int .i64 sa,.slice ao a.length acap] 40)).alloc (.cells #[.int .i64 sb,.slice bo b.length bcap] 40)):=((Below.refl _ _).alloc zL _).alloc (by simp) _
 have HW:=hide hW
 clear hW
 by_cases hss:sa=sb
 ·subst hss
  have HE:=hide (zhY h1 h2)
  have hs1:sa=0∨sa=1∨sa=-1:=by omega
  clear h1 h2
  go_enter Tryz.func90,Tryz.ntmps90
  have b1:Box ((w.alloc (.cells #[.int .i64 sa,.slice ao a.length acap] 40)).alloc (.cells #[.int .i64 sa,.slice bo b.length bcap] 40)) w.heap.size (.int .i64 sa) (.slice ao a.length acap):=(zj w _ _ _ _ rfl).later ((Below.refl _ _).alloc (by simp) _:Below (w.heap.size+1) _ _) (by omega)
  have b2:Box ((w.alloc (.cells #[.int .i64 sa,.slice ao a.length acap] 40)).alloc (.cells #[.int .i64 sa,.slice bo b.length bcap] 40)) (w.heap.size+1) (.int .i64 sa) (.slice bo b.length bcap):=zj _ _ _ _ _ (by simp)
  have l1:w.heap.size+1 < ((w.alloc (.cells #[.int .i64 sa,.slice ao a.length acap] 40)).alloc (.cells #[.int .i64 sa,.slice bo b.length bcap] 40)).heap.size:=by simp
  go_wp2_with fail
  generalize (w.alloc (.cells #[.int .i64 sa,.slice ao a.length acap] 40)).alloc (.cells #[.int .i64 sa,.slice bo b.length bcap] 40)=W at *
  have B1:=hide b1;have B2:=hide b2
  obtain⟨k0,k1,-,-⟩:=b1
  obtain⟨l0,l2,-,-⟩:=b2
  go_region_held3 (fun w'=>w'.cell? ⟨w.heap.size,0,none⟩=some (.int .i64 sa)∧w'.cell? ⟨w.heap.size,1,none⟩=some (.slice ao a.length acap)∧w'.cell? ⟨w.heap.size+1,0,none⟩=some (.int .i64 sa)∧w'.cell? ⟨w.heap.size+1,1,none⟩=some (.slice bo b.length bcap)) (go_keep)
    (first |(go_at_call 102;refine(zda _ _ _ a b (HA.out.below HW.out.drew zL) (HB.out.below HW.out.drew zL) nra nrb).mono ?_;rintro e w1 ⟨rfl,hb1⟩;have C1:=hide (B1.out.drew.later hb1 (by show _ < W.heap.size;omega));have C2:=hide (B2.out.drew.later hb1 (by show _ < W.heap.size;omega));have HW1:=hide (HW.out.drew.trans (hb1.mono HW.out.size));clear hb1;obtain⟨p0,p1,-,-⟩:=C1.out;obtain⟨q0,q1,-,-⟩:=C2.out))
  have hc:=zhT (dv a) (dv b)
  have hm:IntKind.i64.wrap (sa * cmpI (dv a) (dv b))=sa * cmpI (dv a) (dv b):=by rw [IntKind.wrap_i64];rcases hs1 with h | h | h <;> subst h <;> omega
  have HE':=hide (show CmpPost w (cmpI (sa * dv a) (sa * dv b)) (.returned (.int .i64 (sa * cmpI (dv a) (dv b)))) w1 from⟨by rw [HE.out],HW1.out⟩)
  clear HE
  generalize cmpI (dv a) (dv b)=z at *
  go_wp2
  go_ret
  show CmpPost _ _ (.returned (.int .i64 (IntKind.i64.wrap (sa * z)))) _
  rw [hm]
  exact HE'.out
 ·have hd1:(sa == sb)=false:=by simp [hss]
  have hd2:(sa != sb)=true:=by simp [hss]
  have HE:=hide (zhZ h1 h2 hss)
  clear h1 h2
  by_cases hlt:sa < sb
  ·rw [HE.out,if_pos hlt]
   clear HE
   go_enter Tryz.func90,Tryz.ntmps90
   go_wp2
   go_ret
   exact⟨rfl,HW.out⟩
  ·rw [HE.out,if_neg hlt]
   clear HE
   go_enter Tryz.func90,Tryz.ntmps90
   go_wp2
   go_ret
   exact⟨rfl,HW.out⟩
set_option maxRecDepth 100000 in
set_option maxHeartbeats 1600000 in
theorem zcy (w:World)(va vb:Value)(x y:Int)(n:Nat)(ha:NumR w va x n)(hb:NumR w vb y n)(hn:n < 1000000000000):
  Calls Tryz.prog 109 #[va,vb] w fun e w'=>RefPost w (x - y) (n+1) e w':=by
 have HA:=hide ha;have HB:=hide hb
 obtain⟨sa,ao,al,ac,rfl,-⟩:=ha.form
 obtain⟨sb,bo,bl,bc,rfl,-⟩:=hb.form
 clear ha hb
 go_enter Tryz.func109,Tryz.ntmps109
 go_wp2_with fail
 have hT:=hide (threeR w (.int .i64 sa) (.slice ao al ac) (.int .i64 sb) (.slice bo bl bc) (.int .i64 0) (.slice none 0 0))
 generalize ((w.alloc (.cells #[.int .i64 sa,.slice ao al ac] 40)).alloc (.cells #[.int .i64 sb,.slice bo bl bc] 40)).alloc (.cells #[.int .i64 0,.slice none 0 0] 40)=W at *
 obtain⟨k0,k1,-,-⟩:=hT.out.fst.box
 obtain⟨l0,l1,-,-⟩:=hT.out.snd.box
 have hn2:¬(w.heap.size+1+1=w.heap.size):=by omega
 have hn3:¬(w.heap.size=w.heap.size+1+1):=by omega
 go_region_held3 (fun w'=>w'.cell? ⟨w.heap.size,0,none⟩=some (.int .i64 sa)∧w'.cell? ⟨w.heap.size,1,none⟩=some (.slice ao al ac)∧w'.cell? ⟨w.heap.size+1,0,none⟩=some (.int .i64 sb)∧w'.cell? ⟨w.heap.size+1,1,none⟩=some (.slice bo bl bc)) (go_keep)
   (first
    |(go_at_call 60;refine(zaY _ _ y n (HB.out.below hT.out.drew.below zL)).mono ?_;rintro e w1 ⟨v1,rfl,hv1,hb1⟩;have hT1:=hide (hT.out.drew.later hb1);obtain⟨s1,o1,m1,c1,rfl,-⟩:=hv1.form;have HV:=hide hv1;clear hv1 hb1;obtain⟨p0,p1,-,-⟩:=hT1.out.fst.box;obtain⟨q0,q1,-,-⟩:=hT1.out.snd.box)
    |(go_at_call 61;refine(zcK _ _ _ x (-y) n (HA.out.below hT1.out.below zL) HV.out hn).mono ?_;rintro e w2 ⟨r,rfl,hr,hb2⟩;have hT2:=hide (hT1.out.later hb2);clear hb2;obtain⟨p0',p1',-,-⟩:=hT2.out.fst.box;obtain⟨q0',q1',-,-⟩:=hT2.out.snd.box;obtain⟨c0,c1,f0,f1⟩:=hT2.out.res.box;rw [← Int.sub_eq_add_neg] at hr;have HR:=hide hr;obtain⟨sr,o,l,c,rfl,-⟩:=hr.form;clear hr))
 have HF:=hide (boxedR (w:=w) HR.out hT2.out.res hT2.out.below (by omega))
 clear hT1 hT2 HR HV
 go_wp2
 exact bodyPost_ret (v:=.agg #[.int .i64 sr,.slice o l c]) (by simp [results,Tryz.results109,go_sem,c0,c1]) rfl HF.out
def faulty (b:Bool):Int:=if b=true then 0 else 3
theorem zik (zs:List Int)(k j:Nat)(z:Int)(h:k < zs.length):(zs.set k z).getD j 0=if j=k then z else zs.getD j 0:=by
 rw [List.getD_eq_getElem?_getD,List.getElem?_set]
 by_cases hk:k=j
 ·subst hk;simp [h]
 ·rw [if_neg hk,if_neg (fun e=>hk e.symm),List.getD_eq_getElem?_getD]
def UInv (w wr:World)(base:Nat)(v:Value)(zs:List Int)(c0:Int)(k:Nat)(cy:Int)(ys:List Int):Prop:=
 wr.ownsRow base 3 1 v zs.length (ys.map (Value.int .i64))∧ys.length=zs.length∧DB ys∧ys.drop k=zs.drop k∧dv (ys.take k)+dp k * cy=4294967296 * dv (zs.take k)+c0∧0≤cy∧cy < 4294967296∧Below base w wr
theorem UInv.step {w wr:World}{base g cap:Nat}{zs ys:List Int}{c0 cy T:Int}{k:Nat}(h:UInv w wr base (.slice (some ⟨g,0,none⟩) zs.length cap) zs c0 k cy ys)(hk:k < zs.length)(hT:T=ys.getD k 0 * 4294967296+cy):
  UInv w (wr.setCell ⟨g,k,none⟩ (.int .i64 (T % 10000))) base (.slice (some ⟨g,0,none⟩) zs.length cap) zs c0 (k+1) (T / 10000) (ys.set k (T % 10000)):=by
 obtain⟨h1,h2,h3,h4,h5,h6,h7,h8⟩:=h
 have hz:=h3 k
 have hst:=h1.stored k (.int .i64 (T % 10000))
 have he:ys.getD k 0=zs.getD k 0:=by
  have e1:=zB ys k (by omega)
  have e2:=zB zs k hk
  rw [h4] at e1
  rw [e1] at e2
  exact(List.cons.injEq _ _ _ _ ▸ e2).1
 have hlt:=h1.lt g rfl
 refine⟨by rw [List.map_set];exact hst.1,by simp [h2],zee h3 k (by omega),?_,?_,by omega,by omega,h8.setCell (by simp;omega) _⟩
 ·rw [zbQ ys k (k+1) _ (Nat.lt_succ_self k)]
  have e1:=congrArg (List.drop 1) h4
  rwa [List.drop_drop,List.drop_drop] at e1
 ·rw [zaC,zaw ys k k _ zL,zik _ _ _ _ (by omega),if_pos rfl,zaC]
  simp only [dp]
  have e1:10000 * dp k *(T / 10000)=dp k *(10000 *(T / 10000)):=by rw [Int.mul_comm 10000,Int.mul_assoc]
  have e2:dp k *(T % 10000)+dp k *(10000 *(T / 10000))=dp k * T:=by rw [← Int.mul_add];congr 1;omega
  have e3:dp k * T=dp k *(4294967296 * ys.getD k 0)+dp k * cy:=by rw [hT,Int.mul_add,Int.mul_comm (ys.getD k 0)]
  have e4:dp k *(4294967296 * ys.getD k 0)=4294967296 *(dp k * zs.getD k 0):=by rw [he,Int.mul_left_comm]
  rw [e1,Int.mul_add]
  omega
theorem UInv.fin {w wr:World}{base:Nat}{v:Value}{zs ys:List Int}{c0 cy:Int}(h:UInv w wr base v zs c0 zs.length cy ys):dv ys+dp zs.length * cy=4294967296 * dv zs+c0:=by
 have:=h.2.2.2.2.1
 rw [List.take_length,zbj ys (by rw [h.2.1];exact Nat.le_refl _)] at this
 exact this
def VInv (w wr:World)(base:Nat)(n:Nat)(T:Int)(cy:Int)(d:Value)(ds:List Int):Prop:=
 wr.ownsRow base 3 1 d ds.length (ds.map (Value.int .i64))∧DB ds∧T=dv ds+dp ds.length * cy∧0≤cy∧(∃ j:Nat,j≤3∧ds.length+j≤n+3∧cy < dp j)∧Below base w wr
theorem UInv.behind {w wr:World}{base:Nat}{v:Value}{zs ys:List Int}{c0 cy:Int}(h:UInv w wr base v zs c0 zs.length cy ys):VInv w wr base zs.length (4294967296 * dv zs+c0) cy v ys:=by
 have hf:=h.fin
 obtain⟨h1,h2,h3,h4,h5,h6,h7,h8⟩:=h
 have e3:dp 3=1000000000000:=by decide
 exact⟨by rw [h2];exact h1,h3,by rw [h2];exact hf.symm,h6,⟨3,Nat.le_refl _,by omega,by omega⟩,h8⟩
theorem VInv.step {w wr w3:World}{base n:Nat}{T cy r:Int}{d d':Value}{ds:List Int}(h:VInv w wr base n T cy d ds)(hb:base≤wr.heap.size)(hc:cy≠0)(hr:cy % 10000=r)
  (hown:w3.ownsRow base 3 1 d' (ds.length+1) (ds.map (Value.int .i64) ++ [.int .i64 r])) (hg:(wr.alloc (.cells #[.int .i64 r] 3)).grownBy w3 d.ownBlock):VInv w w3 base n T (cy / 10000) d' (ds ++ [r]):=by
 obtain⟨h1,h2,h3,h4,⟨j,hj,hl,hlt⟩,h6⟩:=h
 have hbb:=zbJ h1 hb hg
 refine⟨by rw [List.length_append,List.map_append];exact hown,zci h2 (by omega),?_,by omega,?_,h6.trans hbb⟩
 ·rw [zcw,List.length_append,List.length_singleton,h3]
  simp only [dp]
  have e:10000 * dp ds.length *(cy / 10000)=dp ds.length *(10000 *(cy / 10000)):=by rw [Int.mul_comm 10000,Int.mul_assoc]
  rw [e,Int.add_assoc,← Int.mul_add]
  congr 2
  omega
 ·match j,hj,hl,hlt with
  | 0,_,_,hlt=>simp only [dp] at hlt;omega
  | j+1,hj,hl,hlt=>exact⟨j,by omega,by simp;omega,by simp only [dp] at hlt;omega⟩
theorem VInv.few {w wr:World}{base n:Nat}{T cy:Int}{d:Value}{ds:List Int}(h:VInv w wr base n T cy d ds):ds.length≤n+3:=by
 obtain⟨_,_,_,_,⟨j,_,hl,_⟩,_⟩:=h
 omega
def FInv (w wr:World)(vl:Value)(neg:Bool)(ls:List Int)(i:Nat)(d:Value)(ds:List Int):Prop:=
 wr.ownsRow (w.heap.size+2) 3 1 d ds.length (ds.map (Value.int .i64))∧DB ds∧dv ds=lv (ls.drop i)∧ds.length≤3 *(ls.length - i)∧Box wr w.heap.size (.bool neg) vl∧BoxR wr (w.heap.size+1) (.int .i64 0) (.slice none 0 0)∧Below w.heap.size w wr
theorem FInv.size {w wr:World}{vl d:Value}{neg:Bool}{ls ds:List Int}{i:Nat}(h:FInv w wr vl neg ls i d ds):w.heap.size+2≤wr.heap.size:=by
 have:=h.2.2.2.2.2.1.lt
 omega
theorem FInv.inner {w wr:World}{vl d:Value}{neg:Bool}{ls ds:List Int}{i:Nat}(h:FInv w wr vl neg ls i d ds){c:Int}(hc:0≤c∧c < 4294967296):UInv wr wr (w.heap.size+2) d ds c 0 c ds:=
 ⟨h.1,rfl,h.2.1,rfl,by simp [dv,dp],hc.1,hc.2,Below.refl _ _⟩
theorem FInv.next {w wr w2:World}{vl d d2:Value}{neg:Bool}{ls ds ds2:List Int}{i:Nat}(h:FInv w wr vl neg ls (i+1) d ds)(hi:i < ls.length)(hv:VInv wr w2 (w.heap.size+2) ds.length (4294967296 * dv ds+ls.getD i 0) 0 d2 ds2):FInv w w2 vl neg ls i d2 ds2:=by
 have hf:=hv.few
 obtain⟨h1,h2,h3,h4,h5,h6,h7⟩:=h
 obtain⟨k1,k2,k3,-,-,k6⟩:=hv
 refine⟨k1,k2,?_,by omega,h5.later k6 (by omega),h6.later k6 (by omega),h7.trans (k6.mono (by omega))⟩
 rw [zB ls i hi]
 simp only [lv]
 rw [← h3]
 omega
def Typed (W:World)(row:Option Nat)(ts:List TypeId):Prop:=∀ g,row=some g→∃ cur t fz,W.heap[g]?=some (.cells cur t fz)∧t ∉ ts
theorem Typed.none (W:World)(ts:List TypeId):Typed W none ts:=fun _ h=>by cases h
theorem Dig.grown {W W':World}{row:Option Nat}{v:Value}{ds:List Int}(h:Dig W v ds)(hg:W.grownBy W' row)(hr:Typed W row [3]):Dig W' v ds:=by
 obtain⟨ao,cap,hv,h1,h2,h3,h4⟩:=h
 refine⟨ao,cap,hv,h1,h2,h3,fun h0=>?_⟩
 obtain⟨b,off,cur,fz,e,hb,hc⟩:=h4 h0
 have hne:some b≠row:=fun e=>by
  obtain⟨cur',t,fz',h5,h6⟩:=hr b e.symm
  rw [hb] at h5
  simp only [Option.some.injEq,Obj.cells.injEq] at h5
  exact h6 (by rw [← h5.2.1];exact List.mem_singleton.2 rfl)
 exact⟨b,off,cur,fz,e,(hg.block b (zw hb) hne).trans hb,fun i hi=>hg.cell (hc i hi) hne⟩
theorem NumR.grown {W W':World}{row:Option Nat}{v:Value}{z:Int}{n:Nat}(h:NumR W v z n)(hg:W.grownBy W' row)(hr:Typed W row [3]):NumR W' v z n:=by
 obtain⟨s,sl,ds,h1,h2,h3⟩:=h
 exact⟨s,sl,ds,h1,h2.grown hg hr,h3⟩
structure Rn where
 s:Int
 o:Option Addr
 l:Nat
 c:Nat
def Rn.val (r:Rn):Value:=.agg #[.int .i64 r.s,.slice r.o r.l r.c]
def rcells (p:Rn × Int):List Value:=[.int .i64 p.1.s,.slice p.1.o p.1.l p.1.c]
def RowR (W:World)(v:Value)(zs:List Int)(n:Nat):Prop:=
 ∃ ao cap,v=.slice ao zs.length cap∧zs.length≤cap∧(0 < zs.length→∃ b cur fz,ao=some ⟨b,0,none⟩∧W.heap[b]?=some (.cells cur 40 fz) ∧
  ∀ i,i < zs.length→∃(s:Int) (o:Option Addr) (l c:Nat),W.cell? ⟨b,i * 2,none⟩=some (.int .i64 s)∧W.cell? ⟨b,i * 2+1,none⟩=some (.slice o l c)∧NumR W (.agg #[.int .i64 s,.slice o l c]) (zs.getD i 0) n)
theorem RowR.below {B:Nat}{W W':World}{v:Value}{zs:List Int}{n:Nat}(h:RowR W v zs n)(hb:Below B W W')(hB:W.heap.size≤B):RowR W' v zs n:=by
 obtain⟨ao,cap,hv,h1,h2⟩:=h
 refine⟨ao,cap,hv,h1,fun h0=>?_⟩
 obtain⟨b,cur,fz,e,hh,hc⟩:=h2 h0
 have hlt:=zw hh
 refine⟨b,cur,fz,e,(hb.block _ (by omega)).trans hh,fun i hi=>?_⟩
 obtain⟨s,o,l,c,h3,h4,h5⟩:=hc i hi
 exact⟨s,o,l,c,(hb.cell (p:=⟨b,i * 2,none⟩) (by show b < B;omega)).trans h3,(hb.cell (p:=⟨b,i * 2+1,none⟩) (by show b < B;omega)).trans h4,h5.below hb hB⟩
theorem RowR.grown {W W':World}{row:Option Nat}{v:Value}{zs:List Int}{n:Nat}(h:RowR W v zs n)(hg:W.grownBy W' row)(hr:Typed W row [3,40]):RowR W' v zs n:=by
 obtain⟨ao,cap,hv,h1,h2⟩:=h
 refine⟨ao,cap,hv,h1,fun h0=>?_⟩
 obtain⟨b,cur,fz,e,hh,hc⟩:=h2 h0
 have hr':Typed W row [3]:=fun g hg=>by
  obtain⟨cur',t,fz',h5,h6⟩:=hr g hg
  exact⟨cur',t,fz',h5,fun h=>h6 (by rw [List.mem_singleton] at h;rw [h];exact List.mem_cons_self)⟩
 have hne:some b≠row:=fun e=>by
  obtain⟨cur',t,fz',h5,h6⟩:=hr b e.symm
  rw [hh] at h5
  simp only [Option.some.injEq,Obj.cells.injEq] at h5
  exact h6 (by rw [← h5.2.1];exact List.mem_cons_of_mem _ (List.mem_singleton.2 rfl))
 refine⟨b,cur,fz,e,(hg.block b (zw hh) hne).trans hh,fun i hi=>?_⟩
 obtain⟨s,o,l,c,h3,h4,h5⟩:=hc i hi
 exact⟨s,o,l,c,hg.cell h3 hne,hg.cell h4 hne,h5.grown hg hr'⟩
theorem RowR.at {W:World}{v:Value}{zs:List Int}{n:Nat}(h:RowR W v zs n)(i:Nat)(hi:i < zs.length):∃ b cap,v=.slice (some ⟨b,0,none⟩) zs.length cap∧b < W.heap.size∧∃(s:Int) (o:Option Addr) (l c:Nat),W.cell? ⟨b,i * 2,none⟩=some (.int .i64 s)∧W.cell? ⟨b,i * 2+1,none⟩=some (.slice o l c)∧NumR W (.agg #[.int .i64 s,.slice o l c]) (zs.getD i 0) n:=by
 obtain⟨ao,cap,rfl,-,h2⟩:=h
 obtain⟨b,cur,fz,rfl,hh,hc⟩:=h2 (by omega)
 exact⟨b,cap,rfl,zw hh,hc i hi⟩
def GrowR (W:World)(base:Nat)(v:Value)(ps:List (Rn × Int))(n:Nat):Prop:=
 W.ownsRow base 40 2 v ps.length (ps.flatMap rcells)∧∀ p∈ps,NumR W p.1.val p.2 n
theorem GrowR.nil (W:World)(base n:Nat):GrowR W base (.slice none 0 0) [] n:=⟨World.ownsRow_nil _ _ _ _,fun _ h=>by cases h⟩
theorem zdR {W:World}{base:Nat}{e:TypeId}{size:Nat}{v:Value}{n:Nat}{xs:List Value}{ts:List TypeId}(h:W.ownsRow base e size v n xs)(he:e ∉ ts):Typed W v.ownBlock ts:=fun g hg=>by
 rcases h.2 with⟨rfl,-⟩ |⟨g',cap,cur,rfl,hbg,hh,-⟩
 ·cases hg
 ·simp only [Value.ownBlock,Option.some.injEq] at hg
  rw [← hg]
  exact⟨cur,e,_,hh,he⟩
theorem GrowR.later {W W':World}{base:Nat}{v:Value}{ps:List (Rn × Int)}{n:Nat}(h:GrowR W base v ps n)(hb:Below W.heap.size W W'):GrowR W' base v ps n:=
 ⟨zcH h.1 hb,fun p hp=>(h.2 p hp).below hb zL⟩
theorem Typed.alloc {W:World}{row:Option Nat}{ts:List TypeId}(h:Typed W row ts)(ob:Obj):Typed (W.alloc ob) row ts:=fun g hg=>by
 obtain⟨cur,t,fz,h1,h2⟩:=h g hg
 exact⟨cur,t,fz,(((Below.refl W.heap.size W).alloc zL ob).block _ (zw h1)).trans h1,h2⟩
theorem zfl {base:Nat}{wr w3:World}{v:Value}{ps:List (Rn × Int)}{n:Nat}{r:Rn}{z:Int}{g cap:Nat}{ob:Obj}(h:GrowR wr base v ps n)(hz:NumR wr r.val z n)
  (hown:w3.ownsRow base 40 2 (.slice (some ⟨g,0,none⟩) (ps.length+1) cap) (ps.length+1) (ps.flatMap rcells ++ rcells (r,z)))
  (hg:(wr.alloc ob).grownBy w3 v.ownBlock):GrowR w3 base (.slice (some ⟨g,0,none⟩) (ps.length+1) cap) (ps ++ [(r,z)]) n:=by
 have hty:Typed (wr.alloc ob) v.ownBlock [3]:=(zdR h.1 (by decide)).alloc ob
 refine⟨by rw [List.length_append,List.length_singleton,List.flatMap_append,List.flatMap_singleton];exact hown,fun p hp=>?_⟩
 rcases List.mem_append.1 hp with h' | h'
 ·exact((h.2 p h').below ((Below.refl _ _).alloc zL ob) zL).grown hg hty
 ·rw [List.mem_singleton] at h'
  rw [h']
  exact(hz.below ((Below.refl _ _).alloc zL ob) zL).grown hg hty
theorem zkr (ps:List (Rn × Int)):∀ i (h:i < ps.length),(ps.flatMap rcells)[i * 2]?=some (.int .i64 ps[i].1.s)∧(ps.flatMap rcells)[i * 2+1]?=some (.slice ps[i].1.o ps[i].1.l ps[i].1.c):=by
 induction ps with
 | nil=>intro i h;exact absurd h (by simp)
 | cons p ps ih=>
  intro i h
  rw [List.flatMap_cons]
  cases i with
  | zero=>exact⟨rfl,rfl⟩
  | succ i=>
   obtain⟨h1,h2⟩:=ih i (by simpa using h)
   have e1:(i+1) * 2=i * 2+2:=by omega
   rw [e1,show i * 2+2+1=i * 2+1+2 by omega,List.getElem?_append_right (by simp [rcells]),List.getElem?_append_right (by simp [rcells])]
   exact⟨h1,h2⟩
theorem GrowR.row {W:World}{base:Nat}{v:Value}{ps:List (Rn × Int)}{n:Nat}(h:GrowR W base v ps n):RowR W v (ps.map (·.2)) n:=by
 obtain⟨⟨-,h1⟩,h2⟩:=h
 have hlen:(ps.map (·.2)).length=ps.length:=List.length_map ..
 rcases h1 with⟨rfl,hn⟩ |⟨g,cap,cur,rfl,hb,hh,hc1,hc2,hc3,hc4⟩
 ·exact⟨none,0,by rw [hlen,hn],by rw [hlen];omega,fun h0=>absurd h0 (by rw [hlen];omega)⟩
 ·refine⟨_,cap,by rw [hlen],by rw [hlen];exact hc1,fun h0=>⟨g,cur,_,rfl,hh,fun i hi=>?_⟩⟩
  rw [hlen] at hi
  obtain⟨e1,e2⟩:=zkr ps i hi
  have hcell:∀ k u,k < ps.length * 2→(ps.flatMap rcells)[k]?=some u→W.cell? ⟨g,k,none⟩=some u:=fun k u hk hu=>by
   have:=World.news_of_block hh k u (by rw [← hc4,List.getElem?_take,if_pos hk] at hu;exact hu)
   have e:(⟨g,0,none⟩:Addr).add k=⟨g,k,none⟩:=by unfold Addr.add;split <;> simp_all
   rwa [e] at this
  refine⟨ps[i].1.s,ps[i].1.o,ps[i].1.l,ps[i].1.c,hcell _ _ (by omega) e1,hcell _ _ (by omega) e2,?_⟩
  have e3:(ps.map (·.2)).getD i 0=ps[i].2:=by
   rw [List.getD_eq_getElem?_getD,List.getElem?_map,List.getElem?_eq_getElem hi];rfl
  rw [e3]
  exact h2 _ (List.getElem_mem hi)
def MatR (W:World)(v:Value)(zss:List (List Int))(n:Nat):Prop:=
 ∃ ao cap,v=.slice ao zss.length cap∧zss.length≤cap∧(0 < zss.length→∃ b,ao=some ⟨b,0,none⟩∧b < W.heap.size∧∀ i zs,zss[i]?=some zs→∃ u,W.cell? ⟨b,i,none⟩=some u∧RowR W u zs n)
theorem MatR.below {B:Nat}{w w':World}{v:Value}{zss:List (List Int)}{n:Nat}(h:MatR w v zss n)(hb:Below B w w')(hB:w.heap.size≤B):MatR w' v zss n:=by
 obtain⟨ao,cap,hv,h1,h2⟩:=h
 refine⟨ao,cap,hv,h1,fun h0=>?_⟩
 obtain⟨b,e,hlt,hc⟩:=h2 h0
 refine⟨b,e,zT hlt hb.size,fun i zs hi=>?_⟩
 obtain⟨u,h3,h4⟩:=hc i zs hi
 exact⟨u,(hb.cell (p:=⟨b,i,none⟩) (zT hlt hB)).trans h3,h4.below hb hB⟩
def GrowM (W:World)(base:Nat)(v:Value)(qs:List (Value × List Int))(n:Nat):Prop:=
 W.ownsRow base 106 1 v qs.length (qs.map (·.1))∧∀ q∈qs,RowR W q.1 q.2 n
theorem GrowM.later {W W':World}{base:Nat}{v:Value}{qs:List (Value × List Int)}{n:Nat}(h:GrowM W base v qs n)(hb:Below W.heap.size W W'):GrowM W' base v qs n:=
 ⟨zcH h.1 hb,fun p hp=>(h.2 p hp).below hb zL⟩
theorem zi0 {base:Nat}{wr w3:World}{v:Value}{qs:List (Value × List Int)}{n:Nat}{u:Value}{zs:List Int}{g cap:Nat}{ob:Obj}(h:GrowM wr base v qs n)(hz:RowR wr u zs n)
  (hown:w3.ownsRow base 106 1 (.slice (some ⟨g,0,none⟩) (qs.length+1) cap) (qs.length+1) (qs.map (·.1) ++ [u]))
  (hg:(wr.alloc ob).grownBy w3 v.ownBlock):GrowM w3 base (.slice (some ⟨g,0,none⟩) (qs.length+1) cap) (qs ++ [(u,zs)]) n:=by
 have hty:Typed (wr.alloc ob) v.ownBlock [3,40]:=(zdR h.1 (by decide)).alloc ob
 refine⟨by rw [List.length_append,List.length_singleton,List.map_append];exact hown,fun p hp=>?_⟩
 rcases List.mem_append.1 hp with h' | h'
 ·exact((h.2 p h').below ((Below.refl _ _).alloc zL ob) zL).grown hg hty
 ·rw [List.mem_singleton] at h'
  rw [h']
  exact(hz.below ((Below.refl _ _).alloc zL ob) zL).grown hg hty
theorem GrowM.mat {W:World}{base:Nat}{v:Value}{qs:List (Value × List Int)}{n:Nat}(h:GrowM W base v qs n):MatR W v (qs.map (·.2)) n:=by
 obtain⟨⟨-,h1⟩,h2⟩:=h
 have hlen:(qs.map (·.2)).length=qs.length:=List.length_map ..
 rcases h1 with⟨rfl,hn⟩ |⟨g,cap,cur,rfl,hb,hh,hc1,hc2,hc3,hc4⟩
 ·exact⟨none,0,by rw [hlen,hn],by rw [hlen];omega,fun h0=>absurd h0 (by rw [hlen];omega)⟩
 ·refine⟨_,cap,by rw [hlen],by rw [hlen];exact hc1,fun h0=>⟨g,rfl,zw hh,fun i zs hi=>?_⟩⟩
  obtain⟨hi',e⟩:=List.getElem?_eq_some_iff.1 hi
  rw [hlen] at hi'
  have e':zs=qs[i].2:=by rw [← e,List.getElem_map]
  have:=World.news_of_block hh i qs[i].1 (by
   have e:(qs.map (·.1))[i]?=some qs[i].1:=by rw [List.getElem?_map,List.getElem?_eq_getElem hi'];rfl
   rw [← hc4,List.getElem?_take,if_pos (by omega)] at e
   exact e)
  have ea:(⟨g,0,none⟩:Addr).add i=⟨g,i,none⟩:=by unfold Addr.add;split <;> simp_all
  rw [ea] at this
  exact⟨_,this,by rw [e'];exact h2 _ (List.getElem_mem hi')⟩
theorem Tryz.infoRNum:(Tryz.prog.info? 40).map (fun i=>(i.zero,i.size,i.bytes))=some (some (.agg #[.int .i64 0,.slice none 0 0]),2,32):=by kernel_rfl
theorem Tryz.infoRRow:(Tryz.prog.info? 106).map (fun i=>(i.zero,i.size,i.bytes))=some (some (.slice none 0 0),1,24):=by kernel_rfl
theorem NumR.nought (w:World)(n:Nat):NumR w (.agg #[.int .i64 0,.slice none 0 0]) 0 n:=
 ⟨0,.slice none 0 0,[],rfl,⟨none,0,rfl,Nat.le_refl _,by simp,by intro i;simp,fun h=>absurd h (by simp)⟩,.inl rfl,by simp,.inl ⟨rfl,rfl,rfl⟩,by simp⟩
structure RowO (w W:World)(P:Nat)(zs:List Int)(nb:Nat→Nat):Prop where
 cells:∀ i,i < zs.length→∃(s:Int) (o:Option Addr) (l c:Nat),W.cell? ⟨P,i * 2,none⟩=some (.int .i64 s)∧W.cell? ⟨P,i * 2+1,none⟩=some (.slice o l c)∧NumR W (.agg #[.int .i64 s,.slice o l c]) (zs.getD i 0) (nb i)
 low:w.heap.size≤P
 below:Below w.heap.size w W
 blk:∃ cs,W.heap[P]?=some (.cells cs 40)
theorem RowO.lt {w W:World}{P:Nat}{zs:List Int}{nb:Nat→Nat}(h:RowO w W P zs nb):P < W.heap.size:=by
 obtain⟨cs,e⟩:=h.blk
 exact zw e
theorem RowO.later {w W W':World}{P:Nat}{zs:List Int}{nb:Nat→Nat}(h:RowO w W P zs nb)(hb:Below W.heap.size W W'):RowO w W' P zs nb where
 cells:=fun i hi=>by
  obtain⟨s,o,l,c,h1,h2,h3⟩:=h.cells i hi
  exact⟨s,o,l,c,(hb.cell (p:=⟨P,i * 2,none⟩) h.lt).trans h1,(hb.cell (p:=⟨P,i * 2+1,none⟩) h.lt).trans h2,h3.below hb zL⟩
 low:=h.low
 below:=h.below.trans (hb.mono h.below.size)
 blk:=by obtain⟨cs,e⟩:=h.blk;exact⟨cs,(hb.block _ (zw e)).trans e⟩
theorem RowO.drew {w W:World}{P:Nat}{zs:List Int}{nb:Nat→Nat}(h:RowO w W P zs nb):RowO w W.drew P zs nb:=⟨h.cells,h.low,h.below.drew,h.blk⟩
theorem RowO.mono {w W:World}{P:Nat}{zs:List Int}{nb nb':Nat→Nat}(h:RowO w W P zs nb)(hn:∀ i,i < zs.length→nb i≤nb' i):RowO w W P zs nb' where
 cells:=fun i hi=>by
  obtain⟨s,o,l,c,h1,h2,h3⟩:=h.cells i hi
  exact⟨s,o,l,c,h1,h2,h3.mono (hn i hi)⟩
 low:=h.low
 below:=h.below
 blk:=h.blk
theorem RowO.thaw {w W:World}{P:Nat}{zs:List Int}{nb:Nat→Nat}(h:RowO w W P zs nb)(k:Nat):W.frozen? ⟨P,k,none⟩=false:=by
 obtain⟨cs,e⟩:=h.blk
 simp [World.frozen?,e]
theorem zfE (m i:Nat)(hi:i < m):(madeCells #[.int .i64 0,.slice none 0 0] (m * 2))[i * 2]?=some (.int .i64 0)∧(madeCells #[.int .i64 0,.slice none 0 0] (m * 2))[i * 2+1]?=some (.slice none 0 0):=by
 have h1:i * 2 < m * 2:=by omega
 have h2:i * 2+1 < m * 2:=by omega
 have e1:i * 2 % 2=0:=by omega
 have e2:(i * 2+1) % 2=1:=by omega
 constructor
 ·simp [madeCells,h1,e1]
 ·simp [madeCells,h2,e2]
theorem RowO.made (w W:World)(hb:Below w.heap.size w W)(m:Nat)(nb:Nat→Nat):RowO w (W.alloc (.cells (madeCells #[.int .i64 0,.slice none 0 0] (m * 2)) 40)) W.heap.size (List.replicate m 0) nb where
 cells:=fun i hi=>by
  rw [List.length_replicate] at hi
  refine⟨0,none,0,0,?_,?_,?_⟩
  ·rw [World.cell?_alloc_new];exact(zfE m i hi).1
  ·rw [World.cell?_alloc_new];exact(zfE m i hi).2
  ·have e:(List.replicate m (0:Int)).getD i 0=0:=by
    rw [List.getD_eq_getElem?_getD,List.getElem?_replicate]
    split <;> rfl
   rw [e]
   exact NumR.nought _ _
 low:=hb.size
 below:=hb.alloc hb.size _
 blk:=⟨_,heap_alloc_new W _⟩
theorem NumR.setTyped {w:World}{v:Value}{z:Int}{n:Nat}(h:NumR w v z n){B:Nat}{c:Array Value}{t:TypeId}{fz:Nat × Nat}(hB:w.heap[B]?=some (.cells c t fz))(ht:t≠3)(k:Nat)(u:Value):NumR (w.setCell ⟨B,k,none⟩ u) v z n:=by
 obtain⟨s,sl,ds,h1,h2,h3⟩:=h
 exact⟨s,sl,ds,h1,h2.setCell hB ht k u,h3⟩
theorem RowO.set {w W:World}{P:Nat}{zs:List Int}{nb:Nat→Nat}(h:RowO w W P zs nb){k:Nat}(hk:k < zs.length){s:Int}{o:Option Addr}{l c:Nat}{z:Int}{m:Nat}(hz:NumR W (.agg #[.int .i64 s,.slice o l c]) z m):
  RowO w ((W.setCell ⟨P,k * 2,none⟩ (.int .i64 s)).setCell ⟨P,k * 2+1,none⟩ (.slice o l c)) P (zs.set k z) (fun i=>if i=k then m else nb i):=by
 obtain⟨cs,hblk⟩:=h.blk
 have hblk':=heap_setCell_same W P (k * 2) _ _ (.int .i64 s) hblk
 obtain⟨s0,o0,l0,c0,k0,k1,-⟩:=h.cells k hk
 have k1':(W.setCell ⟨P,k * 2,none⟩ (.int .i64 s)).cell? ⟨P,k * 2+1,none⟩=some (.slice o0 l0 c0):=(World.cell?_setCell_other (h:=fun e=>by simp at e) ..).trans k1
 have keep:∀ {v:Value} {y:Int} {q:Nat},NumR W v y q→NumR ((W.setCell ⟨P,k * 2,none⟩ (.int .i64 s)).setCell ⟨P,k * 2+1,none⟩ (.slice o l c)) v y q:=fun hv=>
  (hv.setTyped hblk (by decide) _ _).setTyped hblk' (by decide) _ _
 have hlen:(zs.set k z).length=zs.length:=List.length_set
 refine⟨fun i hi=>?_,h.low,(h.below.setCell (by exact h.low) _).setCell (by exact h.low) _,⟨_,heap_setCell_same _ P (k * 2+1) _ _ _ hblk'⟩⟩
 rw [hlen] at hi
 by_cases hik:i=k
 ·subst hik
  refine⟨s,o,l,c,(World.cell?_setCell_other (h:=fun e=>by simp at e) ..).trans (World.cell?_setCell_same (h:=k0) ..),World.cell?_setCell_same (h:=k1') ..,?_⟩
  have e:(zs.set i z).getD i 0=z:=by rw [List.getD_eq_getElem?_getD,List.getElem?_set_self hi];rfl
  rw [e,if_pos rfl]
  exact keep hz
 ·obtain⟨s1,o1,l1,c1,m0,m1,m2⟩:=h.cells i hi
  refine⟨s1,o1,l1,c1,?_,?_,?_⟩
  ·exact((World.cell?_setCell_other (h:=fun e=>by simp at e <;> omega) ..).trans (World.cell?_setCell_other (h:=fun e=>by simp at e <;> omega) ..)).trans m0
  ·exact((World.cell?_setCell_other (h:=fun e=>by simp at e <;> omega) ..).trans (World.cell?_setCell_other (h:=fun e=>by simp at e <;> omega) ..)).trans m1
  ·have e:(zs.set k z).getD i 0=zs.getD i 0:=by
    rw [List.getD_eq_getElem?_getD,List.getD_eq_getElem?_getD,List.getElem?_set_ne (by omega)]
   rw [e,if_neg hik]
   exact keep m2
theorem RowO.row {w W:World}{P:Nat}{zs:List Int}{nb:Nat→Nat}{n:Nat}(h:RowO w W P zs nb)(hn:∀ i,i < zs.length→nb i≤n):RowR W (.slice (some ⟨P,0,none⟩) zs.length zs.length) zs n:=by
 obtain⟨cs,hblk⟩:=h.blk
 refine⟨_,_,rfl,Nat.le_refl _,fun _=>⟨P,cs,_,rfl,hblk,fun i hi=>?_⟩⟩
 obtain⟨s,o,l,c,h1,h2,h3⟩:=h.cells i hi
 exact⟨s,o,l,c,h1,h2,h3.mono (hn i hi)⟩
end Go.Proofs.YtdedolkgcdlmeaaGreatDoor
