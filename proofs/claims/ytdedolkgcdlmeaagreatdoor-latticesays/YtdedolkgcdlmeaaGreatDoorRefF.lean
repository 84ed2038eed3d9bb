import Derived.Test.YtdedolkgcdlmeaaGreatDoorRefC
set_option maxRecDepth 100000
set_option maxHeartbeats 1600000
namespace Go.Proofs.YtdedolkgcdlmeaaGreatDoor
open Go.RowKit Limbs Digs
variable{w wr W:World}{a b zs:List Int}{g i k j:Nat}{a0 a1 b0 b1 r0 r1:Value}{cy:Int}
def SInv (w wr:World)(a b:List Int)(k:Nat)(c:Int)(d:Value)(ds:List Int):Prop:=
 wr.ownsRow w.heap.size 3 1 d ds.length (ds.map (Value.int .i64))∧Below w.heap.size w wr∧DB ds∧ds.length=k∧dv ds=dv (a.take k)-dv (b.take k)+dp k*c∧0≤c∧c≤1
theorem SInv.step{w3:World}{c t c':Int}{d d':Value}{ds:List Int}(h:SInv w wr a b k c d ds)(ht:t=a.getD k 0-c-b.getD k 0+10000*c')(ht0:0≤t∧t<10000)(hc':0≤c'∧c'≤1)
  (hown:w3.ownsRow w.heap.size 3 1 d' (k+1) (ds.map (Value.int .i64)++[.int .i64 t])) (hg:(wr.alloc (.cells #[.int .i64 t] 3)).grownBy w3 d.ownBlock):SInv w w3 a b (k+1) c' d' (ds++[t]):=by
 obtain⟨h1,h2,h3,h4,h5,h6,h7⟩:=h;have hbl:=zbH h1 h2.size hg;refine⟨by rw [List.length_append,List.map_append,h4];exact hown,h2.trans hbl,zcQ h3 ht0,by simp [h4],?_,hc'.1,hc'.2⟩;rw [zdf,zaQ,zaQ,h4,h5];simp only [dp];have e1:10000*dp k*c'=dp k *(10000*c'):=by rw [Int.mul_comm 10000,Int.mul_assoc]
 have e3:dp k*t=dp k*a.getD k 0-dp k*c-dp k*b.getD k 0+dp k *(10000*c'):=by rw [ht,Int.mul_add,Int.mul_sub,Int.mul_sub]
 rw [e1];omega
theorem zgm (w:World)(va vb:Value)(a b:List Int)(ha:Dig w va a)(hb:Dig w vb b)(hl:b.length≤a.length)(hle:dv b≤dv a):
  Calls Tryz.prog 103 #[va,vb] w fun e w'=>DigPost w (dv a-dv b) a.length e w':=by
 have HA:=hide ha;have HB:=hide hb;obtain⟨ao,acap,rfl,hacap,halen,hadb,-⟩:=ha;obtain⟨bo,bcap,rfl,hbcap,hblen,hbdb,-⟩:=hb;have HLE:=hide hle;clear hle;obtain⟨i0,hi,hz0,hz1,hz2⟩:=info_parts Tryz.infoInt;go_enter Tryz.func103,Tryz.ntmps103;go_wp2;go_loopw [5,6,7] (fun d cc i wr=>∃(k:Nat) (c:Int) (ds:List Int),k≤a.length∧i=.int .i64 k∧cc=.int .i64 c∧SInv w wr a b k c d ds) (fun _ _ i _=>a.length-(intOf i).toNat)
 case atStart=>exact⟨0,0,[],by omega,rfl,rfl,World.ownsRow_nil _ _ _ _,zB _ _,zbc,rfl,by simp [dv,dp],Int.le_refl _,by decide⟩
 case round=>
  obtain⟨k,c,ds,hk,rfl,rfl,hinv⟩:=hrel;have hc0:=hinv.2.2.2.2.2.1;have hc1:=hinv.2.2.2.2.2.2;have hdl:=hinv.2.2.2.1;have HBL:=hide hinv.2.1;by_cases hend:a.length≤k
  ·obtain rfl:k=a.length:=by omega
   have HF:Hid (DigPost w (dv a-dv b) a.length (.returned u5) wr):=by
    obtain⟨h1,h2,h3,h4,h5,h6,h7⟩:=hinv;refine⟨_,ds,rfl,Dig.owns h1 h3 (by omega),?_,by omega,h2⟩;rw [zbM a zL,zbM b hl] at h5;have hlt:=zbi h3;rw [h4] at hlt;have hle:=HLE.out;rcases(by omega:c=0∨c=1) with e | e <;> subst e
    ·rw [h5];omega
    ·omega
   clear hinv;go_wp2;go_ret;exact HF.out
  ·have hx:=hadb k;have hy:=hbdb k;have hown:=hinv.1;have HST:=hide (fun d' w3 t c' ht ht0 hc' ho hg=>hinv.step (d':=d') (w3:=w3) (t:=t) (c':=c') ht ht0 hc' ho hg);have HB':=hide (by obtain⟨_,_,e,-,-,-,hc⟩:=HB.out.below HBL.out zL;simp only [zV,true_and] at e;obtain⟨rfl,rfl⟩:=e;exact hc);have HA':=hide (by obtain⟨_,_,e,-,-,-,hc⟩:=HA.out.below HBL.out zL;simp only [zV,true_and] at e;obtain⟨rfl,rfl⟩:=e;exact hc);have HY0:=hide (fun h=>zbP b k h);obtain⟨ab,aoff,acur,afz,rfl,-,hac⟩:=HA'.out (by omega);have hca:=hac k (by omega);clear hinv hac HA';generalize hxe:a.getD k 0=x at *;generalize hye:b.getD k 0=y at *;have HXE:=hide hxe;clear hxe;have HYE:=hide hye;clear hye;by_cases hb1:k<b.length
   ·by_cases ho:x-c-y<0
    ·have ho1:=ho;obtain⟨bb,boff,bcur,bfz,rfl,-,hbc⟩:=HB'.out (by omega);have hcb:=hbc k hb1;rw [HYE.out] at hcb;clear hbc;have HS:=hide (fun d' w3 ho hg=>HST.out d' w3 (x-c-y+10000) 1 (by omega) (by omega) (by decide) ho hg);clear HST HB' HY0 HXE HYE;have hdd:decide (x-c-y<0)=true:=decide_eq_true (by omega);have hde:decide (x-c<y)=true:=decide_eq_true (by omega);go_wp2_with (at_builtin;refine wpList_append_lies _ rfl _ _ 38 rfl w.heap.size 3 i0 (.int .i64 0) 1 8 Tryz.underlying38 hi hz0 hz1 hz2 rfl (by decide) u5 ds.length (ds.map (Value.int .i64)) rfl (hown.alloc _) ⟨wr.heap.size,0,none⟩ 1 1 [.int .i64 (x-c-y+10000)] rfl rfl (World.news_of_block (heap_alloc_new wr _)) (fun u hu=>by rw [List.mem_singleton] at hu;rw [hu];rfl) (by decide) (by unfold maxLen;omega) (by omega) (by simp;have:=HBL.out.size;omega) (wr.heap.size+1) (by simp) ?_);intro g cap' w3 hown3 hgrow3 hat3 hlt3;have HF:=hide (HS.out _ _ hown3 hgrow3);clear hown3 hgrow3 hat3 hown HS;go_wp2;go_roundw
     case rel=>exact⟨k+1,1,_,by omega,by go_num,rfl,HF.out⟩
     case measure=>simp [intOf];omega
    ·have ho1:=ho;obtain⟨bb,boff,bcur,bfz,rfl,-,hbc⟩:=HB'.out (by omega);have hcb:=hbc k hb1;rw [HYE.out] at hcb;clear hbc;have HS:=hide (fun d' w3 ho hg=>HST.out d' w3 (x-c-y) 0 (by omega) (by omega) (by decide) ho hg);clear HST HB' HY0 HXE HYE;have hdd:decide (x-c-y<0)=false:=decide_eq_false (by omega);have hde:decide (x-c<y)=false:=decide_eq_false (by omega);go_wp2_with (at_builtin;refine wpList_append_lies _ rfl _ _ 38 rfl w.heap.size 3 i0 (.int .i64 0) 1 8 Tryz.underlying38 hi hz0 hz1 hz2 rfl (by decide) u5 ds.length (ds.map (Value.int .i64)) rfl (hown.alloc _) ⟨wr.heap.size,0,none⟩ 1 1 [.int .i64 (x-c-y)] rfl rfl (World.news_of_block (heap_alloc_new wr _)) (fun u hu=>by rw [List.mem_singleton] at hu;rw [hu];rfl) (by decide) (by unfold maxLen;omega) (by omega) (by simp;have:=HBL.out.size;omega) (wr.heap.size+1) (by simp) ?_);intro g cap' w3 hown3 hgrow3 hat3 hlt3;have HF:=hide (HS.out _ _ hown3 hgrow3);clear hown3 hgrow3 hat3 hown HS;go_wp2;go_roundw
     case rel=>exact⟨k+1,0,_,by omega,by go_num,rfl,HF.out⟩
     case measure=>simp [intOf];omega
   ·by_cases ho:x-c<0
    ·have ho1:=ho;obtain rfl:y=0:=HY0.out (by omega);have HS:=hide (fun d' w3 ho hg=>HST.out d' w3 (x-c+10000) 1 (by omega) (by omega) (by decide) ho hg);clear HST HB' HY0 HXE HYE;have hdd:decide (x-c<0)=true:=decide_eq_true (by omega);have hde:decide (x<c)=true:=decide_eq_true (by omega);go_wp2_with (at_builtin;refine wpList_append_lies _ rfl _ _ 38 rfl w.heap.size 3 i0 (.int .i64 0) 1 8 Tryz.underlying38 hi hz0 hz1 hz2 rfl (by decide) u5 ds.length (ds.map (Value.int .i64)) rfl (hown.alloc _) ⟨wr.heap.size,0,none⟩ 1 1 [.int .i64 (x-c+10000)] rfl rfl (World.news_of_block (heap_alloc_new wr _)) (fun u hu=>by rw [List.mem_singleton] at hu;rw [hu];rfl) (by decide) (by unfold maxLen;omega) (by omega) (by simp;have:=HBL.out.size;omega) (wr.heap.size+1) (by simp) ?_);intro g cap' w3 hown3 hgrow3 hat3 hlt3;have HF:=hide (HS.out _ _ hown3 hgrow3);clear hown3 hgrow3 hat3 hown HS;go_wp2;go_roundw
     case rel=>exact⟨k+1,1,_,by omega,by go_num,rfl,HF.out⟩
     case measure=>simp [intOf];omega
    ·have ho1:=ho;obtain rfl:y=0:=HY0.out (by omega);have HS:=hide (fun d' w3 ho hg=>HST.out d' w3 (x-c) 0 (by omega) (by omega) (by decide) ho hg);clear HST HB' HY0 HXE HYE;have hdd:decide (x-c<0)=false:=decide_eq_false (by omega);have hde:decide (x<c)=false:=decide_eq_false (by omega);go_wp2_with (at_builtin;refine wpList_append_lies _ rfl _ _ 38 rfl w.heap.size 3 i0 (.int .i64 0) 1 8 Tryz.underlying38 hi hz0 hz1 hz2 rfl (by decide) u5 ds.length (ds.map (Value.int .i64)) rfl (hown.alloc _) ⟨wr.heap.size,0,none⟩ 1 1 [.int .i64 (x-c)] rfl rfl (World.news_of_block (heap_alloc_new wr _)) (fun u hu=>by rw [List.mem_singleton] at hu;rw [hu];rfl) (by decide) (by unfold maxLen;omega) (by omega) (by simp;have:=HBL.out.size;omega) (wr.heap.size+1) (by simp) ?_);intro g cap' w3 hown3 hgrow3 hat3 hlt3;have HF:=hide (HS.out _ _ hown3 hgrow3);clear hown3 hgrow3 hat3 hown HS;go_wp2;go_roundw
     case rel=>exact⟨k+1,0,_,by omega,by go_num,rfl,HF.out⟩
     case measure=>simp [intOf];omega
theorem zhu(ha:DB a)(hb:DB b)(na:Nrm a)(nb:Nrm b)(h:a.length≠b.length):(if a.length<b.length then (-1:Int) else 1)=cmpI (dv a) (dv b):=by
 by_cases h1:a.length<b.length
 ·rw [if_pos h1,zac (zcp ha hb nb h1)]
 ·rw [if_neg h1,zab (zcp hb ha na (by omega))]
theorem zhv(ha:DB a)(hb:DB b)(hl:a.length=b.length)(hk:k<a.length)(hd:a.drop (k+1)=b.drop (k+1))(hx:a.getD k 0≠b.getD k 0):cmpI (a.getD k 0) (b.getD k 0)=cmpI (dv a) (dv b):=by
 by_cases h1:a.getD k 0<b.getD k 0
 ·rw [zac h1,zac (zeQ ha hb hl hk hd h1)]
 ·have h2:b.getD k 0<a.getD k 0:=by omega
  rw [zab h2,zab (zeQ hb ha hl.symm (by omega) hd.symm h2)]
theorem zcZ (w:World)(va vb:Value)(a b:List Int)(ha:Dig w va a)(hb:Dig w vb b)(na:Nrm a)(nb:Nrm b):
  Calls Tryz.prog 102 #[va,vb] w fun e w'=>CmpPost w (cmpI (dv a) (dv b)) e w':=by
 obtain⟨ao,acap,rfl,hacap,halen,hadb,hac⟩:=ha;obtain⟨bo,bcap,rfl,hbcap,hblen,hbdb,hbc⟩:=hb;by_cases hl:a.length=b.length
 ·have hne:((a.length:Int) !=(b.length:Int))=false:=by rw [bne_eq_false_iff_eq];omega
  have HLL:Hid (a.length=b.length):=hl;clear hl;go_enter Tryz.func102,Tryz.ntmps102;go_wp2;go_loopw [5] (fun i wr=>∃ p nq:Nat,p≤a.length∧i=.int .i64 ((p:Int)-1)∧wr=w.drewN nq∧Hid (a.drop p=b.drop p)) (fun i _=>(intOf i+1).toNat)
  case atStart=>exact⟨a.length,0,Nat.le_refl _,by go_num,by simp [World.drewN_zero],by show _=_;rw [List.drop_length,HLL.out,List.drop_length]⟩
  case round=>
   obtain⟨p,nq,hp,rfl,rfl,HD⟩:=hrel;by_cases h0:p=0
   ·subst h0;have HK:Hid (cmpI (dv a) (dv b)=0):=by
     have hd:=HD.out;rw [List.drop_zero,List.drop_zero] at hd;show _=_;rw [hd];exact zbg rfl
    go_wp2;go_ret;exact⟨zah HK.out.symm,zW (zB _ _) _⟩
   ·obtain⟨k,rfl⟩:∃ k,p=k+1:=⟨p-1,by omega⟩;obtain⟨ab,aoff,acur,afz,rfl,hab,hac⟩:=hac (by omega);obtain⟨bb,boff,bcur,bfz,rfl,hbb,hbc⟩:=hbc (by have:=HLL.out;omega);have hkb:k<b.length:=by have:=HLL.out;omega
    have hka:k<a.length:=by omega
    have hca:=hac k hka;have hcb:=hbc k hkb;clear hac hbc hab hbb;have HE:Hid (∀ h:a.getD k 0=b.getD k 0,a.drop k=b.drop k):=fun h=>zeP HLL.out hka HD.out h;have HN:Hid (∀ h:a.getD k 0≠b.getD k 0,cmpI (a.getD k 0) (b.getD k 0)=cmpI (dv a) (dv b)):=fun h=>zhv hadb hbdb HLL.out hka HD.out h;clear HD;generalize a.getD k 0=x at *;generalize b.getD k 0=y at *;have hki:((k+1:Nat):Int)-1=(k:Int):=by omega
    rw [hki];by_cases hxy:x=y
    ·subst hxy;have HE':Hid (a.drop k=b.drop k):=HE.out rfl;clear HE HN;go_wp2
     go_quiet (fail)
     go_wp2
     go_quiet (fail)
     go_wp2;go_roundw
     case rel=>exact⟨k,_,by omega,by go_num,rfl,HE'⟩
     case measure=>simp [intOf]
    ·have HC:=hide (HN.out hxy);clear HN HE;by_cases hlt:x<y
     ·have HR:=hide (HC.out.symm.trans (zac hlt));have hdx:decide (x<y)=true:=decide_eq_true hlt;clear HC hxy;go_wp2
      go_quiet (fail)
      go_wp2;go_ret;exact⟨zah HR.out.symm,zW (zW (zB _ _) _) _⟩
     ·have HR:=hide (HC.out.symm.trans (zab (show y<x by omega)));have hdx:decide (x<y)=false:=decide_eq_false hlt;have hdy:decide (y<x)=true:=decide_eq_true (by omega);clear HC hxy;go_wp2
      go_quiet (fail)
      go_wp2
      go_quiet (fail)
      go_wp2;go_ret;exact⟨zah HR.out.symm,zW (zW (zW (zB _ _) _) _) _⟩
 ·have HC:Hid _:=zhu hadb hbdb na nb hl;have hne:((a.length:Int) !=(b.length:Int))=true:=by rw [bne_iff_ne];omega
  clear hac hbc;by_cases hlt:a.length<b.length
  ·rw [if_pos hlt] at HC;have hd:decide ((a.length:Int)<(b.length:Int))=true:=decide_eq_true (by omega);go_enter Tryz.func102,Tryz.ntmps102;go_wp2;go_ret;exact⟨zah HC.out,zB _ _⟩
  ·rw [if_neg hlt] at HC;have hd:decide ((a.length:Int)<(b.length:Int))=false:=decide_eq_false (by omega);go_enter Tryz.func102,Tryz.ntmps102;go_wp2;go_ret;exact⟨zah HC.out,zB _ _⟩
structure ThreeR (w W:World)(a0 a1 b0 b1 r0 r1:Value):Prop where
 fst:BoxR W w.heap.size a0 a1
 snd:BoxR W (w.heap.size+1) b0 b1
 res:BoxR W (w.heap.size+1+1) r0 r1
 below:Below w.heap.size w W
 size:w.heap.size+1+1<W.heap.size
theorem threeR (w:World)(a0 a1 b0 b1 r0 r1:Value):ThreeR w (((w.alloc (.cells #[a0,a1] 40)).alloc (.cells #[b0,b1] 40)).alloc (.cells #[r0,r1] 40)) a0 a1 b0 b1 r0 r1 where
 fst:=(zq w _ _ _ rfl).later (((zB _ _).alloc (by simp) _).alloc (by simp) _:Below (w.heap.size+1) _ _) (by omega)
 snd:=(zq (w.alloc _) _ _ _ (by simp)).later ((zB _ _).alloc (by simp) _:Below (w.heap.size+1+1) _ _) (by omega)
 res:=zq _ _ _ _ (by simp)
 below:=(((zB _ _).alloc zL _).alloc (by simp) _).alloc (by simp;omega) _
 size:=by simp
theorem ThreeR.later{W':World}(h:ThreeR w W a0 a1 b0 b1 r0 r1)(hb:Below W.heap.size W W'):ThreeR w W' a0 a1 b0 b1 r0 r1 where
 fst:=h.fst.later hb h.fst.lt
 snd:=h.snd.later hb h.snd.lt
 res:=h.res.later hb h.res.lt
 below:=h.below.trans (hb.mono h.below.size)
 size:=zT h.size hb.size
theorem ThreeR.drew(h:ThreeR w W a0 a1 b0 b1 r0 r1):ThreeR w W.drew a0 a1 b0 b1 r0 r1:=⟨h.fst,h.snd,h.res,h.below.drew,h.size⟩
theorem zcK (w:World)(va vb:Value)(x y:Int)(n:Nat)(ha:NumR w va x n)(hb:NumR w vb y n)(hn:n<1000000000000):
  Calls Tryz.prog 61 #[va,vb] w fun e w'=>RefPost w (x+y) (n+1) e w':=by
 have HNA:=hide ha;have HNB:=hide hb;obtain⟨sa,la,a,rfl,hla,nra,hx,hsa,hna⟩:=ha;obtain⟨sb,lb,b,rfl,hlb,nrb,hy,hsb,hnb⟩:=hb;have HA:=hide hla;have HB:=hide hlb;obtain⟨ao,acap,rfl,-,-,hadb,-⟩:=hla;obtain⟨bo,bcap,rfl,-,-,hbdb,-⟩:=hlb;have HX:=hide hx;clear hx;have HY:=hide hy;clear hy;have HNR:=hide (And.intro nra nrb);clear nra nrb;have HDD:=hide (And.intro hadb hbdb);clear hadb hbdb;have hn2:¬(w.heap.size+1+1=w.heap.size):=by omega
 have hn3:¬(w.heap.size=w.heap.size+1+1):=by omega
 by_cases hsa0:sa=0
 ·subst hsa0;have HF:Hid (RefPost w (x+y) (n+1) (.returned (.agg #[.int .i64 sb,.slice bo b.length bcap])) (((w.alloc (.cells #[.int .i64 0,.slice ao a.length acap] 40)).alloc (.cells #[.int .i64 sb,.slice bo b.length bcap] 40)).alloc (.cells #[.int .i64 sb,.slice bo b.length bcap] 40))):=
   ⟨_,rfl,by rw [show x+y=y by rw [HX.out,Int.zero_mul,Int.zero_add]];exact(HNB.out.below (threeR w _ _ _ _ _ _).below zL).mono (by omega),(threeR w _ _ _ _ _ _).below⟩
  clear HNA HNB HX HY;go_enter Tryz.func61,Tryz.ntmps61;go_wp2;exact bodyPost_ret (v:=.agg #[.int .i64 sb,.slice bo b.length bcap]) (by simp [results,Tryz.results61,go_sem]) rfl HF.out
 have hda:(sa==0)=false:=by simp [hsa0]
 by_cases hsb0:sb=0
 ·subst hsb0;have HF:Hid (RefPost w (x+y) (n+1) (.returned (.agg #[.int .i64 sa,.slice ao a.length acap])) (((w.alloc (.cells #[.int .i64 sa,.slice ao a.length acap] 40)).alloc (.cells #[.int .i64 0,.slice bo b.length bcap] 40)).alloc (.cells #[.int .i64 sa,.slice ao a.length acap] 40))):=
   ⟨_,rfl,by rw [show x+y=x by rw [HY.out,Int.zero_mul,Int.add_zero]];exact(HNA.out.below (threeR w _ _ _ _ _ _).below zL).mono (by omega),(threeR w _ _ _ _ _ _).below⟩
  clear HNA HNB HX HY;go_enter Tryz.func61,Tryz.ntmps61;go_wp2;exact bodyPost_ret (v:=.agg #[.int .i64 sa,.slice ao a.length acap]) (by simp [results,Tryz.results61,go_sem]) rfl HF.out
 have hdb:(sb==0)=false:=by simp [hsb0]
 clear HNA HNB;have hsa1:sa=1∨sa=-1:=by omega
 have hsb1:sb=1∨sb=-1:=by omega
 clear hsa hsb;by_cases hss:sa=sb
 ·have hds:(sa==sb)=true:=by simp [hss]
  have HE:=hide (show sa *(dv a+dv b)=x+y by rw [HX.out,HY.out,hss,Int.mul_add]);clear HX HY HNR HDD hss;go_enter Tryz.func61,Tryz.ntmps61;go_wp2_with fail;have hT:=hide (threeR w (.int .i64 sa) (.slice ao a.length acap) (.int .i64 sb) (.slice bo b.length bcap) (.int .i64 0) (.slice none 0 0));generalize ((w.alloc (.cells #[.int .i64 sa,.slice ao a.length acap] 40)).alloc (.cells #[.int .i64 sb,.slice bo b.length bcap] 40)).alloc (.cells #[.int .i64 0,.slice none 0 0] 40)=W at *;obtain⟨k0,k1,-,-⟩:=hT.out.fst.box;obtain⟨l0,l1,-,-⟩:=hT.out.snd.box;have hn2:¬(w.heap.size+1+1=w.heap.size):=by omega
  have hn3:¬(w.heap.size=w.heap.size+1+1):=by omega
  go_region_held3 (fun w'=>w'.cell? ⟨w.heap.size,0,none⟩=some (.int .i64 sa)∧w'.cell? ⟨w.heap.size,1,none⟩=some (.slice ao a.length acap)∧w'.cell? ⟨w.heap.size+1,0,none⟩=some (.int .i64 sb)∧w'.cell? ⟨w.heap.size+1,1,none⟩=some (.slice bo b.length bcap)) (go_keep)
    (first
     |(go_at_call 101;refine(zgH _ _ _ a b n (HA.out.below hT.out.drew.below zL) (HB.out.below hT.out.drew.below zL) (by omega) (by omega) hn).mono ?_;rintro e w1 ⟨v1,ds,rfl,hd1,hv1,hl1,hb1⟩;have HD1:=hide hd1;have HV:=hide hv1;have hT1:=hide (hT.out.drew.later hb1);clear hd1 hv1 hb1;obtain⟨p0,p1,-,-⟩:=hT1.out.fst.box;obtain⟨q0,q1,-,-⟩:=hT1.out.snd.box)
     |(go_at_call 100;refine(zap _ sa _ ds HD1.out (by omega)).mono ?_;rintro e w2 ⟨r,rfl,hr,hb2⟩;have hT2:=hide (hT1.out.later hb2);clear hb2;obtain⟨p0',p1',-,-⟩:=hT2.out.fst.box;obtain⟨q0',q1',-,-⟩:=hT2.out.snd.box;obtain⟨c0,c1,f0,f1⟩:=hT2.out.res.box;rw [HV.out,HE.out] at hr;replace hr:=hr.mono (show ds.length≤n+1 by omega);have HR:=hide hr;obtain⟨sr,o,l,c,rfl,-⟩:=hr.form;clear hr))
  have HF:=hide (boxedR (w:=w) HR.out hT2.out.res hT2.out.below (by omega));clear hT1 hT2 HR HD1 HV HE;go_wp2;exact bodyPost_ret (v:=.agg #[.int .i64 sr,.slice o l c]) (by simp [results,Tryz.results61,go_sem,c0,c1]) rfl HF.out
 have hds:(sa==sb)=false:=by simp [hss]
 have HSN:=hide (show sb=-sa by omega);by_cases hge:dv b≤dv a
 ·have hll:b.length≤a.length:=by
   by_cases h:b.length≤a.length
   ·exact h
   ·have:=zcp HDD.out.1 HDD.out.2 HNR.out.2 (by omega);omega
  have HE:=hide (show sa *(dv a-dv b)=x+y by rw [HX.out,HY.out,HSN.out,Int.mul_sub,Int.neg_mul];omega);have HL:=hide hge;have hc:decide (0≤cmpI (dv a) (dv b))=true:=decide_eq_true (by unfold cmpI;repeat' split;all_goals omega);clear HX HY HDD hge;go_enter Tryz.func61,Tryz.ntmps61;go_wp2_with fail;have hT:=hide (threeR w (.int .i64 sa) (.slice ao a.length acap) (.int .i64 sb) (.slice bo b.length bcap) (.int .i64 0) (.slice none 0 0));generalize ((w.alloc (.cells #[.int .i64 sa,.slice ao a.length acap] 40)).alloc (.cells #[.int .i64 sb,.slice bo b.length bcap] 40)).alloc (.cells #[.int .i64 0,.slice none 0 0] 40)=W at *;obtain⟨k0,k1,-,-⟩:=hT.out.fst.box;obtain⟨l0,l1,-,-⟩:=hT.out.snd.box;have hn2:¬(w.heap.size+1+1=w.heap.size):=by omega
  have hn3:¬(w.heap.size=w.heap.size+1+1):=by omega
  refine(zcZ _ _ _ a b (HA.out.below hT.out.below zL) (HB.out.below hT.out.below zL) HNR.out.1 HNR.out.2).mono ?_;rintro e w0 ⟨rfl,hb0⟩;replace hT:=hide (hT.out.later hb0);clear hb0 k0 k1 l0 l1;obtain⟨k0,k1,-,-⟩:=hT.out.fst.box;obtain⟨l0,l1,-,-⟩:=hT.out.snd.box;clear HNR;go_wp2_with fail
  go_region_held3 (fun w'=>w'.cell? ⟨w.heap.size,0,none⟩=some (.int .i64 sa)∧w'.cell? ⟨w.heap.size,1,none⟩=some (.slice ao a.length acap)∧w'.cell? ⟨w.heap.size+1,0,none⟩=some (.int .i64 sb)∧w'.cell? ⟨w.heap.size+1,1,none⟩=some (.slice bo b.length bcap)) (go_keep)
    (first
     |(go_at_call 103;refine(zgm _ _ _ a b (HA.out.below hT.out.drew.below zL) (HB.out.below hT.out.drew.below zL) hll HL.out).mono ?_;rintro e w1 ⟨v1,ds,rfl,hd1,hv1,hl1,hb1⟩;have HD1:=hide hd1;have HV:=hide hv1;have hT1:=hide (hT.out.drew.later hb1);clear hd1 hv1 hb1;obtain⟨p0,p1,-,-⟩:=hT1.out.fst.box;obtain⟨q0,q1,-,-⟩:=hT1.out.snd.box)
     |(go_at_call 100;refine(zap _ sa _ ds HD1.out (by omega)).mono ?_;rintro e w2 ⟨r,rfl,hr,hb2⟩;have hT2:=hide (hT1.out.later hb2);clear hb2;obtain⟨p0',p1',-,-⟩:=hT2.out.fst.box;obtain⟨q0',q1',-,-⟩:=hT2.out.snd.box;obtain⟨c0,c1,f0,f1⟩:=hT2.out.res.box;rw [HV.out,HE.out] at hr;replace hr:=hr.mono (show ds.length≤n+1 by omega);have HR:=hide hr;obtain⟨sr,o,l,c,rfl,-⟩:=hr.form;clear hr))
  have HF:=hide (boxedR (w:=w) HR.out hT2.out.res hT2.out.below (by omega));clear hT1 hT2 HR HD1 HV HE;go_wp2;exact bodyPost_ret (v:=.agg #[.int .i64 sr,.slice o l c]) (by simp [results,Tryz.results61,go_sem,c0,c1]) rfl HF.out
 ·have hll:a.length≤b.length:=by
   by_cases h:a.length≤b.length
   ·exact h
   ·have:=zcp HDD.out.2 HDD.out.1 HNR.out.1 (by omega);omega
  have HE:=hide (show sb *(dv b-dv a)=x+y by rw [HX.out,HY.out,HSN.out,Int.mul_sub,Int.neg_mul,Int.neg_mul];omega);have HL:=hide (show dv a≤dv b by omega);have hc:decide (0≤cmpI (dv a) (dv b))=false:=decide_eq_false (by unfold cmpI;repeat' split;all_goals omega);clear HX HY HDD hge;go_enter Tryz.func61,Tryz.ntmps61;go_wp2_with fail;have hT:=hide (threeR w (.int .i64 sa) (.slice ao a.length acap) (.int .i64 sb) (.slice bo b.length bcap) (.int .i64 0) (.slice none 0 0));generalize ((w.alloc (.cells #[.int .i64 sa,.slice ao a.length acap] 40)).alloc (.cells #[.int .i64 sb,.slice bo b.length bcap] 40)).alloc (.cells #[.int .i64 0,.slice none 0 0] 40)=W at *;obtain⟨k0,k1,-,-⟩:=hT.out.fst.box;obtain⟨l0,l1,-,-⟩:=hT.out.snd.box;have hn2:¬(w.heap.size+1+1=w.heap.size):=by omega
  have hn3:¬(w.heap.size=w.heap.size+1+1):=by omega
  refine(zcZ _ _ _ a b (HA.out.below hT.out.below zL) (HB.out.below hT.out.below zL) HNR.out.1 HNR.out.2).mono ?_;rintro e w0 ⟨rfl,hb0⟩;replace hT:=hide (hT.out.later hb0);clear hb0 k0 k1 l0 l1;obtain⟨k0,k1,-,-⟩:=hT.out.fst.box;obtain⟨l0,l1,-,-⟩:=hT.out.snd.box;clear HNR;go_wp2_with fail
  go_region_held3 (fun w'=>w'.cell? ⟨w.heap.size,0,none⟩=some (.int .i64 sa)∧w'.cell? ⟨w.heap.size,1,none⟩=some (.slice ao a.length acap)∧w'.cell? ⟨w.heap.size+1,0,none⟩=some (.int .i64 sb)∧w'.cell? ⟨w.heap.size+1,1,none⟩=some (.slice bo b.length bcap)) (go_keep)
    (first
     |(go_at_call 103;refine(zgm _ _ _ b a (HB.out.below hT.out.drew.below zL) (HA.out.below hT.out.drew.below zL) hll HL.out).mono ?_;rintro e w1 ⟨v1,ds,rfl,hd1,hv1,hl1,hb1⟩;have HD1:=hide hd1;have HV:=hide hv1;have hT1:=hide (hT.out.drew.later hb1);clear hd1 hv1 hb1;obtain⟨p0,p1,-,-⟩:=hT1.out.fst.box;obtain⟨q0,q1,-,-⟩:=hT1.out.snd.box)
     |(go_at_call 100;refine(zap _ sb _ ds HD1.out (by omega)).mono ?_;rintro e w2 ⟨r,rfl,hr,hb2⟩;have hT2:=hide (hT1.out.later hb2);clear hb2;obtain⟨p0',p1',-,-⟩:=hT2.out.fst.box;obtain⟨q0',q1',-,-⟩:=hT2.out.snd.box;obtain⟨c0,c1,f0,f1⟩:=hT2.out.res.box;rw [HV.out,HE.out] at hr;replace hr:=hr.mono (show ds.length≤n+1 by omega);have HR:=hide hr;obtain⟨sr,o,l,c,rfl,-⟩:=hr.form;clear hr))
  have HF:=hide (boxedR (w:=w) HR.out hT2.out.res hT2.out.below (by omega));clear hT1 hT2 HR HD1 HV HE;go_wp2;exact bodyPost_ret (v:=.agg #[.int .i64 sr,.slice o l c]) (by simp [results,Tryz.results61,go_sem,c0,c1]) rfl HF.out
theorem zaF (w:World)(va:Value)(x:Int)(n:Nat)(ha:NumR w va x n):
  Calls Tryz.prog 60 #[va] w fun e w'=>RefPost w (-x) n e w':=by
 have HNA:=hide ha;obtain⟨sa,la,a,rfl,hla,nra,hx,hsa,hna⟩:=ha;have HA:=hide hla;obtain⟨ao,acap,rfl,-⟩:=hla;have hsa':(a.length=0∧-sa=0∧Value.slice ao a.length acap=.slice none 0 0)∨(0<a.length∧(-sa=1∨-sa=-1)):=by
  rcases hsa with⟨h1,h2,h3⟩ |⟨h1,h2⟩
  ·exact .inl ⟨h1,by omega,h3⟩
  ·exact .inr ⟨h1,by omega⟩
 have HB:Hid (Below w.heap.size w ((w.alloc (.cells #[.int .i64 sa,.slice ao a.length acap] 40)).alloc (.cells #[.int .i64 (-sa),.slice ao a.length acap] 40))):=((zB _ _).alloc zL _).alloc (by simp) _;have HF:Hid (RefPost w (-x) n (.returned (.agg #[.int .i64 (-sa),.slice ao a.length acap])) ((w.alloc (.cells #[.int .i64 sa,.slice ao a.length acap] 40)).alloc (.cells #[.int .i64 (-sa),.slice ao a.length acap] 40))):=
  ⟨_,rfl,⟨-sa,_,a,rfl,HA.out.below HB.out zL,nra,by rw [hx,Int.neg_mul],hsa',hna⟩,HB.out⟩
 clear HA HNA HB;have hsr:sa=0∨sa=1∨sa=-1:=by rcases hsa with⟨h1,h2,h3⟩ |⟨h1,h2⟩ <;> omega
 clear hsa hsa';have hneg:IntKind.i64.wrap (-sa)=-sa:=by rcases hsr with h | h | h <;> subst h <;> decide
 go_enter Tryz.func60,Tryz.ntmps60;go_wp2;exact bodyPost_ret (v:=.agg #[.int .i64 (-sa),.slice ao a.length acap]) (by simp [results,Tryz.results60,go_sem]) rfl HF.out
def RowI (w:World)(g:Nat)(zs:List Int):Prop:=
 (∃ cur fz,w.heap[g]?=some (.cells cur 3 fz))∧DB zs∧∀ j,j<zs.length→w.cell? ⟨g,j,none⟩=some (.int .i64 (zs.getD j 0))∧w.frozen? ⟨g,j,none⟩=false
theorem zj8 (m:Nat)(hm:m≤1000000000000)(W:World):(Instr.makeSlice 38 (.int .i64 (m:Int)) (.int .i64 (m:Int))).run Tryz.prog W=.ok (.slice (some ⟨W.heap.size,0,none⟩) m m) (W.alloc (.cells (madeCells #[.int .i64 0] m) 3)):=by
 obtain⟨i0,hi,hz0,hz1,hz2⟩:=info_parts Tryz.infoInt;have h:=run_make (P:=Tryz.prog) W 38 3 i0 (.int .i64 0) Tryz.underlying38 hi hz0 .i64 .i64 m m (by omega) (by omega) (by rw [hz2];omega) (by omega);rw [hz1,Int.toNat_natCast,Nat.mul_one] at h;exact h
theorem RowI.made (w:World)(m:Nat)(g:Nat)(hg:g=w.heap.size):RowI (w.alloc (.cells (madeCells #[.int .i64 0] m) 3)) g (List.replicate m 0):=by
 subst hg;refine⟨⟨_,_,heap_alloc_new w _⟩,zgz m,fun j hj=>⟨?_,World.frozen?_alloc_new _ _ _ _⟩⟩;rw [List.length_replicate] at hj;rw [World.cell?_alloc_new];simp [madeCells,hj,Nat.mod_one,List.getD_eq_getElem?_getD]
theorem RowI.store(h:RowI w g zs)(hk:k<zs.length){z:Int}(hz:0≤z∧z<10000):RowI (w.setCell ⟨g,k,none⟩ (.int .i64 z)) g (zs.set k z):=by
 obtain⟨⟨cur,fz,h1⟩,h2,h3⟩:=h;refine⟨⟨cur.setIfInBounds k (.int .i64 z),fz,?_⟩,zgA h2 k hz,fun j hj=>?_⟩
 ·simp [World.setCell,Array.getElem?_modify,h1]
 rw [List.length_set] at hj;obtain⟨c1,c2⟩:=h3 j hj;obtain⟨c3,c4⟩:=h3 k hk;rw [World.frozen?_setCell,zJ zs k j z hk];refine⟨?_,c2⟩;by_cases e:j=k
 ·subst e;rw [if_pos rfl];exact World.cell?_setCell_same (h:=c3) ..
 ·rw [if_neg e,← c1];exact World.cell?_setCell_other (h:=fun h=>e (congrArg Addr.off h).symm) ..
theorem RowI.dig(h:RowI w g zs)(hl:zs.length≤1000000000000)(cap:Nat)(hc:zs.length≤cap):Dig w (.slice (some ⟨g,0,none⟩) zs.length cap) zs:=by
 obtain⟨⟨cur,fz,h1⟩,h2,h3⟩:=h;exact⟨_,cap,rfl,hc,hl,h2,fun _=>⟨g,0,cur,fz,rfl,h1,fun i hi=>by rw [Nat.zero_add];exact(h3 i hi).1⟩⟩
theorem ThreeR.drewN(h:ThreeR w W a0 a1 b0 b1 r0 r1)(n:Nat):ThreeR w (W.drewN n) a0 a1 b0 b1 r0 r1:=⟨h.fst,h.snd,h.res,zW h.below n,h.size⟩
theorem ThreeR.set(h:ThreeR w W a0 a1 b0 b1 r0 r1)(hg:w.heap.size+1+1+1≤g)(k:Nat)(u:Value):ThreeR w (W.setCell ⟨g,k,none⟩ u) a0 a1 b0 b1 r0 r1:=
 ⟨h.fst.other (by omega) _ _,h.snd.other (by omega) _ _,h.res.other (by omega) _ _,h.below.setCell (by simp;omega) _,by simpa [World.setCell] using h.size⟩
def TInv (wr:World)(g:Nat)(a b:List Int)(i j:Nat)(cy:Int)(zs:List Int):Prop:=
 zs.length=a.length+b.length+1∧RowI wr g zs ∧
  dv zs+dp (i+j)*cy=dv (a.take i)*dv b+dp i *(a.getD i 0*dv (b.take j))∧(∀ t,i+b.length≤t→i+j≤t→zs.getD t 0=0)∧0≤cy∧cy<10000
def TOut (wr:World)(g:Nat)(a b:List Int)(i:Nat)(zs:List Int):Prop:=
 zs.length=a.length+b.length+1∧RowI wr g zs∧dv zs=dv (a.take i)*dv b∧∀ t,i+b.length≤t→zs.getD t 0=0
theorem TOut.inner(h:TOut wr g a b i zs):TInv wr g a b i 0 0 zs:=by
 obtain⟨h1,h2,h4,h5⟩:=h;exact⟨h1,h2,by simp [dv,h4],fun t ht _=>h5 t ht,by decide,by decide⟩
theorem TInv.step(h:TInv wr g a b i j cy zs)(ha:DB a)(hb:DB b)(hi:i<a.length)(hj:j≤b.length){T:Int}(hT:T=zs.getD (i+j) 0+cy+a.getD i 0*b.getD j 0):
  TInv (wr.setCell ⟨g,i+j,none⟩ (.int .i64 (T%10000))) g a b i (j+1) (T/10000) (zs.set (i+j) (T%10000)):=by
 obtain⟨h1,h2,h4,h5,h6,h7⟩:=h;have hx:=ha i;have hy:=hb j;have hz:=h2.2.1 (i+j);have hp0:0≤a.getD i 0*b.getD j 0:=Int.mul_nonneg hx.1 hy.1;have hp1:a.getD i 0*b.getD j 0≤9999*9999:=Int.mul_le_mul (by omega) (by omega) hy.1 (by omega);refine⟨by rw [List.length_set];exact h1,h2.store (by omega) (by omega),?_,fun t ht ht'=>?_,by omega,by omega⟩
 ·rw [zhQ _ _ _ (by omega),zaQ];have e:dp (i+j) *(T%10000+10000 *(T/10000))=dp (i+j)*T:=by rw [Int.emod_add_mul_ediv]
  have e2:dp (i+(j+1)) *(T/10000)=dp (i+j) *(10000 *(T/10000)):=by rw [← Nat.add_assoc];simp only [dp];rw [Int.mul_comm 10000 (dp (i+j)),Int.mul_assoc]
  have e3:dp (i+j) *(a.getD i 0*b.getD j 0)=dp i *(a.getD i 0 *(dp j*b.getD j 0)):=by
   rw [zeO,Int.mul_assoc,Int.mul_left_comm (dp j)]
  rw [e2,Int.mul_sub];rw [Int.mul_add] at e;rw [hT,Int.mul_add,Int.mul_add] at e;rw [← hT] at e;rw [Int.mul_add,Int.mul_add];omega
 ·rw [zJ _ _ _ _ (by omega),if_neg (by omega)];exact h5 t ht (by omega)
theorem TInv.drewN(h:TInv wr g a b i j cy zs)(n:Nat):TInv (wr.drewN n) g a b i j cy zs:=h
theorem TInv.done(h:TInv wr g a b i j 0 zs)(hj:b.length≤j)(hj':j≤b.length+1):TOut wr g a b (i+1) zs:=by
 obtain⟨h1,h2,h4,h5,h6,h7⟩:=h;refine⟨h1,h2,?_,fun t ht=>h5 t (by omega) (by omega)⟩;rw [zbM b hj,Int.mul_zero,Int.add_zero] at h4;rw [h4,zaQ,Int.add_mul,Int.mul_assoc]
theorem zba (w:World)(va vb:Value)(x0 y0:Int)(n m:Nat)(ha:NumR w va x0 n)(hb:NumR w vb y0 m)(hn:n≤400000000000)(hm:m≤400000000000):
  Calls Tryz.prog 59 #[va,vb] w fun e w'=>RefPost w (x0*y0) (n+m+1) e w':=by
 obtain⟨sa,la,a,rfl,hla,nra,hx0,hsa,hna⟩:=ha;obtain⟨sb,lb,b,rfl,hlb,nrb,hy0,hsb,hnb⟩:=hb;have HA:=hide hla;have HB:=hide hlb;obtain⟨ao,acap,rfl,hacap,halen,hadb,-⟩:=hla;obtain⟨bo,bcap,rfl,hbcap,hblen,hbdb,-⟩:=hlb;have HX:=hide hx0;clear hx0;have HY:=hide hy0;clear hy0;clear nra nrb;have HSS:Hid ((sa*sb=1∨sa*sb=-1)∨(sa*sb=0∧dv a*dv b=0)):=by
  show _∨_;rcases hsa with⟨h1,h2,-⟩ |⟨-,h2⟩
  ·right;subst h2;rw [List.eq_nil_of_length_eq_zero h1];simp [dv]
  ·rcases hsb with⟨h3,h4,-⟩ |⟨-,h4⟩
   ·right;subst h4;rw [List.eq_nil_of_length_eq_zero h3];simp [dv]
   ·left;rcases h2 with h2 | h2 <;> rcases h4 with h4 | h4 <;> subst h2 <;> subst h4 <;> decide
 have hmk:=zj8 (a.length+b.length+1) (by omega);rw [show((a.length+b.length+1:Nat):Int)=(a.length:Int)+(b.length:Int)+1 by omega] at hmk;have hss:-1≤sa*sb∧sa*sb≤1:=by rcases HSS.out with h |⟨h,-⟩ <;> omega
 clear hsa hsb;go_enter Tryz.func59,Tryz.ntmps59;have hT:=hide (threeR w (.int .i64 sa) (.slice ao a.length acap) (.int .i64 sb) (.slice bo b.length bcap) (.int .i64 0) (.slice none 0 0));go_wp2;have hT0:=hide (hT.out.later ((zB _ _).alloc zL (.cells (madeCells #[.int .i64 0] (a.length+b.length+1)) 3)));have hO:=hide (show TOut _ (w.heap.size+1+1+1) a b 0 _ from⟨List.length_replicate,RowI.made (((w.alloc (.cells #[.int .i64 sa,.slice ao a.length acap] 40)).alloc (.cells #[.int .i64 sb,.slice bo b.length bcap] 40)).alloc (.cells #[.int .i64 0,.slice none 0 0] 40)) (a.length+b.length+1) _ (by simp),by simp [dv,zhP],fun _ _=>zdn _ _⟩);clear hT;go_loopw [6] (fun i wr=>∃(k:Nat) (zs:List Int),k≤a.length∧i=.int .i64 k∧ThreeR w wr (.int .i64 sa) (.slice ao a.length acap) (.int .i64 sb) (.slice bo b.length bcap) (.int .i64 0) (.slice none 0 0)∧TOut wr (w.heap.size+1+1+1) a b k zs) (fun i _=>a.length-(intOf i).toNat)
 case atStart=>exact⟨0,_,Nat.zero_le _,rfl,hT0.out,hO.out⟩
 case round=>
  clear hT0 hO;obtain⟨i,zs,hi,rfl,hTr,hout⟩:=hrel;obtain⟨k0,k1,-,-⟩:=hTr.fst.box;obtain⟨l0,l1,-,-⟩:=hTr.snd.box;by_cases hlt:i<a.length
  ·have HO:=hide hout;have HT1:=hide hTr;clear hout hTr;go_wp2;go_loopw [7,8] (fun c j wr=>∃(k:Nat) (cy:Int) (zs:List Int),k≤b.length+1∧(b.length<k→cy=0)∧j=.int .i64 k∧c=.int .i64 cy∧ThreeR w wr (.int .i64 sa) (.slice ao a.length acap) (.int .i64 sb) (.slice bo b.length bcap) (.int .i64 0) (.slice none 0 0)∧TInv wr (w.heap.size+1+1+1) a b i k cy zs) (fun _ j _=>b.length+1-(intOf j).toNat)
   case atStart=>exact⟨0,0,zs,Nat.zero_le _,fun _=>rfl,rfl,rfl,HT1.out,HO.out.inner⟩
   case round=>
    clear HO HT1 k0 k1 l0 l1;obtain⟨j,cy,ys,hj,hjc,rfl,rfl,hTr,hinv⟩:=hrel;obtain⟨k0,k1,-,-⟩:=hTr.fst.box;obtain⟨l0,l1,-,-⟩:=hTr.snd.box;have hc0:=hinv.2.2.2.2.1;have hc1:=hinv.2.2.2.2.2;by_cases hend:b.length≤j∧cy=0
    ·obtain⟨he,rfl⟩:=hend;have HD:=hide (hinv.done he hj);have HT2:=hide hTr;clear hinv hTr;go_wp2;go_roundw
     case rel=>exact⟨i+1,_,by omega,by go_num,HT2.out,HD.out⟩
     case measure=>simp [intOf];omega
    ·have hjl:j≤b.length:=by
      rcases Nat.lt_or_ge b.length j with h | h
      ·exact absurd ⟨by omega,hjc h⟩ hend
      ·exact h
     obtain⟨hcell,hfr⟩:=hinv.2.1.2.2 (i+j) (by have:=hinv.1;omega);have hgz:=hinv.2.1.2.1 (i+j);have hgx:=hadb i;have hgy:=hbdb j;have hyl:=hinv.1;by_cases hjb:j<b.length
     ·have HST:=hide (fun T h=>hinv.step hadb hbdb hlt (j:=j) hjl (T:=T) h);have HT2:=hide hTr;obtain⟨ao',acap',ea,-,-,-,hac⟩:=HA.out.below hTr.below zL;obtain⟨bo',bcap',eb,-,-,-,hbc⟩:=HB.out.below hTr.below zL;simp only [zV,true_and] at ea eb;obtain⟨rfl,rfl⟩:=ea;obtain⟨rfl,rfl⟩:=eb;obtain⟨ab,aoff,acur,afz,rfl,-,hac⟩:=hac (by omega);obtain⟨bb,boff,bcur,bfz,rfl,-,hbc⟩:=hbc (by omega);have hca:=hac i hlt;have hcb:=hbc j hjb;clear hac hbc hinv hTr hend hjc;generalize a.getD i 0=x at *;generalize b.getD j 0=y at *;generalize ys.getD (i+j) 0=z at *;have hp0:0≤x*y:=Int.mul_nonneg hgx.1 hgy.1;have hp1:x*y≤9999*9999:=Int.mul_le_mul (by omega) (by omega) hgy.1 (by omega);have HS:=hide (HST.out _ rfl);clear HST;generalize hpe:x*y=q at *;go_wp2
      go_quiet (fail)
      go_wp2;go_roundw
      case rel=>exact⟨j+1,_,_,by omega,fun h=>absurd h (by omega),by go_num,rfl,(HT2.out.drewN _).set zL _ _,HS.out.drewN _⟩
      case measure=>simp [intOf];omega
     ·obtain rfl:j=b.length:=by omega
      have hcp:0<cy:=by omega
      have hz0:ys.getD (i+b.length) 0=0:=hinv.2.2.2.1 _ zL  zL;have HS:=hide (hinv.step hadb hbdb hlt (j:=b.length) hjl (T:=cy) (by rw [hz0,zbP b _ zL];omega));rw [hz0] at hcell;have HT2:=hide hTr;have hm:cy%10000=cy:=by omega
      have hq:cy/10000=0:=by omega
      have HQ:=hide hq;clear hq;rw [hm] at HS;have hcd:decide (0<cy)=true:=decide_eq_true hcp;clear hinv hTr hend hjc hgz hz0;go_wp2;go_roundw
      case rel=>exact⟨b.length+1,_,_,by omega,fun _=>HQ.out,by go_num,rfl,HT2.out.set zL _ _,HS.out⟩
      case measure=>simp [intOf]
  ·obtain rfl:i=a.length:=by omega
   have HV:=hide (show dv zs=dv a*dv b by have:=hout.2.2.1;rw [List.take_length] at this;exact this);have hzl:=hout.1;have HD:=hide (hout.2.1.dig (by omega) (a.length+b.length+1) (by omega));have HT2:=hide hTr;clear hout hTr;go_wp2_with fail;refine(zap wr (sa*sb) _ zs (by rw [← hzl];rw [hzl];exact hzl ▸ HD.out) (by rw [HV.out];have:=HSS.out;omega)).mono ?_;rintro e w2 ⟨r,rfl,hr,hb2⟩;have hT3:=HT2.out.later hb2;rw [HV.out,show sa*sb *(dv a*dv b)=x0*y0 by rw [HX.out,HY.out,Int.mul_assoc,Int.mul_assoc,Int.mul_left_comm sb]] at hr;replace hr:=hr.mono (show zs.length≤n+m+1 by omega);have HR:=hide hr;obtain⟨sr,o,l,c,rfl,-⟩:=hr.form;obtain⟨c0,c1,f0,f1⟩:=hT3.res.box;have HF:=hide (boxedR (w:=w) HR.out hT3.res hT3.below (by omega));clear hr hT3 hb2 HR HT2 HD HV HX HY HSS;go_wp2;exact bodyPost_ret (v:=.agg #[.int .i64 sr,.slice o l c]) (by simp [results,Tryz.results59,go_sem,c0,c1]) rfl HF.out
end Go.Proofs.YtdedolkgcdlmeaaGreatDoor
