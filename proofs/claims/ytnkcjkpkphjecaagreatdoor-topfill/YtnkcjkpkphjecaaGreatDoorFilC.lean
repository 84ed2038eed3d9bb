import Derived.Test.YtnkcjkpkphjecaaGreatDoorVecW
import Derived.Test.YtnkcjkpkphjecaaGreatDoorKerT
import Derived.Test.YtnkcjkpkphjecaaGreatDoorBeside
import Derived.Test.YtnkcjkpkphjecaaGreatDoorLatG
import Derived.Test.YtnkcjkpkphjecaaGreatDoorSmT
import Derived.Test.YtnkcjkpkphjecaaGreatDoorOpenG
import Derived.Test.YtnkcjkpkphjecaaGreatDoorTl
import Derived.Test.YtnkcjkpkphjecaaGreatDoorMix
namespace Go.Proofs.YtnkcjkpkphjecaaGreatDoor
open Go.RowKit Limbs
def SignPost (w:World)(z:Int)(n:Nat)(ao:Option Addr)(cap:Nat)(e:Ending)(w':World):Prop:=NumPost w z n e w'∧∃ b l,e=.returned (.agg #[.bool b,.slice ao l cap])
set_option maxHeartbeats 400000 in
theorem zgm (w:World)(neg:Bool)(ao:Option Addr)(cap:Nat)(zs:List Int)(n:Nat)(h:Lim w (.slice ao zs.length cap) zs)(hn:zs.length≤n):
  Calls Tryz.prog 31 #[.bool neg,.slice ao zs.length cap] w fun e w'=>SignPost w (if neg=true then - lv zs else lv zs) n ao cap e w':=by
 have HL:Hid (Lim w (.slice ao zs.length cap) zs):=h
 obtain⟨ao',cap',hv,hcap,hlen,hlb,hc⟩:=h
 simp only [Value.slice.injEq,true_and] at hv
 obtain⟨rfl,rfl⟩:=hv
 clear hc
 go_enter Tryz.func31,Tryz.ntmps31
 go_wp2_with fail
 refine(zd6 _ _ _ zs (HL.out.below ((Below.refl _ _).alloc zL _) zL)).mono ?_
 rintro e w' ⟨m,hm,rfl,hv,hnr,rfl⟩
 have HV:Hid (lv (zs.take m)=lv zs):=hv
 clear hv
 have hl:(zs.take m).length=m:=by rw [List.length_take];omega
 have HL2:=HL.out.take m hm
 cases neg
 ·have HF:Hid (NumPost w (lv zs) n (.returned (.agg #[.bool false,.slice ao m cap])) (w.alloc (Obj.cells #[Value.bool false,.slice ao m cap] 42))):=
   ⟨_,rfl,⟨false,_,zs.take m,rfl,HL2.below ((Below.refl _ _).alloc zL _) zL,hnr,fun _=>rfl,HV.out.symm,by omega⟩,(Below.refl _ _).alloc zL _⟩
  go_wp2
  exact bodyPost_ret (v:=.agg #[.bool false,.slice ao m cap]) (by simp [results,Tryz.results31,go_sem]) rfl ⟨HF.out,_,_,rfl⟩
 ·by_cases h0:m=0
  ·subst h0
   have HF:Hid (NumPost w (-lv zs) n (.returned (.agg #[.bool false,.slice ao 0 cap])) (w.alloc (Obj.cells #[Value.bool false,.slice ao 0 cap] 42))):=
    ⟨_,rfl,⟨false,_,zs.take 0,rfl,HL2.below ((Below.refl _ _).alloc zL _) zL,hnr,fun _=>rfl,by have:=HV.out;simp [lv] at this ⊢;omega,by omega⟩,(Below.refl _ _).alloc zL _⟩
   go_wp2
   exact bodyPost_ret (v:=.agg #[.bool false,.slice ao 0 cap]) (by simp [results,Tryz.results31,go_sem]) rfl ⟨HF.out,_,_,rfl⟩
  ·have HF:Hid (NumPost w (-lv zs) n (.returned (.agg #[.bool true,.slice ao m cap])) (w.alloc (Obj.cells #[Value.bool true,.slice ao m cap] 42))):=
    ⟨_,rfl,⟨true,_,zs.take m,rfl,HL2.below ((Below.refl _ _).alloc zL _) zL,hnr,fun h=>absurd h (by omega),by rw [if_pos rfl,HV.out],by omega⟩,(Below.refl _ _).alloc zL _⟩
   have hd:decide (0 < m)=true:=by simp;omega
   go_wp2
   exact bodyPost_ret (v:=.agg #[.bool true,.slice ao m cap]) (by simp [results,Tryz.results31,go_sem]) rfl ⟨HF.out,_,_,rfl⟩
set_option maxHeartbeats 800000 in
theorem zjx (w:World)(n:Int)(h0:-9223372036854775808≤n)(h1:n≤9223372036854775807):
  Calls Tryz.prog 18 #[.int .i64 n] w fun e w'=>IntPost w n 2 e w':=by
 by_cases hn:n < 0
 ·have hw:IntKind.u64.wrap (-IntKind.u64.wrap n)=-n:=by rw [IntKind.wrap_u64,IntKind.wrap_u64];omega
  have hw2:-n / 4294967296 % 4294967296=-n / 4294967296:=by omega
  have HN:=hide (zcx (-n))
  go_enter Tryz.func18,Tryz.ntmps18
  go_wp2_with fail
  refine(zgm _ _ _ _ [-n % 4294967296,-n / 4294967296] 2 (zcu _ _ _ _ (by omega) (by omega) _ (by simp)) zL).mono ?_
  rintro e w2 ⟨⟨r,rfl,hr,hb2⟩,sb,sl,es⟩
  simp only [Ending.returned.injEq] at es
  subst es
  obtain⟨c0,c1,f0,f1⟩:=Box.later (B:=w.heap.size) ((zg w _ _ _ _ rfl).later ((Below.refl _ _).alloc (by simp) _:Below (w.heap.size+1) _ _) (by omega)) hb2 (by simp;omega)
  rw [HN.out,if_pos rfl,Int.neg_neg] at hr
  have HF:=hide (fun rn rs (h:NumL w2 (.agg #[.bool rn,rs]) n 2)=>boxed (w:=w) h c0 c1 (by simp) (by simp) ((((Below.refl _ _).alloc zL _).alloc (by simp) _).trans (hb2.mono (by simp;omega))) zL)
  have HR:=hide hr
  clear hb2 hr
  go_wp2
  exact bodyPost_ret (v:=_) (by simp [results,Tryz.results18,go_sem,c0,c1]) rfl ⟨HF.out _ _ HR.out,fun neg s e a l c h=>by simp only [Ending.returned.injEq,Value.agg.injEq,Array.mk.injEq,List.cons.injEq,and_true] at e;rw [← e.2] at h;simp only [Value.slice.injEq,Option.some.injEq] at h;rw [← h.1];simp⟩
 ·have HN:=hide (zcx n)
  go_enter Tryz.func18,Tryz.ntmps18
  go_wp2_with fail
  refine(zgm _ _ _ _ [n % 4294967296,n / 4294967296] 2 (zcu _ _ _ _ (by omega) (by omega) _ (by simp)) zL).mono ?_
  rintro e w2 ⟨⟨r,rfl,hr,hb2⟩,sb,sl,es⟩
  simp only [Ending.returned.injEq] at es
  subst es
  obtain⟨c0,c1,f0,f1⟩:=Box.later (B:=w.heap.size) ((zg w _ _ _ _ rfl).later ((Below.refl _ _).alloc (by simp) _:Below (w.heap.size+1) _ _) (by omega)) hb2 (by simp;omega)
  rw [HN.out,if_neg (by decide)] at hr
  have HF:=hide (fun rn rs (h:NumL w2 (.agg #[.bool rn,rs]) n 2)=>boxed (w:=w) h c0 c1 (by simp) (by simp) ((((Below.refl _ _).alloc zL _).alloc (by simp) _).trans (hb2.mono (by simp;omega))) zL)
  have HR:=hide hr
  clear hb2 hr
  go_wp2
  exact bodyPost_ret (v:=_) (by simp [results,Tryz.results18,go_sem,c0,c1]) rfl ⟨HF.out _ _ HR.out,fun neg s e a l c h=>by simp only [Ending.returned.injEq,Value.agg.injEq,Array.mk.injEq,List.cons.injEq,and_true] at e;rw [← e.2] at h;simp only [Value.slice.injEq,Option.some.injEq] at h;rw [← h.1];simp⟩
def NewV (w W:World)(P k:Nat):Prop:=∀ i,i < k→∀ o l c,W.cell? ⟨P,i * 2+1,none⟩=some (.slice o l c)→NewSl w (.slice o l c)
theorem NewV.set {w W W2:World}{P k n:Nat}{zs:List Int}(h:NewV w W P k)(hv:VecO w W P zs n)(hk:k < zs.length)(hb:Below W.heap.size W W2){o:Option Addr}{l c:Nat}(hn:NewSl W (.slice o l c))(rn:Bool):
  NewV w ((W2.setCell ⟨P,k * 2,none⟩ (.bool rn)).setCell ⟨P,k * 2+1,none⟩ (.slice o l c)) P (k+1):=fun i hi o' l' c' e=>by
 by_cases e1:i=k
 ·subst e1
  obtain⟨neg0,o0,l0,c0,k0,k1,-⟩:=(hv.later hb).at i hk
  have k1':(W2.setCell ⟨P,i * 2,none⟩ (.bool rn)).cell? ⟨P,i * 2+1,none⟩=some (.slice o0 l0 c0):=(World.cell?_setCell_other (h:=fun e=>by simp at e) ..).trans k1
  rw [World.cell?_setCell_same (h:=k1')] at e
  simp only [Option.some.injEq] at e
  rw [← e]
  intro a l2 c2 h2
  exact Nat.le_trans hv.below.size (hn a l2 c2 h2)
 ·have e2:((W2.setCell ⟨P,k * 2,none⟩ (.bool rn)).setCell ⟨P,k * 2+1,none⟩ (.slice o l c)).cell? ⟨P,i * 2+1,none⟩=W2.cell? ⟨P,i * 2+1,none⟩:=
   (World.cell?_setCell_other (h:=fun e=>by simp at e <;> omega) ..).trans (World.cell?_setCell_other (h:=fun e=>by simp at e <;> omega) ..)
  rw [e2,hb.cell (p:=⟨P,i * 2+1,none⟩) hv.lt] at e
  exact h i (by omega) o' l' c' e
set_option maxRecDepth 100000 in
set_option maxHeartbeats 1600000 in
theorem zjw (w:World)(v:Value)(ks:List Int)(hv:RowS w v ks)(h8:ks.length≤1000):
  Calls Tryz.prog 19 #[v] w fun e w'=>∃ P,e=.returned (.slice (some ⟨P,0,none⟩) ks.length ks.length)∧VecO w w' P ks 2∧NewV w w' P ks.length:=by
 have HV:=hide hv
 obtain⟨ao,cap,rfl,-,hk64,-⟩:=hv
 have HK:=hide hk64
 have hmk:=zbp ks.length (by omega)
 have HI:=hide (VecO.made w w (Below.refl _ _) ks.length 2)
 clear hk64
 go_enter Tryz.func19,Tryz.ntmps19
 go_wp2
 clear hmk
 go_loopw [10] (fun i wr=>∃ k:Nat,k≤ks.length∧i=.int .i64 k∧VecO w wr w.heap.size (ks.take k ++ List.replicate (ks.length - k) 0) 2∧Hid (NewV w wr w.heap.size k)) (fun i _=>ks.length - (intOf i).toNat)
 case atStart=>exact⟨0,Nat.zero_le _,rfl,HI.out,hide fun i hi=>absurd hi (Nat.not_lt_zero i)⟩
 case round=>
  clear HI
  obtain⟨k,hk,rfl,hinv,HNV⟩:=hrel
  have HI:=hide hinv
  clear hinv
  by_cases hkl:k < ks.length
  ·obtain⟨_,_,e,-,-,hc⟩:=HV.out.below HI.out.below zL
   simp only [Value.slice.injEq,true_and] at e
   obtain⟨rfl,rfl⟩:=e
   obtain⟨b,off,rfl,-,hc⟩:=hc (by omega)
   have c0:=hc k hkl
   have HFS:=hide (zaQ ks k hkl)
   have hfl:=zaE ks k hk
   have hkl':k < (ks.take k ++ List.replicate (ks.length - k) 0).length:=by omega
   have H64:=hide (HK.out k)
   clear hc
   generalize ks.getD k 0=z at *
   go_wp2_with fail
   refine(zjx wr z H64.out.1 H64.out.2).mono ?_
   rintro e w2 ⟨⟨r,rfl,hr,hb⟩,hnew⟩
   obtain⟨⟨rn,ro,rl,rc⟩,rfl⟩:=hr.nm
   have HN2:=hide (HNV.out.set HI.out hkl' hb (hnew _ _ rfl) rn)
   have HI2:=hide (HI.out.later hb)
   obtain⟨neg0,o0,l0,c0',k0,k1,-⟩:=HI2.out.at k (by omega)
   have f0:=HI2.out.thaw (k * 2)
   have f1:=HI2.out.thaw (k * 2+1)
   have hP:=HI2.out.lt
   have HN:=hide (HI2.out.set (k:=k) (by omega) hr)
   rw [HFS.out] at HN
   clear hb hr hnew HNV HI HI2 HFS H64 c0
   go_wp2
   go_roundw
   case rel=>exact⟨k+1,by omega,by go_num,HN.out,HN2⟩
   case measure=>simp [intOf];omega
  ·obtain rfl:k=ks.length:=by omega
   have HF:=hide HI.out.full
   clear HI
   go_wp2
   go_ret
   exact⟨_,rfl,HF.out,HNV.out⟩
end Go.Proofs.YtnkcjkpkphjecaaGreatDoor
/- mat.traced: of each place a row, and its unit behind it. -/
namespace Go.Proofs.YtnkcjkpkphjecaaGreatDoor
open Go.RowKit Limbs
theorem zfA (qs:List (Nm × Int)):(qs.flatMap ncells).length=qs.length * 2:=by
 induction qs with
 | nil=>rfl
 | cons p qs ih=>rw [List.flatMap_cons,List.length_append,ih,List.length_cons];simp [ncells];omega
theorem zjr (qs:List (Nm × Int))(u:Value)(hu:u∈qs.flatMap ncells):u.oneCell'=true:=by
 obtain⟨p,-,h⟩:=List.mem_flatMap.1 hu
 simp only [ncells,List.mem_cons,List.mem_nil_iff,or_false] at h
 rcases h with rfl | rfl <;> rfl
theorem VecN.rows {W:World}{P:Nat}{zs:List Int}{n:Nat}(h:VecN W (.slice (some ⟨P,0,none⟩) zs.length zs.length) zs n):
  ∃ qs:List (Nm × Int),qs.map (·.2)=zs∧(∀ j u,(qs.flatMap ncells)[j]?=some u→W.cell? ((⟨P,0,none⟩:Addr).add j)=some u)∧∀ p∈qs,NumL W p.1.val p.2 n∧∀ {w:World},NewV w W P zs.length→NewSl w p.1.sl:=by
 have key:∀ i,i < zs.length→∃ r:Nm,W.cell? ⟨P,i * 2,none⟩=some (.bool r.neg)∧W.cell? ⟨P,i * 2+1,none⟩=some (.slice r.o r.l r.c)∧NumL W r.val (zs.getD i 0) n:=fun i hi=>by
  obtain⟨-,neg,o,l,c,h1,h2,h3⟩:=h.at i hi
  rw [Nat.zero_add] at h1 h2
  exact⟨⟨neg,o,l,c⟩,h1,h2,h3⟩
 let f:Nat→Nm:=fun i=>if hi:i < zs.length then Classical.choose (key i hi) else ⟨false,none,0,0⟩
 have hf:∀ i,i < zs.length→W.cell? ⟨P,i * 2,none⟩=some (.bool (f i).neg)∧W.cell? ⟨P,i * 2+1,none⟩=some (.slice (f i).o (f i).l (f i).c)∧NumL W (f i).val (zs.getD i 0) n:=fun i hi=>by
  have:=Classical.choose_spec (key i hi)
  simpa only [f,dif_pos hi] using this
 let qs:List (Nm × Int):=(List.range zs.length).map fun i=>(f i,zs.getD i 0)
 have hl:qs.length=zs.length:=by simp [qs]
 have hq:∀ i (hi:i < qs.length),qs[i]=(f i,zs.getD i 0):=fun i hi=>by simp [qs]
 refine⟨qs,?_,fun j u hj=>?_,fun p hp=>?_⟩
 ·apply List.ext_getElem (by rw [List.length_map,hl])
  intro i h1 h2
  rw [List.getElem_map,hq i (by omega),List.getD_eq_getElem?_getD,List.getElem?_eq_getElem h2];rfl
 ·have hjl:j < (qs.flatMap ncells).length:=(List.getElem?_eq_some_iff.1 hj).1
  rw [zfA,hl] at hjl
  have ea:(⟨P,0,none⟩:Addr).add j=⟨P,j,none⟩:=by unfold Addr.add;split <;> simp_all
  rw [ea]
  obtain⟨e1,e2⟩:=zfz qs (j / 2) (by omega)
  rw [hq _ (by omega)] at e1 e2
  obtain⟨c1,c2,-⟩:=hf (j / 2) (by omega)
  rcases(by omega:j=j / 2 * 2∨j=j / 2 * 2+1) with e | e
  ·rw [← e] at e1 c1
   rw [hj] at e1
   rw [c1,e1]
  ·rw [← e] at e2 c2
   rw [hj] at e2
   rw [c2,e2]
 ·obtain⟨i,hi,rfl⟩:=List.getElem_of_mem hp
  rw [hq i hi]
  obtain⟨c1,c2,c3⟩:=hf i (by omega)
  exact⟨c3,fun hn=>hn i (by omega) _ _ _ c2⟩
theorem Tryz.infoInt9:(Tryz.prog.info? 3).map (fun i=>(i.zero,i.size,i.bytes))=some (some (.int .i64 0),1,8):=by kernel_rfl
theorem zjY (m:Nat)(hm:m≤1000)(W:World):(Instr.makeSlice 49 (.int .i64 (m:Int)) (.int .i64 (m:Int))).run Tryz.prog W=.ok (.slice (some ⟨W.heap.size,0,none⟩) m m) (W.alloc (.cells (madeCells #[.int .i64 0] m) 3)):=by
 obtain⟨i0,hi,hz0,hz1,hz2⟩:=info_parts Tryz.infoInt9
 have h:=run_make (P:=Tryz.prog) W 49 3 i0 (.int .i64 0) Tryz.underlying49 hi hz0 .i64 .i64 m m (by omega) (by omega) (by rw [hz2];omega) (by omega)
 rw [hz1,Int.toNat_natCast,Nat.mul_one] at h
 exact h
theorem zk2 (n k:Nat)(hk:k < n)(j:Nat)(hj:j < n):((madeCells #[.int .i64 0] n).setIfInBounds k (.int .i64 1))[j]?=some (.int .i64 ((unitL n k).getD j 0)):=by
 rw [zb9 n k j hj]
 by_cases e:j=k
 ·subst e
  rw [if_pos rfl,Array.getElem?_setIfInBounds_self_of_lt (by simp [madeCells,hk])]
 ·rw [if_neg e,Array.getElem?_setIfInBounds_ne (by omega)]
  simp [madeCells,hj,Nat.mod_one]
set_option linter.unusedSimpArgs false in
set_option maxRecDepth 100000 in
set_option maxHeartbeats 4000000 in
theorem zkU (w:World)(va:Value)(n nv:Nat)(hs:List (List Int))(ha:MatN w va hs nv)(hl:∀ r∈hs,r.length=n)(hn1:1≤n)(hn:n≤100)(hm:hs.length≤100)(h2:2≤nv):
  Calls Tryz.prog 60 #[va,.int .i64 (n:Int)] w fun e w'=>∃ u,e=.returned u∧MatN w' u (tracedL hs n) nv∧Below w.heap.size w w':=by
 obtain⟨i0,hi,hz0,hz1,hz2⟩:=info_parts Tryz.infoNum
 have HT:=hide (zd7 w va n nv hs ha hl hn hm)
 obtain⟨ao,acap,rfl,-,-⟩:=ha
 clear hl
 have hmk:=zjY n (by omega)
 go_enter Tryz.func60,Tryz.ntmps60
 go_wp2_with fail
 refine HT.out.mono ?_
 rintro e w1 ⟨O,vs,ps,rfl,ho,hp⟩
 have HO0:=hide ho;have HP0:Hid (∀ i,i < n→(ps i).map (·.2)=if i < 0 then colL hs i ++ unitL n i else colL hs i):=fun i hi=>by rw [if_neg (Nat.not_lt_zero i)];exact hp i hi
 clear ho hp HT
 go_wp2
 go_loopw [12] (fun x wr=>∃(k:Nat) (vs:Nat→Value) (ps:Nat→List (Nm × Int)),k≤n∧x=.int .i64 k∧Hid (OutG w wr O n vs ps nv)∧Hid (∀ i,i < n→(ps i).map (·.2)=if i < k then colL hs i ++ unitL n i else colL hs i)) (fun x _=>n - (intOf x).toNat)
 case atStart=>exact⟨0,_,_,Nat.zero_le _,rfl,HO0,HP0⟩
 case round=>
  clear HO0 HP0 vs ps
  obtain⟨k,vs,ps,hk,rfl,HOr,HD⟩:=hrel
  by_cases hkl:k < n
  ·have hbu:Below wr.heap.size wr (wr.alloc (.cells ((madeCells #[.int .i64 0] n).setIfInBounds k (.int .i64 1)) 3)):=(Below.refl _ _).alloc zL _
   have hun:k < (madeCells #[Value.int .i64 0] n).size:=by simp [madeCells,hkl]
   have HO:=hide (HOr.out.later hbu)
   have HUS0:Hid (RowS (wr.alloc (.cells ((madeCells #[.int .i64 0] n).setIfInBounds k (.int .i64 1)) 3)) (.slice (some ⟨wr.heap.size,0,none⟩) n n) (unitL n k)):=by
    refine⟨_,_,by rw [zav],by rw [zav];exact Nat.le_refl _,fun i=>?_,fun _=>⟨_,_,rfl,by simp,fun i hi=>?_⟩⟩
    ·by_cases h:i < n
     ·rw [zb9 n k i h];split <;> decide
     ·rw [List.getD_eq_getElem?_getD,List.getElem?_eq_none (by rw [zav];omega)];decide
    ·rw [zav] at hi
     rw [Nat.zero_add,World.cell?_alloc_new]
     exact zk2 n k hkl i hi
   clear hbu HOr
   go_wp2_with fail
   generalize hWX:wr.alloc (.cells ((madeCells #[.int .i64 0] n).setIfInBounds k (.int .i64 1)) 3)=wx at *
   have HUS:=hide (HUS0.out.below (Below.refl wx.heap.size wx).drew zL)
   clear hWX HUS0
   have c5:=HO.out.cell k hkl
   obtain⟨vo,vl,vc,hvk⟩:∃ vo vl vc,vs k=.slice vo vl vc:=by
    rcases(HO.out.grow k hkl).1.2 with⟨e1,-⟩ |⟨g',cap',cur,e1,-⟩
    ·exact⟨_,_,_,e1⟩
    ·exact⟨_,_,_,e1⟩
   rw [hvk] at c5
   have hOlt:=HO.out.lt
   have HVK:=hide hvk
   have HPL:Hid ((ps k).length=hs.length):=by
    have h1:=congrArg List.length (HD.out k hkl)
    rw [if_neg (Nat.lt_irrefl _)] at h1
    unfold colL at h1
    rw [List.length_map,List.length_map] at h1
    exact h1
   have HON:=hide (HO.out.own_ne hkl)
   clear hvk hun
   refine zp (S:=(fun w'=>w'.cell? ⟨O,k,none⟩=some (.slice vo vl vc))) (k:=10) (by kernel_rfl) (by exact c5) (fun hHeld=>?_)
   refine zc (v:=?_) 0 20 [10] rfl rfl (by kernel_rfl) (by kernel_rfl) (by kernel_rfl) (by kernel_rfl) (by kernel_rfl) (fun _ _ _ h=>h) (by rfl) ?_ (by assumption) ?_
   rotate_left
   ·(intro w hSw;(try dsimp only at hSw);go_simp;with_reducible rfl)
   try simp only [zA]
   refine zc (v:=?_) 1 21 [10] rfl rfl (by kernel_rfl) (by kernel_rfl) (by kernel_rfl) (by kernel_rfl) (by kernel_rfl) (fun _ _ _ h=>h) (by rfl) ?_ (by assumption) ?_
   rotate_left
   ·(intro w hSw;(try dsimp only at hSw);go_simp;with_reducible rfl)
   try simp only [zA]
   refine zc (v:=?_) 2 22 [10] rfl rfl (by kernel_rfl) (by kernel_rfl) (by kernel_rfl) (by kernel_rfl) (by kernel_rfl) (fun _ _ _ h=>h) (by rfl) ?_ (by assumption) ?_
   rotate_left
   ·(intro w hSw;(try dsimp only at hSw);go_simp;with_reducible rfl)
   try simp only [zA]
   refine zc (v:=?_) 3 23 [10] rfl rfl (by kernel_rfl) (by kernel_rfl) (by kernel_rfl) (by kernel_rfl) (by kernel_rfl) (fun _ _ _ h=>h) (by rfl) ?_ (by assumption) ?_
   rotate_left
   ·(intro w hSw;(try dsimp only at hSw);go_simp;with_reducible rfl)
   try simp only [zA]
   refine zc (v:=?_) 4 24 [10] rfl rfl (by kernel_rfl) (by kernel_rfl) (by kernel_rfl) (by kernel_rfl) (by kernel_rfl) (fun _ _ _ h=>h) (by rfl) ?_ (by assumption) ?_
   rotate_left
   ·(intro w hSw;(try dsimp only at hSw);go_simp;with_reducible rfl)
   try simp only [zA]
   refine zc (v:=?_) 5 25 [10] rfl rfl (by kernel_rfl) (by kernel_rfl) (by kernel_rfl) (by kernel_rfl) (by kernel_rfl) (fun _ _ _ h=>h) (by rfl) ?_ (by assumption) ?_
   rotate_left
   ·(intro w hSw;(try dsimp only at hSw);go_simp;with_reducible rfl)
   try simp only [zA]
   refine zc (v:=?_) 6 26 [10] rfl rfl (by kernel_rfl) (by kernel_rfl) (by kernel_rfl) (by kernel_rfl) (by kernel_rfl) (fun _ _ _ h=>h) (by rfl) ?_ (by assumption) ?_
   rotate_left
   ·(intro w hSw;(try dsimp only at hSw);go_simp;with_reducible rfl)
   try simp only [zA]
   refine zf 7 (by kernel_rfl) rfl (fun K hK=>?_)
   go_simp
   refine(zjw _ _ (unitL n k) (by exact HUS.out) (by rw [zav];omega)).mono ?_
   rintro e w2 ⟨P,rfl,hv2,hn2⟩
   have HV2:=hide hv2;have HN2:=hide hn2
   have hb2:Below wx.heap.size wx w2:=((Below.refl _ _).drew).trans hv2.below
   have HOA:=hide (HO.out.later hb2)
   have d5:=(hb2.cell (p:=⟨O,k,none⟩) hOlt).trans c5
   have hus:=HO.out.low.size
   have hx2:=hb2.size
   rw [zav] at *
   clear hv2 hn2 hb2
   go_wp2_with fail
   refine hK.out _ _ (fun _=>d5) ?_
   clear hK K
   try simp only [zA]
   obtain⟨qs,hqz,hqc,hqn⟩:=HV2.out.vec.rows
   have HQC:=hide hqc;have HQN:=hide hqn;have HQZ:=hide hqz
   have hql:qs.length=n:=by have:=congrArg List.length hqz;rw [List.length_map,zav] at this;exact this
   clear hqc hqn hqz
   refine zf 8 (by kernel_rfl) rfl (fun K hK=>?_)
   refine step_append_lies _ rfl (.tmp 25) (.tmp 27) 53 rfl w.heap.size 42 i0 (.agg #[.bool false,.slice none 0 0]) 2 32 (by kernel_rfl) hi hz0 hz1 hz2 rfl (by decide) (.slice vo vl vc) (ps k).length ((ps k).flatMap ncells) rfl (by have:=(HOA.out.grow k hkl).1;rw [HVK.out] at this;exact this) ⟨P,0,none⟩ n n (qs.flatMap ncells) rfl (by rw [zfA,hql]) HQC.out (fun u hu=>zjr qs u hu) (by omega) (by unfold maxLen;have:=HPL.out;omega) (by have:=HPL.out;omega) (by omega) w2.heap.size (by first | rfl | simp) ?_
   intro g5 cap5 w5 hown5 hgrow5 hat5 hlt5
   have HO5:=hide hown5;have HG5:=hide hgrow5;have HA5:=hide hat5
   clear hown5 hgrow5 hat5 hlt5
   have e5:=HG5.out.cell d5 (by rw [← HVK.out];exact HON.out)
   refine hK.out _ _ (fun _=>e5) ?_
   clear hK K
   try simp only [zA]
   have hHeld5:(fun w'=>w'.cell? ⟨O,k,none⟩=some (.slice vo vl vc)) w5:=e5
   clear hHeld
   refine zc (v:=?_) 9 29 [10] rfl rfl (by kernel_rfl) (by kernel_rfl) (by kernel_rfl) (by kernel_rfl) (by kernel_rfl) (fun _ _ _ h=>h) (by rfl) ?_ (by assumption) ?_
   rotate_left
   ·(intro w hSw;(try dsimp only at hSw);go_simp;with_reducible rfl)
   try simp only [zA]
   have HP:=hide (HOA.out.push hkl qs (fun p hp=>(HQN.out p hp).1.mono h2) (fun i hi p hp a l c e h0 hb=>by
    have h1:=(HQN.out p hp).2 (by rw [zav];exact HN2.out) a l c e
    have h2:=zcH (HO.out.grow i hi) hb.symm
    have h3:wx.heap.size≤a.block:=h1
    omega) (L:=(ps k).length+n) (by rw [hql]) HO5.out (by rw [HVK.out];exact HG5.out) (by rw [HVK.out];exact HA5.out.imp id fun h=>by rw [h];exact Nat.le_refl _))
   have ef:w5.frozen? ⟨O,k,none⟩=false:=by
    have h1:=HOA.out.thaw k
    rw [World.frozen?_of_block (a:=⟨O,k,none⟩) (HG5.out.block O HOA.out.lt (by rw [← HVK.out];exact HON.out))]
    exact h1
   refine zf 10 (by kernel_rfl) rfl (fun K hK=>?_)
   go_simp
   refine hK.out _ _ (fun h=>absurd h (by decide)) ?_
   clear hK K
   try simp only [zA]
   refine zl (by kernel_rfl) ?_
   have HD':Hid (∀ i,i < n→(updN ps k (ps k ++ qs) i).map (·.2)=if i < k+1 then colL hs i ++ unitL n i else colL hs i):=fun i hi=>by
    by_cases e:i=k
    ·rw [e,zaA,List.map_append,HD.out k hkl,if_neg (Nat.lt_irrefl _),HQZ.out,if_pos (by omega)]
    ·rw [zao _ _ _ e,HD.out i hi]
     by_cases h:i < k
     ·rw [if_pos h,if_pos (by omega)]
     ·rw [if_neg h,if_neg (by omega)]
   clear c5 d5 e5 ef HO5 HG5 HA5 HOA HO HD hHeld5 HV2 HN2 HQC HQN HQZ HUS
   go_wp2
   go_roundw
   case rel=>exact⟨k+1,_,_,by omega,by go_num,HP,HD'⟩
   case measure=>simp [intOf];omega
  ·obtain rfl:k=n:=by omega
   have HF:=hide (HOr.out.mat (tracedL hs k) (zaL hs k) (fun i hi=>by rw [HD.out i hi,if_pos hi,zbZ hs k i hi];rfl))
   have HB:=hide HOr.out.low
   clear HOr HD
   go_wp2
   go_ret
   exact⟨_,rfl,HF.out,HB.out⟩
end Go.Proofs.YtnkcjkpkphjecaaGreatDoor
/- mat.noughts: of rows those that are nought in the first places, without these. -/
namespace Go.Proofs.YtnkcjkpkphjecaaGreatDoor
open Go.RowKit Limbs
set_option linter.unusedSimpArgs false in
set_option maxRecDepth 100000 in
set_option maxHeartbeats 4000000 in
theorem zjs (w:World)(va:Value)(f n nv:Nat)(ts:List (List Int))(ha:MatN w va ts nv)(hl:∀ r∈ts,r.length=f+n)(h1:1≤n)(h4:f+n≤100)(hm:ts.length≤100):
  Calls Tryz.prog 59 #[va,.int .i64 (f:Int)] w fun e w'=>∃ u,e=.returned u∧MatN w' u (behindL f ts) nv∧Below w.heap.size w w':=by
 obtain⟨j0,hj,hy0,hy1,hy2⟩:=info_parts Tryz.infoVec
 have HA:=hide ha;have HL:=hide hl
 obtain⟨ao,acap,rfl,-,-⟩:=ha
 clear hl
 go_enter Tryz.func59,Tryz.ntmps59
 go_wp2
 go_loopw [5,9] (fun out i wr=>∃(k:Nat) (qs:List (Value × List Int)),k≤ts.length∧i=.int .i64 k∧Hid (GrowV wr w.heap.size out qs nv)∧Hid (qs.map (·.2)=behindL f (ts.take k))∧Hid (Below w.heap.size w wr)) (fun _ i _=>ts.length - (intOf i).toNat)
 case atStart=>exact⟨0,[],Nat.zero_le _,rfl,hide (GrowV.nil _ _ _),hide (by simp [behindL]),hide (Below.refl _ _)⟩
 case round=>
  obtain⟨k,qs,hk,rfl,HGV,HQ,HBE⟩:=hrel
  have HQL:Hid (qs.length≤100):=by
   have h1:=congrArg List.length HQ.out
   have h2:=zg6 f ts k
   rw [List.length_map] at h1
   show qs.length≤100
   omega
  by_cases hkl:k < ts.length
  ·obtain⟨rb,roff,_,e,lr,ru,cu,hru⟩:=HA.out.at k hkl
   simp only [Value.slice.injEq,true_and] at e
   obtain⟨rfl,rfl⟩:=e
   have HLU:Hid (ts[k].length=f+n):=HL.out _ (List.getElem_mem hkl)
   have HSU:=hide (zg7 f ts k hkl)
   generalize ts[k]=us at *
   obtain⟨vb,voff,vcap,rfl⟩:=hru.form (by have:=HLU.out;omega)
   have hcap:f+n≤vcap:=by
    obtain⟨_,_,e,h1,-⟩:=hru
    simp only [Value.slice.injEq,true_and] at e
    have:=HLU.out
    omega
   have HU:=hide (hru.below HBE.out zL)
   have HD:=hide (HU.out.drop (n:=f) (m:=n) HLU.out.symm (by omega))
   rw [HLU.out] at cu
   have c1:=(HBE.out.cell (p:=⟨rb,roff+k,none⟩) lr).trans cu
   clear hru cu
   go_wp2_with fail
   refine(zbg wr _ us nv (by have:=HU.out;rw [HLU.out] at this;exact this) (by have:=HLU.out;omega)).mono ?_
   rintro e w1 ⟨rfl,hb1⟩
   have HB1:=hide (HBE.out.trans (hb1.mono HBE.out.size))
   have HG1:=hide (HGV.out.later hb1)
   have HD1:=hide (HD.out.below hb1 zL)
   have c2:=(hb1.cell (p:=⟨rb,roff+k,none⟩) (zT lr HBE.out.size)).trans c1
   clear hb1 HGV HD HU c1
   by_cases hf:(f:Int)≤first us
   ·have g1:decide ((f:Int)≤first us)=true:=decide_eq_true hf
    have HQ':Hid ((qs ++ [((.slice (some ⟨vb,voff+f * 2,none⟩) n (vcap - f):Value),us.drop f)]).map (·.2)=behindL f (ts.take (k+1))):=by
     show _=_
     rw [List.map_append,HQ.out,HSU.out,if_pos hf];rfl
    have hown:=HG1.out.own
    have hall:=HG1.out.all.later ((Below.refl _ _).alloc zL (.cells #[.slice (some ⟨vb,voff+f * 2,none⟩) n (vcap - f)] 53))
    have hbs:=HB1.out.size
    have g2:¬(f:Int) < 0:=by omega
    clear hf
    go_wp2_with (at_builtin;refine zla rfl _ _ 27 rfl w.heap.size 53 j0 24 (by kernel_rfl) hj hy0 hy1 hy2 u5 qs.length (qs.map (·.1)) rfl (hown.alloc _) hall ⟨w1.heap.size,0,none⟩ 1 (some ⟨vb,voff+f * 2,none⟩) n (vcap - f) rfl (World.news_of_block (heap_alloc_new w1 _)) (by unfold maxLen;have:=HQL.out;omega) (by have:=HQL.out;omega) (by simp;omega) ?_)
    intro g cap' w5 hown5 hgrow5 hall5
    have HG5:=hide (ziA (HG1.out.later ((Below.refl _ _).alloc zL _)) (HD1.out.below ((Below.refl _ _).alloc zL _) zL) hown5 hgrow5 hall5)
    have HB5:=hide ((HB1.out.alloc HB1.out.size _).trans (ziE (HG1.out.later ((Below.refl _ _).alloc zL _)) (by simp;omega) hgrow5))
    clear hown hall hown5 hgrow5 hall5 HG1 HD1 HB1 c2
    go_wp2
    go_roundw
    case rel=>exact⟨k+1,_,by omega,by go_num,HG5,HQ',HB5⟩
    case measure=>simp [intOf];omega
   ·have g1:decide ((f:Int)≤first us)=false:=decide_eq_false hf
    have HQ':Hid (qs.map (·.2)=behindL f (ts.take (k+1))):=by
     show _=_
     rw [HQ.out,HSU.out,if_neg hf,List.append_nil]
    clear hf
    go_wp2
    go_roundw
    case rel=>exact⟨k+1,_,by omega,by go_num,HG1,HQ',HB1⟩
    case measure=>simp [intOf];omega
  ·obtain rfl:k=ts.length:=by omega
   have HF:Hid (MatN wr u5 (behindL f ts) nv):=by
    have:=HGV.out.mat
    rw [HQ.out,List.take_length] at this
    exact this
   clear HGV HQ
   go_wp2
   go_ret
   exact⟨_,rfl,HF.out,HBE.out⟩
end Go.Proofs.YtnkcjkpkphjecaaGreatDoor
/- mat.Kernel: what rows make nought of. -/
namespace Go.Proofs.YtnkcjkpkphjecaaGreatDoor
open Go.RowKit Limbs
def KerPost (w:World)(n:Nat)(ms:List (List Int))(e:Ending)(w':World):Prop:=
 ∃ u hs us p q,e=.returned (.tuple #[u,.nilIface])∧MatN w' u (behindL hs.length us) (n *(n * 8+2)+2)∧FormL n hs p∧Alikes n (InL hs) (InL ms)∧FormL (hs.length+n) us q∧Alikes (hs.length+n) (InL us) (InL (tracedL hs n))∧us.length≤100∧Below w.heap.size w w'
end Go.Proofs.YtnkcjkpkphjecaaGreatDoor
/- mat.Kernel of rows in the one form; twice: what is filled. -/
namespace Go.Proofs.YtnkcjkpkphjecaaGreatDoor
open Go.RowKit Limbs
def RoomF (n nv:Nat):Prop:=nbK n (n * nv+2) nv n≤100000∧∀ h,h≤n→nbK (h+n) (n * nv+2) nv (h+n)≤100000
def KerFPost (w:World)(n nv:Nat)(ms:List (List Int))(e:Ending)(w':World):Prop:=
 ∃ u us q,e=.returned (.tuple #[u,.nilIface])∧MatN w' u (behindL ms.length us) (n * nv+2)∧FormL (ms.length+n) us q∧Alikes (ms.length+n) (InL us) (InL (tracedL ms n))∧us.length≤100∧Below w.heap.size w w'
set_option linter.unusedSimpArgs false in
set_option maxRecDepth 100000 in
set_option maxHeartbeats 1600000 in
theorem zff (w:World)(v:Value)(ms:List (List Int))(n nv:Nat){p:Nat→Nat}(hv:MatN w v ms nv)(F:FormL n ms p)(hn1:1≤n)(hn:n≤8)(h2v:2≤nv)(hR:RoomF n nv):
  Calls Tryz.prog 34 #[v,.int .i64 (n:Int)] w fun e w'=>KerFPost w n nv ms e w':=by
 have hm:=F.short
 have HC:=hide (zck w v ms n nv hv hn1 hn (by omega) F.len)
 have HV:=hide hv;have HF:=hide F
 obtain⟨ao,cap,rfl,-,-⟩:=hv
 clear F
 obtain⟨hb1,hb2⟩:=hR
 have HB1:=hide hb1;have HB2:=hide hb2
 clear hb1 hb2
 go_enter Tryz.func34,Tryz.ntmps34
 go_wp2_with fail
 refine HC.out.mono ?_
 rintro e w1 ⟨rfl,hbe1⟩
 have HE1:=hide hbe1
 clear hbe1 HC
 go_wp2_with fail
 refine(zcE w1 _ ms n nv (HV.out.below HE1.out zL) HF.out.len hn1 (by omega) (by omega) HB1.out).mono ?_
 rintro e w2 ⟨u2,hs,p2,rfl,h1,h2,h3,h4,h5⟩
 obtain rfl:hs=ms:=zcq h4 HF.out h5
 have HH:=hide (h1.tight HV.out.abs)
 have HE2:=hide (HE1.out.trans (h3.mono HE1.out.size))
 obtain⟨ho,hcap,rfl,-,-⟩:=h1
 clear h3 h4 h5 HE1
 go_wp2_with fail
 refine(zkU w2 _ n nv hs HH.out HF.out.len hn1 (by omega) (by omega) h2v).mono ?_
 rintro e w3 ⟨u3,rfl,h6,h7⟩
 have HT:=hide h6
 have HE3:=hide (HE2.out.trans (h7.mono HE2.out.size))
 clear h6 h7 HE2
 go_wp2_with fail
 rw [show((hs.length:Int)+(n:Int))=((hs.length+n:Nat):Int) by omega]
 refine(zfK w3 _ (tracedL hs n) (hs.length+n) nv n (.inr (by rw [zaL];exact Nat.le_refl _)) (by omega) HT.out (zd5 hs n) (by omega) (by omega) (by rw [zaL];omega) (HB2.out hs.length h2)).mono ?_
 rintro e w4 ⟨u4,us,q,rfl,g1,g2,g3,g4,g5,-⟩
 have HU:=hide g1;have HG:=hide g4;have HGA:=hide g5
 have HE4:=hide (HE3.out.trans (g3.mono HE3.out.size))
 clear g1 g3 g4 g5 HE3 HT HH
 go_wp2_with fail
 refine(zjs w4 _ hs.length n (n * nv+2) us HU.out HG.out.len hn1 (by omega) (by omega)).mono ?_
 rintro e w5 ⟨u5',rfl,k1,k2⟩
 have HK:=hide k1
 have HE5:=hide (HE4.out.trans (k2.mono HE4.out.size))
 clear k1 k2 HE4 HU
 have hul:us.length≤100:=by omega
 clear g2 h2
 go_wp2
 go_ret2
 exact⟨_,us,q,rfl,HK.out,HG.out,HGA.out,hul,HE5.out⟩
end Go.Proofs.YtnkcjkpkphjecaaGreatDoor
/- What is filled: what makes nought, twice. No Go in it. -/
namespace Go.Proofs.YtnkcjkpkphjecaaGreatDoor
open Go.RowKit Limbs
structure KerOf (n:Nat)(ms ks:List (List Int)):Prop where
 form:∃ q,FormL n ks q
 all:∀ v:List Int,v.length=n→(Gens n (InL ks) v↔∀ r∈ms,dotL n r v=0)
theorem kerOf {n:Nat}{ms us:List (List Int)}{q:Nat→Nat}(F:FormL (ms.length+n) us q)(a:Alikes (ms.length+n) (InL us) (InL (tracedL ms n))):KerOf n ms (behindL ms.length us):=
 ⟨zc8 F,fun _ hv=>ziT F a hv⟩
theorem zeP (n:Nat)(u v:List Int):dotL n u v=dotL n v u:=zj fun _ _=>Int.mul_comm _ _
theorem KerOf.row {n:Nat}{ms ks:List (List Int)}(K:KerOf n ms ks){k:List Int}(hk:k∈ks){r:List Int}(hr:r∈ms):dotL n r k=0:=by
 obtain⟨q,F⟩:=K.form
 exact(K.all k (F.len k hk)).1 (.base hk (F.len k hk)) r hr
theorem zeW {n:Nat}{bs ms fs:List (List Int)}(hl:∀ r∈bs,r.length=n)(K:KerOf n bs ms)(L:KerOf n ms fs):∀ r∈bs,Gens n (InL fs) r:=fun r hr=>
 (L.all r (hl r hr)).2 fun m hm=>(zeP n m r).trans (K.row hm hr)
theorem zij {n:Nat}{bs ms fs ns gs:List (List Int)}(hl:∀ r∈bs,r.length=n)(K:KerOf n bs ms)(L:KerOf n ms fs)(K':KerOf n fs ns)(L':KerOf n ns gs):gs=fs:=by
 obtain⟨qm,Fm⟩:=K.form
 obtain⟨qn,Fn⟩:=K'.form
 have e:ns=ms:=zcq Fn Fm fun v=>⟨fun h=>?_,fun h=>?_⟩
 ·subst e
  obtain⟨qg,Fg⟩:=L'.form
  obtain⟨qf,Ff⟩:=L.form
  exact zcq Fg Ff fun v=>⟨fun h=>(L.all v h.len).2 ((L'.all v h.len).1 h),fun h=>(L'.all v h.len).2 ((L.all v h.len).1 h)⟩
 ·have h1:=(K'.all v h.len).1 h
  refine(K.all v h.len).2 fun r hr=>?_
  exact zdk h1 (zeW hl K L r hr)
 ·refine(K'.all v h.len).2 fun f hf=>?_
  have:=zdk (ms:=ms) (n:=n) (v:=f) (fun m hm=>L.row hf hm) h
  rw [zeP]
  exact this
theorem zii {n:Nat}{bs ms fs:List (List Int)}(K:KerOf n bs ms)(L:KerOf n ms fs){v:List Int}(hv:v.length=n){k:Int}(hk:k≠0)(h:Gens n (InL bs) (v.map (k * ·))):Gens n (InL fs) v:=by
 refine(L.all v hv).2 fun m hm=>?_
 have h1:dotL n (v.map (k * ·)) m=0:=zdk (fun r hr=>K.row hm hr) h
 have e:dotL n (v.map (k * ·)) m=k * dotL n m v:=by
  unfold dotL
  rw [← zI]
  refine zj fun b hb=>?_
  rw [List.getD_eq_getElem?_getD,List.getElem?_map,List.getElem?_eq_getElem (by omega),Option.map_some,Option.getD_some,List.getD_eq_getElem?_getD (l:=v),List.getElem?_eq_getElem (by omega),Option.getD_some,Int.mul_assoc,Int.mul_comm (v[b]) _]
 rw [e] at h1
 rcases Int.mul_eq_zero.1 h1 with h | h
 ·exact absurd h hk
 ·exact h
end Go.Proofs.YtnkcjkpkphjecaaGreatDoor
/- lattice.Fill. -/
namespace Go.Proofs.YtnkcjkpkphjecaaGreatDoor
open Go.RowKit Limbs
def FillPost (w:World)(n nv:Nat)(hs:List (List Int))(e:Ending)(w':World):Prop:=
 ∃ v ms fs,e=.returned (.tuple #[v,.nilIface])∧LatN w' v n fs (n *(n * nv+2)+2)∧KerOf n hs ms∧KerOf n ms fs∧fs.length=hs.length∧Below w.heap.size w w'
set_option linter.unusedSimpArgs false in
set_option maxRecDepth 100000 in
set_option maxHeartbeats 1600000 in
theorem zeX (w:World)(va:Value)(n nv:Nat)(hs:List (List Int))(ha:LatN w va n hs nv)(h1:1≤n)(h4:n≤4)(h2v:2≤nv)(hR1:RoomF n nv)(hR2:RoomF n (n * nv+2)):
  Calls Tryz.prog 14 #[va] w fun e w'=>FillPost w n nv hs e w':=by
 have HA:=hide ha;have HR1:=hide hR1;have HR2:=hide hR2
 obtain⟨⟨u,rfl,hu⟩,p,hF⟩:=ha
 have HU:=hide hu;have HF:=hide hF
 obtain⟨uo,ucap,rfl,-,-⟩:=hu
 clear hF hR1 hR2
 have HX:=hide (zah w (.int .i64 (n:Int)) (.slice uo hs.length ucap) (.int .i64 0) (.slice none 0 0) 29 29)
 obtain⟨c0,c1,z0,z1⟩:=HX.out.1
 obtain⟨d0,d1,y0,y1⟩:=HX.out.2.1
 go_enter Tryz.func14,Tryz.ntmps14
 go_wp2_with fail
 clear c0 c1 z0 z1 d0 d1 y0 y1
 generalize ((w.alloc (.cells #[.int .i64 (n:Int),.slice uo hs.length ucap] 29)).alloc (.cells #[.int .i64 0,.slice none 0 0] 29))=W0 at *
 refine(zcj W0 _ n nv hs (by exact HA.out.below HX.out.2.2.1) h1 h4).mono ?_
 rintro e w1 ⟨rfl,hb1⟩
 have HB1:=hide (HX.out.2.2.1.trans (hb1.mono HX.out.2.2.1.size))
 have HC1:=hide (HX.out.1.later hb1 (by have:=HX.out.2.2.2;omega))
 have HD1:=hide (HX.out.2.1.later hb1 HX.out.2.2.2)
 have HS1:=hide (zT HX.out.2.2.2 hb1.size)
 clear hb1 HX
 obtain⟨c0,c1,z0,z1⟩:=HC1.out
 go_wp2_with fail
 refine(zff w1 _ hs n nv (by exact HU.out.below HB1.out zL) HF.out h1 (by omega) h2v HR1.out).mono ?_
 rintro e w2 ⟨um,us,q,rfl,a1,a2,a3,-,a4⟩
 have HK1:=hide (kerOf a2 a3)
 have HN1:=hide (zfe HF.out a2 a3)
 obtain⟨qm,am⟩:=zc8 a2
 have HFM:=hide am
 have HM:=hide a1
 have HB2:=hide (HB1.out.trans (a4.mono HB1.out.size))
 have HC2:=hide (HC1.out.later a4 (by have:=HS1.out;omega))
 have HD2:=hide (HD1.out.later a4 HS1.out)
 have HS2:=hide (zT HS1.out a4.size)
 generalize behindL hs.length us=ms at *
 obtain⟨mo,mcap,rfl,-,-⟩:=a1
 clear a2 a3 a4 am c0 c1 z0 z1 HC1 HD1 HS1 HB1
 obtain⟨c0,c1,z0,z1⟩:=HC2.out
 go_wp2_with fail
 refine(zff w2 _ ms n (n * nv+2) (by exact HM.out) HFM.out h1 (by omega) (by omega) HR2.out).mono ?_
 rintro e w3 ⟨uf,us2,q2,rfl,a1,a2,a3,-,a4⟩
 have HK2:=hide (kerOf a2 a3)
 have HN2:=hide (zfe HFM.out a2 a3)
 obtain⟨qf,af⟩:=zc8 a2
 have HB3:=hide (HB2.out.trans (a4.mono HB2.out.size))
 have HC3:=hide (HC2.out.later a4 (by have:=HS2.out;omega))
 obtain⟨d0,d1,y0,y1⟩:=HD2.out.later a4 HS2.out
 generalize behindL ms.length us2=fs at *
 have hpos:∀ us∈fs,0 < us.length:=fun us hz=>by rw [af.len us hz];omega
 have HP:Hid (FillPost w n nv hs (.returned (.tuple #[.agg #[.int .i64 (n:Int),uf],.nilIface])) ((w3.setCell ⟨w.heap.size+1,0,none⟩ (.int .i64 (n:Int))).setCell ⟨w.heap.size+1,1,none⟩ uf)):=⟨_,ms,fs,rfl,⟨⟨uf,rfl,a1.setBasis _ _ hpos d0 d1⟩,qf,af⟩,HK1.out,HK2.out,by have h1:=HN1.out;have h2:=HN2.out;omega,(HB3.out.setCell (by simp) _).setCell (by simp) _⟩
 obtain⟨fo,fcap,rfl,-,-⟩:=a1
 clear a2 a3 a4 af hpos c0 c1 z0 z1
 obtain⟨c0,c1,z0,z1⟩:=HC3.out
 clear HC2 HD2 HS2 HB2 HB3 HM HFM
 go_wp2
 exact bodyPost_ret (v:=.tuple #[.agg #[.int .i64 (n:Int),.slice fo fs.length fcap],.nilIface]) (by simp [results,Tryz.results14,go_sem,d0,d1]) rfl HP.out
end Go.Proofs.YtnkcjkpkphjecaaGreatDoor
/- The rooms of TopFill. No walk in it. -/
namespace Go.Proofs.YtnkcjkpkphjecaaGreatDoor
open Go.RowKit Limbs Digs
instance (n nv:Nat):Decidable (RoomF n nv):=decidable_of_iff (nbK n (n * nv+2) nv n≤100000∧∀ h,h < n+1→nbK (h+n) (n * nv+2) nv (h+n)≤100000)
 ⟨fun⟨a,b⟩=>⟨a,fun h hh=>b h (by omega)⟩,fun⟨a,b⟩=>⟨a,fun h hh=>b h (by omega)⟩⟩
theorem roomF6:∀ n,n < 5→RoomF n 6∧RoomF n (n * 6+2)∧RoomF n (n *(n * 6+2)+2)∧RoomF n (n *(n *(n * 6+2)+2)+2)∧6+n *(n *(n * 6+2)+2+2)≤90000:=by decide
end Go.Proofs.YtnkcjkpkphjecaaGreatDoor
/- TopFill, from the loop over the vector on: a multiple in the lattice, and what is filled. -/
namespace Go.Proofs.YtnkcjkpkphjecaaGreatDoor
open Go.RowKit Limbs Digs
theorem zew (p:Prop):∃ b:Bool,b=true↔p:=by
 by_cases h:p
 ·exact⟨true,fun _=>h,fun _=>rfl⟩
 ·exact⟨false,fun e=>(by cases e),fun e=>absurd e h⟩
set_option linter.unusedSimpArgs false in
set_option maxRecDepth 100000 in
set_option maxHeartbeats 6400000 in
theorem zkK (w W:World)(vo:Option Addr)(vcap:Nat)(vs:List Int)(k:Int)(B8 B10 n NV:Nat)(bo fo:Option Addr)(bc fc:Nat)(hs fs:List (List Int))(hbe:Below w.heap.size w W)(hv:RowS w (.slice vo vs.length vcap) vs)(hvl:vs.length=n)(h1:1≤n)(h4:n≤4)(hk1:-9223372036854775808≤k)(hk2:k≤9223372036854775807)(hx8:BoxL W B8 (.int .i64 (n:Int)) (.slice bo hs.length bc))(hx10:BoxL W B10 (.int .i64 (n:Int)) (.slice fo fs.length fc))(hl8:LatN W (.agg #[.int .i64 (n:Int),.slice bo hs.length bc]) n hs 6)(hl10:LatN W (.agg #[.int .i64 (n:Int),.slice fo fs.length fc]) n fs NV)(hnn:4+n *(NV+2)≤90000)(hm:Gens n (InL hs) (vs.map (k * ·))→Gens n (InL fs) vs)(sl0 sl3 sl4 sl5 sl6 sl7 sl9 sl11 sl12 sl13 sl14 sl15 sl16 sl17 sl18 sl19 sl20 sl21 sl22 sl23 sl24 sl25 sl26 sl27 sl28 sl29 sl30 sl31 sl32 sl33 sl34 sl35 sl36 sl37 sl38 sl39 sl40 sl41 sl42 sl43 sl44 sl45 sl46 sl47 sl48 sl49 sl50 sl51 sl52 sl53 sl54 sl55 sl56 sl57 sl58 sl59 sl60 sl61 sl62 sl63 sl64 sl65 sl66 sl67 sl68 sl69 sl70 sl71 sl72 sl73 sl74 sl75 sl76 sl77 sl78 sl79 sl80 sl81 sl82 sl83 sl84 sl85 sl86 sl87 sl88 sl89 sl90 sl91 sl92 sl93 sl94 sl95 sl96 sl97 sl98 sl99 sl100 sl101 sl102 sl103 sl104 sl105 sl106 sl107 sl108 sl109 sl110 sl111 sl112 sl113 sl114 sl115 sl116 sl117 sl118 sl119 sl120 sl121 sl122 sl123 sl124 sl125 sl126 sl127 sl128 sl129 sl130 sl131 sl132 sl133 sl134 sl135 sl136 sl137 sl138 sl139 sl140 sl141:Value):
  (Code.tl (Code.tl (Code.tl (Code.tl (Code.tl (Code.tl (Code.tl (Code.tl (Code.tl (Code.tl ((Tryz.f4.body).getD .skip))))))))))).wp Tryz.prog (bodyPost Tryz.prog Tryz.f4 (fun e w'=>e=.returned (.bool true)∧Below w.heap.size w w')) ⟨#[sl0,(.slice vo vs.length vcap),(.int .i64 k),sl3,sl4,sl5,sl6,sl7,(.pointer (some ⟨B8,0,none⟩)),sl9,(.pointer (some ⟨B10,0,none⟩)),sl11,sl12,sl13,sl14,sl15,sl16,sl17,sl18,sl19,sl20,sl21,sl22,sl23,sl24,sl25,sl26,sl27,sl28,sl29,sl30,sl31,sl32,sl33,sl34,sl35,sl36,sl37,sl38,sl39,sl40,sl41,sl42,sl43,sl44,sl45,sl46,sl47,sl48,sl49,sl50,sl51,sl52,sl53,sl54,sl55,sl56,sl57,sl58,sl59,sl60,sl61,sl62,sl63,sl64,sl65,sl66,sl67,sl68,sl69,sl70,sl71,sl72,sl73,sl74,sl75,sl76,sl77,sl78,sl79,sl80,sl81,sl82,sl83,sl84,sl85,sl86,sl87,sl88,sl89,sl90,sl91,sl92,sl93,sl94,sl95,sl96,sl97,sl98,sl99,sl100,sl101,sl102,sl103,sl104,sl105,sl106,sl107,sl108,sl109,sl110,sl111,sl112,sl113,sl114,sl115,sl116,sl117,sl118,sl119,sl120,sl121,sl122,sl123,sl124,sl125,sl126,sl127,sl128,sl129,sl130,sl131,sl132,sl133,sl134,sl135,sl136,sl137,sl138,sl139,sl140,sl141],[]⟩ W:=by
 simp only [Code.tl,Tryz.f4,Option.getD_some]
 have HBW:=hide hbe;have HV:=hide hv;have X8:=hide hx8;have X10:=hide hx10;have L8:=hide (LatG.mk hl8);have L10:=hide (LatG.mk hl10);have HVL:=hide hvl
 have hvb:vs.length≤4:=by omega
 obtain⟨us,hus⟩:∃ us,vs.map (k * ·)=us:=⟨_,rfl⟩
 have HUL:Hid (us.length=n):=by show _=_;rw [← hus,List.length_map];exact hvl
 have HSC:Hid (∀ w' vk uv,NumL w' vk k 2→VecN w' uv vs 2→Calls Tryz.prog 17 #[vk,uv] w' fun e w''=>VecPost w' us 4 e w''):=fun w' vk uv hk hu=>by
  rw [← hus];exact zdT w' vk uv k vs 2 2 hk hu (by omega) (by decide) (by decide)
 rw [hus] at hm
 obtain⟨b1,hb1⟩:=zew (Gens n (InL hs) us)
 obtain⟨b2,hb2⟩:=zew (Gens n (InL fs) vs)
 have hb12:b1=true→b2=true:=fun h=>hb2.2 (hm (hb1.1 h))
 have HB1:=hide hb1;have HB2:=hide hb2
 have HB12:=hide hb12
 clear hbe hv hx8 hx10 hl8 hl10 hvl hus hm hb1 hb2 hb12
 go_wp2_with fail
 go_loopw [16] (fun i wr=>∃ j:Nat,j≤vs.length∧i=.int .i64 j∧wr=W) (fun i _=>vs.length - (intOf i).toNat)
 case atStart=>exact⟨0,Nat.zero_le _,rfl,rfl⟩
 case round=>
  obtain⟨j,hj,rfl,hw⟩:=hrel
  subst wr
  by_cases hjl:j < vs.length
  ·have hrow:=HV.out.below HBW.out zL
   obtain⟨ao,cap,e,-,-,hcell⟩:=hrow
   simp only [Value.slice.injEq,true_and] at e
   obtain⟨rfl,rfl⟩:=e
   obtain⟨lb,loff,rfl,llt,hcell⟩:=hcell (by omega)
   have cz:=hcell j hjl
   generalize vs.getD j 0=z at *
   clear hcell
   by_cases g1:z < -1000000
   ·have g2:decide (z < -1000000)=true:=decide_eq_true g1
    go_wp2
    go_ret
    exact⟨rfl,HBW.out⟩
   ·have g2:decide (z < -1000000)=false:=decide_eq_false g1
    by_cases g3:1000000 < z
    ·have g4:decide (1000000 < z)=true:=decide_eq_true g3
     go_wp2
     go_ret
     exact⟨rfl,HBW.out⟩
    ·have g4:decide (1000000 < z)=false:=decide_eq_false g3
     go_wp2
     go_roundw
     case rel=>exact⟨j+1,by omega,by go_num,by first | rfl | trivial⟩
     case measure=>simp [intOf];omega
  ·obtain rfl:j=vs.length:=by omega
   obtain⟨p8,p9,-,-⟩:=X8.out.1
   go_wp2_with fail
   go_region_held3 (fun w'=>w'.cell? ⟨B8,0,none⟩=some (.int .i64 (n:Int))∧w'.cell? ⟨B8,1,none⟩=some (.slice bo hs.length bc)) (go_keep)
    (first
     |(go_at_call 18;refine(zal _ k hk1 hk2).mono ?_;rintro e wa ⟨ka,rfl,hka,hba⟩;have HBa:=hide (show Below W.heap.size W wa from(Below.refl _ _).drew.trans hba);have HWa:=hide (HBW.out.trans (HBa.out.mono HBW.out.size));have NK:=hide hka;have X8a:=hide (X8.out.later HBa.out);have X10a:=hide (X10.out.later HBa.out);have L8a:=hide (L8.out.later HBa.out);have L10a:=hide (L10.out.later HBa.out);obtain⟨p0,p1,-,-⟩:=X8a.out.1;clear hba hka)
     |(go_at_call 19;refine(zcD wa _ vs (HV.out.below HWa.out zL) (by omega)).mono ?_;rintro e wb ⟨PB,rfl,hob⟩;have HBb:=hide hob.below;have HWb:=hide (HWa.out.trans (HBb.out.mono HWa.out.size));have VV:=hide (VecG.mk hob.vec);have NK2:=hide (NK.out.below HBb.out zL);have X8b:=hide (X8a.out.later HBb.out);have X10b:=hide (X10a.out.later HBb.out);have L8b:=hide (L8a.out.later HBb.out);have L10b:=hide (L10a.out.later HBb.out);obtain⟨p2,p3,-,-⟩:=X8b.out.1;clear hob)
     |(go_at_call 17;refine(HSC.out wb _ _ (by exact NK2.out) (by exact VV.out.vec)).mono ?_;rintro e wc ⟨PC,rfl,hoc⟩;have HBc:=hide hoc.below;have HWc:=hide (HWb.out.trans (HBc.out.mono HWb.out.size));have VS:=hide (VecG.mk hoc.vec);have X8c:=hide (X8b.out.later HBc.out);have X10c:=hide (X10b.out.later HBc.out);have L8c:=hide (L8b.out.later HBc.out);have L10c:=hide (L10b.out.later HBc.out);obtain⟨p4,p5,-,-⟩:=X8c.out.1;clear hoc)
     |(go_at_call 16;refine(zfv wc _ _ n 6 4 hs us (by exact L8c.out.lat) (by exact VS.out.vec) HUL.out h1 h4 (by omega) b1 HB1.out).mono ?_;rintro e wd ⟨ud,rfl,hbd⟩;have HBd:=hide hbd;have HWd:=hide (HWc.out.trans (HBd.out.mono HWc.out.size));have X8d:=hide (X8c.out.later HBd.out);have X10d:=hide (X10c.out.later HBd.out);have L10d:=hide (L10c.out.later HBd.out);obtain⟨p6,p7,-,-⟩:=X8d.out.1;clear hbd))
   clear p0 p1 p2 p3 p4 p5 p6 p7 p8 p9 X8 X8a X8b X8c X8d X10 X10a X10b X10c L8 L8a L8b L8c L10 L10a L10b L10c NK NK2 VV VS HBa HBb HBc HBd HWa HWb HWc HBW
   obtain⟨q0,q1,-,-⟩:=X10d.out.1
   go_wp2_with fail
   go_region_held3 (fun w'=>w'.cell? ⟨B10,0,none⟩=some (.int .i64 (n:Int))∧w'.cell? ⟨B10,1,none⟩=some (.slice fo fs.length fc)) (go_keep)
    (first
     |(go_at_call 19;refine(zcD _ _ vs ((HV.out.below HWd.out zL).below (Below.refl _ _).drew zL) (by omega)).mono ?_;rintro e we ⟨PE,rfl,hoe⟩;have HBe:=hide (show Below wd.heap.size wd we from(Below.refl _ _).drew.trans (hoe.below.mono (by simp)));have HWe:=hide (HWd.out.trans (HBe.out.mono HWd.out.size));have VE:=hide (VecG.mk hoe.vec);have X10e:=hide (X10d.out.later HBe.out);have L10e:=hide (L10d.out.later HBe.out);obtain⟨q2,q3,-,-⟩:=X10e.out.1;clear hoe)
     |(go_at_call 16;refine(zfv we _ _ n NV 2 fs vs (by exact L10e.out.lat) (by exact VE.out.vec) HVL.out h1 h4 (by omega) b2 HB2.out).mono ?_;rintro e wf ⟨uf,rfl,hbf⟩;have HBf:=hide hbf;have HWf:=hide (HWe.out.trans (HBf.out.mono HWe.out.size));have X10f:=hide (X10e.out.later HBf.out);obtain⟨q4,q5,-,-⟩:=X10f.out.1;clear hbf))
   clear q0 q1 q2 q3 q4 q5 X10d X10e X10f L10d L10e VE HBe HBf HWd HWe
   have HI:=HB12
   cases b1 with
   | false=>(cases b2 <;>(go_wp2;go_ret;exact⟨rfl,HWf.out⟩))
   | true=>
    obtain rfl:=HI.out rfl
    go_wp2
    go_ret
    exact⟨rfl,HWf.out⟩
end Go.Proofs.YtnkcjkpkphjecaaGreatDoor
