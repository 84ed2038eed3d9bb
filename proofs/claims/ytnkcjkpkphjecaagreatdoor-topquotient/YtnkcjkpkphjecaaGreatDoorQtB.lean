import Derived.Test.YtnkcjkpkphjecaaGreatDoorQtD
import Derived.Test.YtnkcjkpkphjecaaGreatDoorFold
import Derived.Deep.Cut
import Derived.Deep.CutBlock
namespace Go.Proofs.YtnkcjkpkphjecaaGreatDoor
open Go.RowKit Limbs
def lastZ (zs:List Int)(j:Nat):Int:=if j=0 then 1 else zs.getD (j - 1) 0
theorem Kills.tr {r:Nat}{A:Nat→Nat→Int}{e:Int}(k:Kills r (trM A) e):Kills r A e:=by
 obtain⟨C,h1,h2⟩:=k
 have t1:=h1.tr
 have t2:=h2.tr
 rw [zbQ,zdI] at t1 t2
 exact⟨trM C,t2,t1⟩
theorem ChI.into {r:Nat}{ys:List Int}{D:Int}{A:Nat→Nat→Int}(C:ChI r ys D A r (r+1)){i:Nat}(hi:i < r):∃ p,ys.getD (r - 1) 0=p * ys.getD i 0:=by
 by_cases e:i=r - 1
 ·rw [e];exact⟨1,(Int.one_mul _).symm⟩
 ·exact C.chain i hi (r - 1) (by omega) (by omega)
theorem ziT {ys:List Int}(h:∀ i,i < ys.length→0 < ys.getD i 0)(hc:∀ i,i < ys.length→∃ p,ys.getD (ys.length - 1) 0=p * ys.getD i 0)(h0:0 < ys.length):lastZ (overOne ys) (overOne ys).length=ys.getD (ys.length - 1) 0:=by
 have e1:=zfo ys (ys.length - 1) (by omega)
 rw [show ys.length - 1+1=ys.length by omega,List.take_length] at e1
 by_cases hy:1 < ys.getD (ys.length - 1) 0
 ·rw [if_pos hy] at e1
  unfold lastZ
  rw [e1,List.length_append,List.length_singleton,if_neg (by omega),Nat.add_sub_cancel,List.getD_eq_getElem?_getD,List.getElem?_append_right zL,Nat.sub_self]
  rfl
 ·have h1:=h (ys.length - 1) (by omega)
  have e2:ys.getD (ys.length - 1) 0=1:=by omega
  have all:overOne ys=[]:=by
   unfold overOne
   rw [List.filter_eq_nil_iff]
   intro y hyy
   obtain⟨i,hi,rfl⟩:=List.getElem_of_mem hyy
   have h3:=h i hi
   obtain⟨p,hp⟩:=hc i hi
   rw [e2] at hp
   rw [List.getD_eq_getElem?_getD,List.getElem?_eq_getElem hi,Option.getD_some] at h3 hp
   rw [decide_eq_true_eq]
   intro h4
   rcases Int.lt_or_le 0 p with h5 | h5
   ·have:=Int.mul_le_mul_of_nonneg_right (show 1≤p by omega) (show 0≤ys[i] by omega)
    omega
   ·have:=Int.mul_le_mul_of_nonneg_right h5 (show 0≤ys[i] by omega)
    omega
  rw [all,e2]
  rfl
theorem zfp:∀ ys:List Int,(∀ i j,i < j→j < ys.length→∃ p,ys.getD j 0=p * ys.getD i 0)→∀ i,i+1 < (overOne ys).length→∃ p,(overOne ys).getD (i+1) 0=p *(overOne ys).getD i 0
 | [],_,i,hi=>absurd hi (Nat.not_lt_zero _)
 | y :: ys,hc,i,hi=>by
  have ih:=zfp ys fun i j h1 h2=>by
   have:=hc (i+1) (j+1) (by omega) (by simpa using h2)
   simpa using this
  by_cases hy:1 < y
  ·have e:overOne (y :: ys)=y :: overOne ys:=by unfold overOne;rw [List.filter_cons_of_pos (by simpa using hy)]
   rw [e] at hi ⊢
   cases i with
   | zero=>
    have hl:0 < (overOne ys).length:=by simpa using hi
    have hm:(overOne ys)[0]∈ys:=(List.mem_filter.1 (List.getElem_mem hl)).1
    obtain⟨k,hk,ek⟩:=List.getElem_of_mem hm
    obtain⟨p,hp⟩:=hc 0 (k+1) (by omega) (by simpa using hk)
    refine⟨p,?_⟩
    have e1:(y :: overOne ys).getD (0+1) 0=ys[k]:=by
     rw [ek,List.getD_eq_getElem?_getD,List.getElem?_cons_succ,List.getElem?_eq_getElem hl,Option.getD_some]
    rw [e1]
    simpa [List.getD_eq_getElem?_getD,List.getElem?_eq_getElem hk] using hp
   | succ i=>
    have:=ih i (by simpa using hi)
    simpa using this
  ·have e:overOne (y :: ys)=overOne ys:=by unfold overOne;rw [List.filter_cons_of_neg (by simpa using hy)]
   rw [e] at hi ⊢
   exact ih i hi
section
variable {n:Nat}{hs ts:List (List Int)}{ph pt:Nat→Nat}{zs:List Int}
theorem InvQ.above (q:InvQ hs ts pt zs):∀ z∈zs,1 < z:=by
 obtain⟨ys,fa,fs,pa,D,rfl,-⟩:=q
 intro z hz
 exact of_decide_eq_true (List.mem_filter.1 hz).2
theorem InvQ.chain (q:InvQ hs ts pt zs):∀ i,i+1 < zs.length→∃ p,zs.getD (i+1) 0=p * zs.getD i 0:=by
 obtain⟨ys,fa,fs,pa,D,rfl,-,-,-,-,C⟩:=q
 exact zfp ys fun i j h1 h2=>C.chain i (by rw [← C.len];omega) j h1 (by rw [← C.len];exact h2)
theorem InvQ.kills (q:InvQ hs ts pt zs)(G:FormL n ts pt)(hlen:∀ u∈hs,u.length=n)(hin:∀ u∈hs,Gens n (InL ts) u)(hl:hs.length=ts.length):∀ u∈ts,Gens n (InL hs) (u.map (lastZ zs zs.length * ·)):=by
 obtain⟨ys,fa,fs,pa,D,rfl,F,a,hfa,TF,C⟩:=q
 have hr:fa.length=ts.length:=hfa.trans hl
 intro u hu
 have h0:0 < ts.length:=List.length_pos_of_mem hu
 have S:Sq ts.length fa:=zaO F hr
 have hE:lastZ (overOne ys) (overOne ys).length=ys.getD (ts.length - 1) 0:=by
  rw [ziT (fun i hi=>C.pos i (by rw [← C.len];exact hi)) (fun i hi=>by
   have:=C.into (i:=i) (by rw [← C.len];exact hi)
   rwa [← C.len] at this) (by rw [C.len,hr];exact h0),C.len,hr]
 rw [hE]
 generalize hee:ys.getD (ts.length - 1) 0=e
 have k1:Kills ts.length (dgM fun i=>ys.getD i 0) e:=zh5 fun i hi=>by
  have:=C.into (i:=i) (by rw [hr];exact hi)
  rwa [hr,hee] at this
 have rel:=C.rel
 have free:=TF.free
 have alike:=TF.alike
 have len:=TF.len
 have lens:=TF.lens
 rw [hr] at rel free alike len lens
 have k2:Kills ts.length (ent fs) e:=k1.equ rel.symm
 have k3:Kills ts.length (ent (colsL fa ts.length)) e:=k2.equ (zex free S.free_cols len (zN ..) lens (fun v hv=>by rw [zaG fa ts.length v hv,hr]) alike).symm
 have k4:Kills ts.length (trM (ent fa)) e:=k3.equ (.of fun i j hi hj=>zai S hi hj)
 obtain⟨c,hc,-⟩:=k4.tr
 obtain⟨T,hT⟩:=zI (r:=ts.length) (n:=ts.length) (mm:=ts.length) (H:=ent fa) (M:=ent (muchM hs ts pt)) fun k hk=>by
  have hm:fa.getD k []∈fa:=zm (by omega)
  have g:=zy ((a _).1 (.base hm (F.len _ hm)))
  rw [zaM,hl] at g
  exact g
 have hX:EqM ts.length (mulM ts.length (mulM ts.length c T) (ent (muchM hs ts pt))) (scM e):=by
  rw [zS]
  exact((EqM.refl c).mul fun i j hi hj=>(hT i j hi hj).symm).trans hc
 obtain⟨i,hi,hui⟩:=List.getElem_of_mem hu
 have hun:=G.len u hu
 refine zeD hlen (by rw [List.length_map];exact hun) ⟨fun j=>mulM ts.length c T i j,fun b hb=>?_⟩
 have e1:(u.map (e * ·)).getD b 0=e * u.getD b 0:=by
  rw [List.getD_eq_getElem?_getD,List.getD_eq_getElem?_getD,List.getElem?_map,List.getElem?_eq_getElem (by omega)]
  rfl
 have e2:sumN hs.length (fun j=>mulM ts.length c T i j *(hs.getD j []).getD b 0)=sumN ts.length (fun k=>mulM ts.length (mulM ts.length c T) (ent (muchM hs ts pt)) i k * ent ts k b):=by
  rw [hl]
  have e3:sumN ts.length (fun j=>mulM ts.length c T i j *(hs.getD j []).getD b 0)=mulM ts.length (mulM ts.length c T) (mulM ts.length (ent (muchM hs ts pt)) (ent ts)) i b:=zj fun j hj=>by
   have:=zdl G hlen hin j b (by omega) hb
   unfold ent at this
   rw [this]
   rfl
  rw [e3,← zS]
  rfl
 show(u.map (e * ·)).getD b 0=sumN hs.length (fun j=>mulM ts.length c T i j *(hs.getD j []).getD b 0)
 rw [e1,e2,zE ts.length i hi _ fun k hk hne=>by rw [hX i k hi hk,scM,if_neg (Ne.symm hne),Int.zero_mul],hX i i hi hi,scM,if_pos rfl]
 show e * u.getD b 0=e *(ts.getD i []).getD b 0
 rw [zk hi,hui]
theorem ziZ {zs:List Int}(h:∀ z∈zs,0 < z):∀ z∈zs,z≤prodL zs:=by
 induction zs with
 | nil=>exact fun z hz=>absurd hz (by simp)
 | cons y ys ih=>
  have hp:∀ l:List Int,(∀ z∈l,0 < z)→0 < prodL l:=fun l=>by
   induction l with
   | nil=>exact fun _=>Int.zero_lt_one
   | cons a l ih=>exact fun h=>Int.mul_pos (h a (by simp)) (ih fun z hz=>h z (by simp [hz]))
  have p1:=hp ys fun z hz=>h z (by simp [hz])
  have p0:=h y (by simp)
  intro z hz
  show z≤y * prodL ys
  rcases List.mem_cons.1 hz with rfl | hz
  ·have:=Int.mul_le_mul_of_nonneg_left (show 1≤prodL ys by omega) (show 0≤z by omega)
   omega
  ·have h1:=ih (fun z hz=>h z (by simp [hz])) z hz
   have:=Int.mul_le_mul_of_nonneg_right (show 1≤y by omega) (show 0≤prodL ys by omega)
   omega
theorem InvQ.small (q:InvQ hs ts pt zs)(G:FormL n ts pt)(h4:n≤4)(hlen:∀ u∈hs,u.length=n)(hin:∀ u∈hs,Gens n (InL ts) u)(hl:hs.length=ts.length)(hb:∀ u∈hs,∀ j,j < n→ab (u.getD j 0) < bp 6)(hp:prodL zs=absI (det ts.length (ent (muchM hs ts pt))))(hpos:∀ z∈zs,0 < z):∀ z∈zs,ab z < bp 40:=by
 obtain⟨ys,fa,fs,pa,D,rfl,F,a,hfa,-,-⟩:=q
 have hr:fa.length=ts.length:=hfa.trans hl
 have S:Sq ts.length fa:=zaO F hr
 have hts:=G.short
 have d1:=zel (by rw [zaM];exact hl) (zbI hs ts pt) S a
 have d2:=S.bound a (zbI hs ts pt) (B:=bp 7) (by have:=zx 7;omega) fun us hus j hj=>by
  obtain⟨i,hi,rfl⟩:=List.mem_map.1 hus
  have h1:=ze8 G (hlen i hi) (hin i hi) (B:=bp 6) (fun b hb'=>by have:=hb i hi b hb';unfold absI;unfold ab at this;omega) j hj
  have h2:=zea (nv:=6) (by omega) h1
  unfold absI;unfold ab at h2
  have:bp (6+1)=bp 7:=rfl
  omega
 have d3:=zcT (r:=ts.length) (v:=7) (by omega)
 have d4:=zM (m:=ts.length * 7+2) (n:=40) (by omega)
 intro z hz
 have h1:=ziZ hpos z hz
 have h2:=hpos z hz
 unfold ab
 rw [if_neg (by omega)]
 rw [hp,d1] at h1
 omega
end
end Go.Proofs.YtnkcjkpkphjecaaGreatDoor
/- TopQuotient, the loop over the invariants: each is above one, each goes into the next one, and their product. -/
namespace Go.Proofs.YtnkcjkpkphjecaaGreatDoor
open Go.RowKit Limbs Digs
structure QI (V W:World)(BP BL:Nat)(zs:List Int)(M j:Nat):Prop where
 below:Below V.heap.size V W
 lowP:V.heap.size≤BP
 lowL:V.heap.size≤BL
 ne:BP≠BL
 p:∃ pn po pl pc,BoxL W BP (.bool pn) (.slice po pl pc)∧NumL W (.agg #[.bool pn,.slice po pl pc]) (prodL (zs.take j)) M
 l:∃ ln lo ll lc,BoxL W BL (.bool ln) (.slice lo ll lc)∧NumL W (.agg #[.bool ln,.slice lo ll lc]) (lastZ zs j) 40
theorem zh8 {zs:List Int}(h:∀ z∈zs,1 < z){j:Nat}(hj:j≤zs.length):0 < lastZ zs j:=by
 unfold lastZ
 split
 ·exact Int.zero_lt_one
 ·have hl:j - 1 < zs.length:=by omega
  have:=h zs[j - 1] (List.getElem_mem hl)
  rw [List.getD_eq_getElem?_getD,List.getElem?_eq_getElem hl,Option.getD_some]
  omega
theorem zh7 {zs:List Int}(h:∀ i,i+1 < zs.length→∃ p,zs.getD (i+1) 0=p * zs.getD i 0){j:Nat}(hj:j < zs.length):∃ p,zs.getD j 0=p * lastZ zs j:=by
 unfold lastZ
 split
 ·exact⟨_,(Int.mul_one _).symm⟩
 ·have:=h (j - 1) (by omega)
  rwa [show j - 1+1=j by omega] at this
theorem zi0 (zs:List Int)(j:Nat)(hj:j < zs.length):prodL (zs.take (j+1))=prodL (zs.take j) * zs.getD j 0:=by
 rw [List.take_add_one,List.getElem?_eq_getElem hj,Option.toList_some,zds,List.getD_eq_getElem?_getD,List.getElem?_eq_getElem hj,Option.getD_some]
set_option linter.unusedSimpArgs false in
set_option maxRecDepth 100000 in
set_option maxHeartbeats 6400000 in
theorem zjY (w W:World)(V:World)(B6 B7 BQ BN BP BL n M MN:Nat)(o1 o2 zo:Option Addr)(k1 k2 zcap:Nat)(hs ts:List (List Int))(zs:List Int)(fr:Value)(nn:Bool)(no:Option Addr)(nl nc:Nat)(hbe:Below w.heap.size w V)(h1:1≤n)(h4:n≤4)(hx6:BoxL V B6 (.int .i64 (n:Int)) (.slice o1 hs.length k1))(hl6:LatN V (.agg #[.int .i64 (n:Int),.slice o1 hs.length k1]) n hs 6)(hx7:BoxL V B7 (.int .i64 (n:Int)) (.slice o2 ts.length k2))(hl7:LatN V (.agg #[.int .i64 (n:Int),.slice o2 ts.length k2]) n ts (n * 6+2))(hxq:BoxL V BQ (.slice zo zs.length zcap) fr)(hvq:VecN V (.slice zo zs.length zcap) zs M)(hM:M≤100000)(hz4:zs.length≤4)(hyn:BoxL V BN (.bool nn) (.slice no nl nc))(hnn:NumL V (.agg #[.bool nn,.slice no nl nc]) (prodL zs) MN)(habv:∀ z∈zs,1 < z)(hch:∀ i,i+1 < zs.length→∃ p,zs.getD (i+1) 0=p * zs.getD i 0)(hsm:∀ z∈zs,ab z < bp 40)(hpm:prodL zs < bp M)(hki:∀ u∈ts,Gens n (InL hs) (u.map (lastZ zs zs.length * ·)))(hI:QI V W BP BL zs M 0)(sl0 sl1 sl2 sl3 sl4 sl5 sl8 sl14 sl15 sl16 sl17 sl18 sl19 sl20 sl21 sl22 sl23 sl24 sl25 sl26 sl27 sl28 sl29 sl30 sl31 sl32 sl33 sl34 sl35 sl36 sl37 sl38 sl39 sl40 sl41 sl42 sl43 sl44 sl45 sl46 sl47 sl48 sl49 sl50 sl51 sl52 sl53 sl54 sl55 sl56 sl57 sl58 sl59 sl60 sl61 sl62 sl63 sl64 sl65 sl66 sl67 sl68 sl69 sl70 sl71 sl72 sl73 sl74 sl75 sl76 sl77 sl78 sl79 sl80 sl81 sl82 sl83 sl84 sl85 sl86 sl87 sl88 sl89 sl90 sl91 sl92 sl93 sl94 sl95 sl96 sl97 sl98 sl99 sl100 sl101 sl102 sl103 sl104 sl105 sl106 sl107 sl108 sl109 sl110 sl111 sl112 sl113 sl114 sl115 sl116 sl117 sl118 sl119 sl120 sl121 sl122 sl123 sl124 sl125 sl126 sl127 sl128 sl129 sl130 sl131 sl132 sl133 sl134 sl135 sl136 sl137 sl138 sl139 sl140 sl141 sl142 sl143 sl144 sl145 sl146 sl147 sl148 sl149 sl150 sl151 sl152 sl153 sl154 sl155 sl156 sl157:Value):
  (Code.tl (Code.tl (Code.tl (Code.tl (Code.tl (Code.tl (Code.tl (Code.tl (Code.tl (Code.tl (Code.tl (Code.tl (Code.tl ((Tryz.f5.body).getD .skip)))))))))))))).wp Tryz.prog (bodyPost Tryz.prog Tryz.f5 (fun e w'=>e=.returned (.bool true)∧Below w.heap.size w w')) ⟨#[sl0,sl1,sl2,sl3,sl4,sl5,.pointer (some ⟨B6,0,none⟩),.pointer (some ⟨B7,0,none⟩),sl8,.pointer (some ⟨BQ,0,none⟩),.pointer (some ⟨BN,0,none⟩),.nilIface,.pointer (some ⟨BP,0,none⟩),.pointer (some ⟨BL,0,none⟩),sl14,sl15,sl16,sl17,sl18,sl19,sl20,sl21,sl22,sl23,sl24,sl25,sl26,sl27,sl28,sl29,sl30,sl31,sl32,sl33,sl34,sl35,sl36,sl37,sl38,sl39,sl40,sl41,sl42,sl43,sl44,sl45,sl46,sl47,sl48,sl49,sl50,sl51,sl52,sl53,sl54,sl55,sl56,sl57,sl58,sl59,sl60,sl61,sl62,sl63,sl64,sl65,sl66,sl67,sl68,sl69,sl70,sl71,sl72,sl73,sl74,sl75,sl76,sl77,sl78,sl79,sl80,sl81,sl82,sl83,sl84,sl85,sl86,sl87,sl88,sl89,sl90,sl91,sl92,sl93,sl94,sl95,sl96,sl97,sl98,sl99,sl100,sl101,sl102,sl103,sl104,sl105,sl106,sl107,sl108,sl109,sl110,sl111,sl112,sl113,sl114,sl115,sl116,sl117,sl118,sl119,sl120,sl121,sl122,sl123,sl124,sl125,sl126,sl127,sl128,sl129,sl130,sl131,sl132,sl133,sl134,sl135,sl136,sl137,sl138,sl139,sl140,sl141,sl142,sl143,sl144,sl145,sl146,sl147,sl148,sl149,sl150,sl151,sl152,sl153,sl154,sl155,sl156,sl157],[]⟩ W:=by
 simp only [Code.tl,Tryz.f5,Option.getD_some]
 have HBE:=hide hbe;have X6:=hide hx6;have X7:=hide hx7;have L6:=hide (LatG.mk hl6);have L7:=hide (LatG.mk hl7);have XQ:=hide hxq;have VQ:=hide (VecG.mk hvq);have YN:=hide hyn;have NN:=hide (NumG.mk hnn);have HAB:=hide habv;have HCH:=hide hch;have HSM:=hide hsm;have HPM:=hide hpm;have HKI:=hide hki;have HI:=hide hI
 clear hbe hx6 hx7 hl6 hl7 hxq hvq hyn hnn habv hch hsm hpm hki hI
 go_upto_block 0 with fail
 go_cut [4,14,15,16,17] from 82 to 124 (fun _ _ _ _ _ wc=>QI V wc BP BL zs M zs.length)
 case first=>
  go_wp2_with fail
  go_loopw [14] (fun i wr=>∃ j:Nat,j≤zs.length∧i=.int .i64 j∧Hid (QI V wr BP BL zs M j)) (fun i _=>zs.length - (intOf i).toNat)
  case atStart=>exact⟨0,Nat.zero_le _,rfl,HI⟩
  case round=>
   clear HI
   obtain⟨j,hj,rfl,HI⟩:=hrel
   obtain⟨d0,-,-,-⟩:=(XQ.out.later HI.out.below).1
   by_cases hjl:j < zs.length
   ·have lq:=(XQ.out.later HI.out.below).2
    obtain⟨zb,zoff,_,e⟩:=VQ.out.vec.form (by omega)
    simp only [Value.slice.injEq,true_and] at e
    obtain⟨rfl,rfl⟩:=e
    obtain⟨lz,an,ao,al,ac,a2,a3,na⟩:=(VQ.out.later HI.out.below).vec.at j hjl
    have HZM:Hid (zs.getD j 0∈zs):=by show _∈_;rw [List.getD_eq_getElem?_getD,List.getElem?_eq_getElem hjl];exact List.getElem_mem hjl
    obtain⟨pn,po,pl,pc,hyp,hnp⟩:=HI.out.p
    obtain⟨ln,lo,ll,lc,hyl,hnl⟩:=HI.out.l
    have HZY:Hid (∃ p,zs.getD j 0=p * lastZ zs j):=zh7 HCH.out hjl
    have hy0:0 < lastZ zs j:=zh8 HAB.out (by omega)
    have HLZ:Hid (lastZ zs (j+1)=zs.getD j 0):=rfl
    have HPZ:=hide (zi0 zs j hjl)
    have HZ1:=hide (HAB.out _ HZM.out);have HZ40:=hide (HSM.out _ HZM.out)
    have NZ:=hide (NumG.mk na);have NL:=hide (NumG.mk hnl);have NP:=hide (NumG.mk hnp);have YP:=hide hyp;have YL:=hide hyl
    clear na hnl hnp hyp hyl HZM
    generalize zs.getD j 0=z at *
    generalize lastZ zs j=y at *
    obtain⟨⟨l0,l1,-,-⟩,ll2⟩:=YL.out
    have hst:=QuoGot.moved M 40 z y
    go_wp2_with fail
    refine zab (by kernel_rfl) (by kernel_rfl) (fun L a' w'=>∃(c:Nat→Value) (G:Nat→Nat),a'=(⟨#[sl0,sl1,sl2,sl3,u4,sl5,.pointer (some ⟨B6,0,none⟩),.pointer (some ⟨B7,0,none⟩),sl8,.pointer (some ⟨BQ,0,none⟩),.pointer (some ⟨BN,0,none⟩),.nilIface,.pointer (some ⟨BP,0,none⟩),.pointer (some ⟨BL,0,none⟩),.int .i64 (j:Int),c 11,c 12,c 15,sl18,sl19,sl20,sl21,sl22,sl23,sl24,sl25,sl26,sl27,sl28,sl29,sl30,sl31,sl32,sl33,sl34,sl35,sl36,sl37,sl38,sl39,sl40,sl41,sl42,sl43,sl44,sl45,sl46,sl47,sl48,sl49,sl50,sl51,sl52,sl53,sl54,sl55,sl56,sl57,sl58,sl59,sl60,sl61,sl62,sl63,sl64,sl65,sl66,sl67,sl68,sl69,sl70,sl71,sl72,sl73,sl74,sl75,sl76,sl77,sl78,sl79,sl80,sl81,.int .i64 (j:Int),.pointer (some ⟨BQ,0,none⟩),.slice (some ⟨zb,zoff,none⟩) zs.length zcap,.int .i64 (zs.length:Int),.bool true,u87,u88,c 7,c 0,c 1,c 2,c 3,c 4,c 5,c 6,c 8,c 9,c 10,u100,u101,u102,u103,u104,u105,u106,u107,u108,u109,u110,u111,u112,u113,u114,u115,u116,u117,u118,u119,u120,u121,u122,u123,u124,sl125,sl126,sl127,sl128,sl129,sl130,sl131,sl132,sl133,sl134,sl135,sl136,sl137,sl138,sl139,sl140,sl141,sl142,sl143,sl144,sl145,sl146,sl147,sl148,sl149,sl150,sl151,sl152,sl153,sl154,sl155,sl156,sl157],[]⟩:Act)∧Tags (D2 6) (FA2 6 [.pointer (some ⟨BQ,0,none⟩),.slice (some ⟨zb,zoff,none⟩) zs.length zcap,.int .i64 (j:Int),.pointer (some ⟨zb,zoff+j * 2,none⟩),.agg #[.bool an,.slice ao al ac],.agg #[.bool ln,.slice lo ll lc]] (QuoGot M 40 z y) (wr).heap.size) (wr) L c w' G) ⟨fun i=>List.getD [u90,u91,u92,u93,u94,u95,u96,u89,u97,u98,u99,u15,u16,undef,undef,u17] i undef,fun _=>0,rfl,Tags.start _ _ _⟩ ?_ ?_
    ·rintro L a' w' i o ⟨c,G,rfl,R⟩ ho hn hdep K hK
     have hi:i < 16:=(Array.getElem?_eq_some_iff.1 ho).1
     rcases(by omega:i=0∨i=1∨i=2∨i=3∨i=4∨i=5∨i=6∨i=7∨i=8∨i=9∨i=10∨i=11∨i=12∨i=13∨i=14∨i=15) with rfl | rfl | rfl | rfl | rfl | rfl | rfl | rfl | rfl | rfl | rfl | rfl | rfl | rfl | rfl | rfl
     ·obtain rfl:=Option.some.inj ho
      have R':=R.plain hn (fun j hj=>absurd hj (by simp [D2])) (FA2.keep hst) (v:=(.pointer (some ⟨BQ,0,none⟩))) (show upd c 0 ((.pointer (some ⟨BQ,0,none⟩))) 0=(.pointer (some ⟨BQ,0,none⟩)) from zc _ _ _)
      clear R
      go_simp
      exact hK.out _ _ ⟨_,_,by simp [upd],R'⟩
     ·obtain rfl:=Option.some.inj ho
      have e0:c 0=(.pointer (some ⟨BQ,0,none⟩)):=R.facts 0 (hdep ⟨0,.data⟩ (by simp) rfl)
      have q0:=(R.below.cell (p:=⟨BQ,0,none⟩) lq).trans d0
      have R':=R.plain hn (fun j hj=>absurd hj (by simp [D2])) (FA2.keep hst) (v:=(.slice (some ⟨zb,zoff,none⟩) zs.length zcap)) (show upd c 1 ((.slice (some ⟨zb,zoff,none⟩) zs.length zcap)) 1=(.slice (some ⟨zb,zoff,none⟩) zs.length zcap) from zc _ _ _)
      clear R
      rw [e0]
      go_simp
      exact hK.out _ _ ⟨_,_,by simp [upd,e0],R'⟩
     ·obtain rfl:=Option.some.inj ho
      have R':=R.plain hn (fun j hj=>absurd hj (by simp [D2])) (FA2.keep hst) (v:=(.int .i64 (j:Int))) (show upd c 2 ((.int .i64 (j:Int))) 2=(.int .i64 (j:Int)) from zc _ _ _)
      clear R
      go_simp
      exact hK.out _ _ ⟨_,_,by simp [upd],R'⟩
     ·obtain rfl:=Option.some.inj ho
      have e1:c 1=(.slice (some ⟨zb,zoff,none⟩) zs.length zcap):=R.facts 1 (hdep ⟨1,.data⟩ (by simp) rfl)
      have e2:c 2=(.int .i64 (j:Int)):=R.facts 2 (hdep ⟨2,.data⟩ (by simp) rfl)
      have R':=R.plain hn (fun j hj=>absurd hj (by simp [D2])) (FA2.keep hst) (v:=(.pointer (some ⟨zb,zoff+j * 2,none⟩))) (show upd c 3 ((.pointer (some ⟨zb,zoff+j * 2,none⟩))) 3=(.pointer (some ⟨zb,zoff+j * 2,none⟩)) from zc _ _ _)
      clear R
      rw [e1,e2]
      go_simp
      exact hK.out _ _ ⟨_,_,by simp [upd,e1,e2],R'⟩
     ·obtain rfl:=Option.some.inj ho
      have e3:c 3=(.pointer (some ⟨zb,zoff+j * 2,none⟩)):=R.facts 3 (hdep ⟨3,.data⟩ (by simp) rfl)
      have q0:=(R.below.cell (p:=⟨zb,zoff+j * 2,none⟩) lz).trans a2
      have q1:=(R.below.cell (p:=⟨zb,zoff+j * 2+1,none⟩) lz).trans a3
      have R':=R.plain hn (fun j hj=>absurd hj (by simp [D2])) (FA2.keep hst) (v:=(.agg #[.bool an,.slice ao al ac])) (show upd c 4 ((.agg #[.bool an,.slice ao al ac])) 4=(.agg #[.bool an,.slice ao al ac]) from zc _ _ _)
      clear R
      rw [e3]
      go_simp
      exact hK.out _ _ ⟨_,_,by simp [upd,e3],R'⟩
     ·obtain rfl:=Option.some.inj ho
      have q0:=(R.below.cell (p:=⟨BL,0,none⟩) ll2).trans l0
      have q1:=(R.below.cell (p:=⟨BL,0+1,none⟩) ll2).trans l1
      have R':=R.plain hn (fun j hj=>absurd hj (by simp [D2])) (FA2.keep hst) (v:=(.agg #[.bool ln,.slice lo ll lc])) (show upd c 5 ((.agg #[.bool ln,.slice lo ll lc])) 5=(.agg #[.bool ln,.slice lo ll lc]) from zc _ _ _)
      clear R
      go_simp
      exact hK.out _ _ ⟨_,_,by simp [upd],R'⟩
     ·obtain rfl:=Option.some.inj ho
      have e4:c 4=(.agg #[.bool an,.slice ao al ac]):=R.facts 4 (hdep ⟨4,.data⟩ (by simp) rfl)
      have e5:c 5=(.agg #[.bool ln,.slice lo ll lc]):=R.facts 5 (hdep ⟨5,.data⟩ (by simp) rfl)
      rw [e4,e5]
      go_simp
      refine(zaI w' _ _ z y M 40 (NZ.out.num.below R.below zL) (NL.out.num.below R.below zL) (by omega) (by omega)).mono ?_
      rintro e wq ⟨vq,vr,s,t,rfl,m1,m2,m3,m4,hb⟩
      have R':=R.call hn (fun j hj=>absurd hj (by simp [D2])) (FA2.keep hst) hb (v:=.tuple #[vq,vr,.nilIface]) (show QuoGot M 40 z y wq (upd c 6 (.tuple #[vq,vr,.nilIface]) 6) from by rw [zc];exact⟨vq,vr,s,t,rfl,m1,m2,m3,m4⟩)
      clear m1 m2 m3 m4 hb
      clear R
      go_wp2_with fail
      exact hK.out _ _ ⟨_,_,by simp [upd,e4,e5],R'⟩
     ·obtain rfl:=Option.some.inj ho
      have R':=R.plain hn (fun j hj=>by simp [D2] at hj;subst hj;exact hdep ⟨_,.data⟩ (by simp) rfl) (FA2.keep hst) (v:=c 6) (show upd c 7 (c 6) 7=upd c 7 (c 6) 6 from by rw [zc,zd _ _ (by decide)])
      clear R
      go_simp
      exact hK.out _ _ ⟨_,_,by simp [upd],R'⟩
     ·obtain rfl:=Option.some.inj ho
      have hm:=hdep ⟨7,.data⟩ (by simp) rfl
      have em:c 7=c 6:=R.facts 7 hm
      obtain⟨vq,vr,s,t,ec,nm1,nm2,-⟩:(QuoGot M 40 z y) w' (c 6):=R.facts 6 (R.closed 7 hm 6 (by simp [D2]))
      rw [ec] at em
      have R':=R.plain hn (fun j hj=>by simp [D2] at hj;subst hj;exact hdep ⟨_,.data⟩ (by simp) rfl) (FA2.keep hst) (v:=vq) (show ∃ u1 u2 u3:Value,upd c 8 vq 7=.tuple #[u1,u2,u3]∧upd c 8 vq 8=u1 from⟨vq,vr,(.nilIface:Value),by rw [zd _ _ (by decide)];exact em,zc _ _ _⟩)
      clear R ec
      rw [em]
      go_simp
      exact hK.out _ _ ⟨_,_,by simp [upd,em],R'⟩
     ·obtain rfl:=Option.some.inj ho
      have hm:=hdep ⟨7,.data⟩ (by simp) rfl
      have em:c 7=c 6:=R.facts 7 hm
      obtain⟨vq,vr,s,t,ec,nm1,nm2,-⟩:(QuoGot M 40 z y) w' (c 6):=R.facts 6 (R.closed 7 hm 6 (by simp [D2]))
      rw [ec] at em
      have R':=R.plain hn (fun j hj=>by simp [D2] at hj;subst hj;exact hdep ⟨_,.data⟩ (by simp) rfl) (FA2.keep hst) (v:=vr) (show ∃ u1 u2 u3:Value,upd c 9 vr 7=.tuple #[u1,u2,u3]∧upd c 9 vr 9=u2 from⟨vq,vr,(.nilIface:Value),by rw [zd _ _ (by decide)];exact em,zc _ _ _⟩)
      clear R ec
      rw [em]
      go_simp
      exact hK.out _ _ ⟨_,_,by simp [upd,em],R'⟩
     ·obtain rfl:=Option.some.inj ho
      have hm:=hdep ⟨7,.data⟩ (by simp) rfl
      have em:c 7=c 6:=R.facts 7 hm
      obtain⟨vq,vr,s,t,ec,nm1,nm2,-⟩:(QuoGot M 40 z y) w' (c 6):=R.facts 6 (R.closed 7 hm 6 (by simp [D2]))
      rw [ec] at em
      have R':=R.plain hn (fun j hj=>by simp [D2] at hj;subst hj;exact hdep ⟨_,.data⟩ (by simp) rfl) (FA2.keep hst) (v:=(.nilIface:Value)) (show ∃ u1 u2 u3:Value,upd c 10 (.nilIface:Value) 7=.tuple #[u1,u2,u3]∧upd c 10 (.nilIface:Value) 10=u3 from⟨vq,vr,(.nilIface:Value),by rw [zd _ _ (by decide)];exact em,zc _ _ _⟩)
      clear R ec
      rw [em]
      go_simp
      exact hK.out _ _ ⟨_,_,by simp [upd,em],R'⟩
     ·obtain rfl:=Option.some.inj ho
      obtain⟨G',R'⟩:=R.alloc hn (fun j hj=>absurd hj (by simp [D2])) (FA2.keep hst) 13 42 (fun W' G' h=>show Made W' G' _ 13 (upd c 11 (ptr w'.heap.size) 11) from by rw [zc];exact h)
      clear R
      go_simp
      exact hK.out _ _ ⟨_,G',by simp [upd],R'⟩
     ·obtain rfl:=Option.some.inj ho
      obtain⟨G',R'⟩:=R.alloc hn (fun j hj=>absurd hj (by simp [D2])) (FA2.keep hst) 14 42 (fun W' G' h=>show Made W' G' _ 14 (upd c 12 (ptr w'.heap.size) 12) from by rw [zc];exact h)
      clear R
      go_simp
      exact hK.out _ _ ⟨_,G',by simp [upd],R'⟩
     ·obtain rfl:=Option.some.inj ho
      have hx:=hdep ⟨8,.data⟩ (by simp) rfl
      have hm:=R.closed 8 hx 7 (by simp [D2])
      have em:c 7=c 6:=R.facts 7 hm
      obtain⟨vq,vr,s,t,ec,nm1,nm2,-⟩:(QuoGot M 40 z y) w' (c 6):=R.facts 6 (R.closed 7 hm 6 (by simp [D2]))
      obtain⟨u1,u2,u3,em',ex⟩:∃ u1 u2 u3:Value,c 7=.tuple #[u1,u2,u3]∧c 8=u1:=R.facts 8 hx
      rw [em,ec] at em'
      simp only [Value.tuple.injEq,Array.mk.injEq,List.cons.injEq,and_true] at em'
      obtain⟨rfl,rfl,rfl⟩:=em'
      obtain⟨s,hs⟩:=nm1.nm
      rw [hs] at ex
      obtain⟨B,ea,hC,hB,hG,r,hb⟩:Made w' G _ 13 (c 11):=R.facts 11 (hdep ⟨11,.data⟩ (by simp) rfl)
      have R':=R.store hn (fun j hj=>by simp [D2] at hj;rcases hj with rfl | rfl <;> exact hdep ⟨_,.data⟩ (by simp) rfl) (FA2.keep hst) s hC hB hG hb (fun W' G' h=>show ∃ r:Nm,upd c 13 undef 8=r.v∧Stored W' G' _ 13 (upd c 13 undef 11) r from⟨s,by rw [zd _ _ (by decide)];exact ex,by rw [zd _ _ (by decide),ea];exact h⟩)
      obtain⟨b0,b1,b2,b3⟩:=hb
      obtain⟨sn,so,sl,sc⟩:=s
      dsimp only at *
      clear R em ec
      rw [ea,ex]
      go_simp
      exact hK.out _ _ ⟨_,_,by simp [upd,ea,ex],R'⟩
     ·obtain rfl:=Option.some.inj ho
      have hx:=hdep ⟨9,.data⟩ (by simp) rfl
      have hm:=R.closed 9 hx 7 (by simp [D2])
      have em:c 7=c 6:=R.facts 7 hm
      obtain⟨vq,vr,s,t,ec,nm1,nm2,-⟩:(QuoGot M 40 z y) w' (c 6):=R.facts 6 (R.closed 7 hm 6 (by simp [D2]))
      obtain⟨u1,u2,u3,em',ex⟩:∃ u1 u2 u3:Value,c 7=.tuple #[u1,u2,u3]∧c 9=u2:=R.facts 9 hx
      rw [em,ec] at em'
      simp only [Value.tuple.injEq,Array.mk.injEq,List.cons.injEq,and_true] at em'
      obtain⟨rfl,rfl,rfl⟩:=em'
      obtain⟨s,hs⟩:=nm2.nm
      rw [hs] at ex
      obtain⟨B,ea,hC,hB,hG,r,hb⟩:Made w' G _ 14 (c 12):=R.facts 12 (hdep ⟨12,.data⟩ (by simp) rfl)
      have R':=R.store hn (fun j hj=>by simp [D2] at hj;rcases hj with rfl | rfl <;> exact hdep ⟨_,.data⟩ (by simp) rfl) (FA2.keep hst) s hC hB hG hb (fun W' G' h=>show ∃ r:Nm,upd c 14 undef 9=r.v∧Stored W' G' _ 14 (upd c 14 undef 12) r from⟨s,by rw [zd _ _ (by decide)];exact ex,by rw [zd _ _ (by decide),ea];exact h⟩)
      obtain⟨b0,b1,b2,b3⟩:=hb
      obtain⟨sn,so,sl,sc⟩:=s
      dsimp only at *
      clear R em ec
      rw [ea,ex]
      go_simp
      exact hK.out _ _ ⟨_,_,by simp [upd,ea,ex],R'⟩
     ·obtain rfl:=Option.some.inj ho
      have R':=R.plain hn (fun j hj=>by simp [D2] at hj;subst hj;exact hdep ⟨_,.data⟩ (by simp) rfl) (FA2.keep hst) (v:=c 10) (show upd c 15 (c 10) 15=upd c 15 (c 10) 10 from by rw [zc,zd _ _ (by decide)])
      clear R
      go_simp
      exact hK.out _ _ ⟨_,_,by simp [upd],R'⟩
    ·rintro L a' w0 ⟨cc,G,rfl,R⟩ hall
     obtain⟨⟨sn,so,sl,sc⟩,⟨tn,tO,tL,tC⟩,u3v,B1,B2,⟨vq,vr,s,t,ec,-,N2',hps,hleft⟩,e11,e12,e15,l1',l2',s1,s2,d12,-,x2,hb1⟩:=R.fin2 (fun i hi=>hall i hi)
     simp only [Value.tuple.injEq,Array.mk.injEq,List.cons.injEq,and_true] at ec
     obtain⟨-,rfl,rfl⟩:=ec
     obtain⟨pq,hpq⟩:=HZY.out
     have ht0:t=0:=by have:=Left.exact hy0 hpq hps hleft;omega
     subst ht0
     have N2:=hide (NumG.mk N2')
     have HB0:=hide hb1
     have NZ0:=hide (NZ.out.later hb1)
     obtain⟨k0,k1',-,-⟩:=x2
     have k2':=(hb1.cell (p:=⟨BQ,0,none⟩) lq).trans d0
     have k3:=(hb1.cell (p:=⟨zb,zoff+j * 2,none⟩) lz).trans a2
     have k4:=(hb1.cell (p:=⟨zb,zoff+j * 2+1,none⟩) lz).trans a3
     have lq0:=zT lq hb1.size;have lz0:=zT lz hb1.size
     have HC1:Hid (cmpI z 1=1):=by show _=_;unfold cmpI;rw [if_neg (by have:=HZ1.out;omega),if_pos HZ1.out]
     clear R hall hst N2' hps hleft l1' l2' d12 hb1 d0 a2 a3 l0 l1 hpq HZY NL
     dsimp only at *
     rw [e11,e12,e15]
     clear e11 e12 e15
     go_wp2_with fail
     go_region_held3 (fun w'=>w'.cell? ⟨B2,0,none⟩=some (.bool tn)∧w'.cell? ⟨B2,1,none⟩=some (.slice tO tL tC)∧w'.cell? ⟨BQ,0,none⟩=some (.slice (some ⟨zb,zoff,none⟩) zs.length zcap)∧w'.cell? ⟨zb,zoff+j * 2,none⟩=some (.bool an)∧w'.cell? ⟨zb,zoff+j * 2+1,none⟩=some (.slice ao al ac)) (go_keep)
      (first
       |(go_at_call 22;refine(zae _ _ 0 _ (by exact N2.out.num.below (Below.refl _ _).drew zL)).mono ?_;rintro e wa ⟨rfl,hba⟩;have HBa:=hide (show Below w0.heap.size w0 wa from(Below.refl _ _).drew.trans (hba.mono (by simp)));have m0:=(HBa.out.cell (p:=⟨B2,0,none⟩) s2).trans k0;have m1:=(HBa.out.cell (p:=⟨B2,1,none⟩) s2).trans k1';have m2:=(HBa.out.cell (p:=⟨BQ,0,none⟩) lq0).trans k2';have m3:=(HBa.out.cell (p:=⟨zb,zoff+j * 2,none⟩) lz0).trans k3;have m4:=(HBa.out.cell (p:=⟨zb,zoff+j * 2+1,none⟩) lz0).trans k4;have sa:=zT s2 HBa.out.size;have lqa:=zT lq0 HBa.out.size;have lza:=zT lz0 HBa.out.size;clear hba)
       |(go_at_call 18;refine(zX wa 1 (by decide) (by decide)).mono ?_;rintro e wb ⟨vb1,rfl,hv1,hbb⟩;have HBb:=hide hbb;have N1b:=hide (NumG.mk hv1);have o0:=(HBb.out.cell (p:=⟨B2,0,none⟩) sa).trans m0;have o1':=(HBb.out.cell (p:=⟨B2,1,none⟩) sa).trans m1;have o2':=(HBb.out.cell (p:=⟨BQ,0,none⟩) lqa).trans m2;have o3:=(HBb.out.cell (p:=⟨zb,zoff+j * 2,none⟩) lza).trans m3;have o4:=(HBb.out.cell (p:=⟨zb,zoff+j * 2+1,none⟩) lza).trans m4;have sb:=zT sa HBb.out.size;have lqb:=zT lqa HBb.out.size;have lzb:=zT lza HBb.out.size;clear hv1 hbb)
       |(go_at_call 23;refine(zbZ wb _ _ z 1 M 2 (by exact(NZ0.out.num.below HBa.out zL).below HBb.out zL) (by exact N1b.out.num)).mono ?_;rintro e wc ⟨rfl,hbc⟩;rw [HC1.out];have HBc:=hide hbc;have p0:=(HBc.out.cell (p:=⟨B2,0,none⟩) sb).trans o0;have p1:=(HBc.out.cell (p:=⟨B2,1,none⟩) sb).trans o1';have p2:=(HBc.out.cell (p:=⟨BQ,0,none⟩) lqb).trans o2';have p3:=(HBc.out.cell (p:=⟨zb,zoff+j * 2,none⟩) lzb).trans o3;have p4:=(HBc.out.cell (p:=⟨zb,zoff+j * 2+1,none⟩) lzb).trans o4;clear hbc))
     have HBC:=hide (HB0.out.trans ((HBa.out.trans ((HBb.out.trans (HBc.out.mono HBb.out.size)).mono HBa.out.size)).mono HB0.out.size))
     have YPc:=hide (YP.out.later HBC.out);have YLc:=hide (YL.out.later HBC.out);have NPc:=hide (NP.out.later HBC.out);have NZc:=hide (NZ.out.later HBC.out)
     have HVc:=hide (HI.out.below.trans (HBC.out.mono HI.out.below.size))
     have HLO:=hide (And.intro HI.out.lowP (And.intro HI.out.lowL HI.out.ne))
     clear k0 k1' k2' k3 k4 m0 m1 m2 m3 m4 o0 o1' o2' o3 o4 HB0 HBa HBb HBc HBC N1b N2 NZ0 NZ YP YL NP HI s1 s2 sa sb lq lz lq0 lz0 lqa lza lqb lzb ll2 HC1
     have YL4:=hide (YLc.out.write (.bool an) (.slice ao al ac))
     have YP4:=hide (YPc.out.other HLO.out.2.2 (.bool an) (.slice ao al ac))
     have NP4:=hide (NumG.mk (NPc.out.num.wrote (v0:=.bool an) (v1:=.slice ao al ac) YLc.out.1 (by simp) (by simp)))
     have NZ4:=hide (NumG.mk ((NZc.out.num.tight HZ40.out).wrote (v0:=.bool an) (v1:=.slice ao al ac) YLc.out.1 (by simp) (by simp)))
     have HV4:=hide ((HVc.out.setCell (p:=⟨BL,0,none⟩) HLO.out.2.1 (.bool an)).setCell (p:=⟨BL,1,none⟩) HLO.out.2.1 (.slice ao al ac))
     obtain⟨e0,e1,e2,e3⟩:=YLc.out.1
     obtain⟨g0,g1,g2,g3⟩:=YL4.out.1
     obtain⟨f0,f1,f2,f3⟩:=YP4.out.1
     go_wp2_with fail
     clear e0 e1 e2 e3 f0 f1 f2 f3 g0 g1 g2 g3 p0 p1 p2 p3 p4
     generalize (wc.setCell ⟨BL,0,none⟩ (.bool an)).setCell ⟨BL,1,none⟩ (.slice ao al ac)=w4 at *
     refine(zaB w4 _ _ (prodL (zs.take j)) z M 40 (by exact NP4.out.num) (by exact NZ4.out.num) (by omega) (by decide)).mono ?_
     rintro e wd ⟨vm,rfl,hvm,hbd⟩
     have HPB:=hide (zcr (fun z hz=>by have:=HAB.out z hz;omega) (j+1) hjl)
     have NM:=hide (NumG.mk (hvm.tight (m:=M) (by rw [← HPZ.out];have h1:=HPB.out.1;have h2:=HPB.out.2;have h3:=HPM.out;unfold ab;rw [if_neg (by omega)];omega)))
     rw [← HPZ.out] at NM
     obtain⟨⟨mn,mo,ml,mc⟩,rfl⟩:=hvm.nm
     have YPd:=hide (YP4.out.later hbd);have YLd:=hide (YL4.out.later hbd);have NZd:=hide (NZ4.out.later hbd)
     have HVd:=hide (HV4.out.trans (hbd.mono HV4.out.size))
     have HQI:Hid (QI V ((wd.setCell ⟨BP,0,none⟩ (.bool mn)).setCell ⟨BP,1,none⟩ (.slice mo ml mc)) BP BL zs M (j+1)):=⟨(HVd.out.setCell (p:=⟨BP,0,none⟩) HLO.out.1 _).setCell (p:=⟨BP,1,none⟩) HLO.out.1 _,HLO.out.1,HLO.out.2.1,HLO.out.2.2,⟨_,_,_,_,YPd.out.write _ _,NM.out.num.wrote YPd.out.1 (by simp) (by simp)⟩,⟨_,_,_,_,YLd.out.other (Ne.symm HLO.out.2.2) _ _,by rw [HLZ.out];exact NZd.out.num.wrote YPd.out.1 (by simp) (by simp)⟩⟩
     obtain⟨f0,f1,f2,f3⟩:=YPd.out.1
     clear hvm hbd YP4 YL4 NP4 NZ4 HV4 NM YPd YLd NZd HVd HPB
     go_wp2
     go_roundw
     case rel=>exact⟨j+1,by omega,by go_num,HQI⟩
     case measure=>simp [intOf];omega
   ·obtain rfl:j=zs.length:=by omega
    go_wp2_with fail
    go_meet
    case rel=>exact HI.out
 case rest=>
  have hE:=hcut
  apply_assumption
  obtain⟨pn,po,pl,pc,hyp,hnp⟩:=hE.p
  obtain⟨ln,lo,ll,lc,hyl,hnl⟩:=hE.l
  rw [List.take_length] at hnp
  exact zjZ w _ B6 B7 BN BP BL n M MN o1 o2 k1 k2 hs ts (lastZ zs zs.length) (prodL zs) pn ln nn po lo no pl pc ll lc nl nc (HBE.out.trans (hE.below.mono HBE.out.size)) h1 h4 (X6.out.later hE.below) (L6.out.later hE.below).lat (X7.out.later hE.below) (L7.out.later hE.below).lat hyp hnp hyl hnl (YN.out.later hE.below) (NN.out.later hE.below).num HKI.out _ _ _ _ _ _ _ _ _ _ _ _ _ _ _ _ _ _ _ _ _ _ _ _ _ _ _ _ _ _ _ _ _ _ _ _ _ _ _ _ _ _ _ _ _ _ _ _ _ _ _ _ _ _ _ _ _ _ _ _ _ _ _ _ _ _ _ _ _ _ _ _ _ _ _ _ _ _ _ _ _ _ _ _ _ _ _ _ _ _ _ _ _ _ _ _ _ _ _ _ _ _ _ _ _ _ _ _ _ _ _ _ _ _ _ _ _ _ _ _ _ _ _ _ _ _ _ _ _ _ _ _ _ _ _ _ _ _ _ _ _ _ _ _ _ _ _ _ _ _ _ _
end Go.Proofs.YtnkcjkpkphjecaaGreatDoor
/- TopQuotient, from Quotient on to the loop over the invariants. -/
namespace Go.Proofs.YtnkcjkpkphjecaaGreatDoor
open Go.RowKit Limbs Digs
set_option linter.unusedSimpArgs false in
set_option maxRecDepth 100000 in
set_option maxHeartbeats 6400000 in
theorem zjX (w W:World)(B6 B7 n:Nat)(o1 o2:Option Addr)(k1 k2:Nat)(hs ts:List (List Int))(ph pt:Nat→Nat)(hbe:Below w.heap.size w W)(h1:1≤n)(h4:n≤4)(hx6:BoxL W B6 (.int .i64 (n:Int)) (.slice o1 hs.length k1))(hl6:LatN W (.agg #[.int .i64 (n:Int),.slice o1 hs.length k1]) n hs 6)(hx7:BoxL W B7 (.int .i64 (n:Int)) (.slice o2 ts.length k2))(hl7:LatN W (.agg #[.int .i64 (n:Int),.slice o2 ts.length k2]) n ts (n * 6+2))(hF:FormL n hs ph)(GT:FormL n ts pt)(hin:∀ u∈hs,Gens n (InL ts) u)(sl0 sl1 sl2 sl3 sl4 sl5 sl8 sl9 sl10 sl11 sl12 sl13 sl14 sl15 sl16 sl17 sl18 sl19 sl20 sl21 sl22 sl23 sl24 sl25 sl26 sl27 sl28 sl29 sl30 sl31 sl32 sl33 sl34 sl35 sl36 sl37 sl38 sl39 sl40 sl41 sl42 sl43 sl44 sl45 sl46 sl47 sl48 sl49 sl50 sl51 sl52 sl53 sl54 sl55 sl56 sl57 sl58 sl59 sl60 sl61 sl62 sl63 sl64 sl65 sl66 sl67 sl68 sl69 sl70 sl71 sl72 sl73 sl74 sl75 sl76 sl77 sl78 sl79 sl80 sl81 sl82 sl83 sl84 sl85 sl86 sl87 sl88 sl89 sl90 sl91 sl92 sl93 sl94 sl95 sl96 sl97 sl98 sl99 sl100 sl101 sl102 sl103 sl104 sl105 sl106 sl107 sl108 sl109 sl110 sl111 sl112 sl113 sl114 sl115 sl116 sl117 sl118 sl119 sl120 sl121 sl122 sl123 sl124 sl125 sl126 sl127 sl128 sl129 sl130 sl131 sl132 sl133 sl134 sl135 sl136 sl137 sl138 sl139 sl140 sl141 sl142 sl143 sl144 sl145 sl146 sl147 sl148 sl149 sl150 sl151 sl152 sl153 sl154 sl155 sl156 sl157:Value):
  (Code.tl (Code.tl (Code.tl (Code.tl (Code.tl (Code.tl (Code.tl ((Tryz.f5.body).getD .skip)))))))).wp Tryz.prog (bodyPost Tryz.prog Tryz.f5 (fun e w'=>e=.returned (.bool true)∧Below w.heap.size w w')) ⟨#[sl0,sl1,sl2,sl3,sl4,sl5,.pointer (some ⟨B6,0,none⟩),.pointer (some ⟨B7,0,none⟩),sl8,sl9,sl10,sl11,sl12,sl13,sl14,sl15,sl16,sl17,sl18,sl19,sl20,sl21,sl22,sl23,sl24,sl25,sl26,sl27,sl28,sl29,sl30,sl31,sl32,sl33,sl34,sl35,sl36,sl37,sl38,sl39,sl40,sl41,sl42,sl43,sl44,sl45,sl46,sl47,sl48,sl49,sl50,sl51,sl52,sl53,sl54,sl55,sl56,sl57,sl58,sl59,sl60,sl61,sl62,sl63,sl64,sl65,sl66,sl67,sl68,sl69,sl70,sl71,sl72,sl73,sl74,sl75,sl76,sl77,sl78,sl79,sl80,sl81,sl82,sl83,sl84,sl85,sl86,sl87,sl88,sl89,sl90,sl91,sl92,sl93,sl94,sl95,sl96,sl97,sl98,sl99,sl100,sl101,sl102,sl103,sl104,sl105,sl106,sl107,sl108,sl109,sl110,sl111,sl112,sl113,sl114,sl115,sl116,sl117,sl118,sl119,sl120,sl121,sl122,sl123,sl124,sl125,sl126,sl127,sl128,sl129,sl130,sl131,sl132,sl133,sl134,sl135,sl136,sl137,sl138,sl139,sl140,sl141,sl142,sl143,sl144,sl145,sl146,sl147,sl148,sl149,sl150,sl151,sl152,sl153,sl154,sl155,sl156,sl157],[]⟩ W:=by
 simp only [Code.tl,Tryz.f5,Option.getD_some]
 have HBW:=hide hbe;have X6:=hide hx6;have X7:=hide hx7;have L6:=hide (LatG.mk hl6);have L7:=hide (LatG.mk hl7);have HGT:=hide GT;have HIN:=hide hin;have HFX:=hide hF
 have hsh:hs.length≤ts.length:=zeN hF GT hin
 have hts:=GT.short
 have HAE:Hid (∀ u∈hs,∀ j,j < n→ab (u.getD j 0) < bp 6):=fun u hu j hj=>by
  obtain⟨⟨u',e',hm⟩,-⟩:=hl6
  exact hm.abs u hu j (by rw [hF.len u hu];exact hj)
 clear hbe hx6 hx7 hl6 hl7 GT hin hF
 obtain⟨a0,a1,a2,a3⟩:=X6.out.1
 obtain⟨b0,b1,b2,b3⟩:=X7.out.1
 go_wp2_with fail
 clear a0 a1 a2 a3 b0 b1 b2 b3
 refine(zfC W _ _ n 6 (n * 6+2) hs ts pt (by exact L6.out.lat) (by exact L7.out.lat) HGT.out h1 h4 (roomNI n (by omega)).1 HIN.out roomS7).mono ?_
 rintro e w1 ⟨uq,M,zs,rfl,q1,hM,hz4,q4,q6,-,q8,hb1,qi⟩
 have VQ:=hide (VecG.mk q1)
 obtain⟨zo,zcap,rfl,-,-⟩:=q1
 have HPO:=hide q4;have HPM:=hide q6;have HQ8:=hide q8;have HQI:=hide qi
 clear q4 q6 q8 qi
 obtain⟨fr,hfr⟩:∃ fr,((ts.length:Int) - (hs.length:Int))=fr:=⟨_,rfl⟩
 have HFR:=hide hfr
 have hwr:IntKind.i64.wrap ((ts.length:Int) - (hs.length:Int))=fr:=by rw [← hfr,IntKind.wrap_i64];omega
 have hne:(fr != fr)=false:=by simp
 rw [hfr]
 clear hfr
 have X6':=hide (X6.out.later hb1)
 have X7':=hide (X7.out.later hb1)
 have L6':=hide (L6.out.later hb1)
 have L7':=hide (L7.out.later hb1)
 clear X6 X7 L6 L7
 have X6:=X6'
 have X7:=X7'
 have L6:=L6'
 have L7:=L7'
 clear X6' X7' L6' L7'
 have HBW':=hide (HBW.out.trans (hb1.mono HBW.out.size))
 clear HBW
 have HBW:=HBW'
 clear HBW'
 clear hb1
 have hN1:=zay w1 (.cells #[.slice zo zs.length zcap,.int .i64 fr] 61)
 have XQ:=hide (BoxL.new w1 (.slice zo zs.length zcap) (.int .i64 fr) 61)
 have X6':=hide (X6.out.later hN1)
 have X7':=hide (X7.out.later hN1)
 have L6':=hide (L6.out.later hN1)
 have L7':=hide (L7.out.later hN1)
 have VQ':=hide (VQ.out.later hN1)
 clear X6 X7 L6 L7 VQ
 have X6:=X6'
 have X7:=X7'
 have L6:=L6'
 have L7:=L7'
 have VQ:=VQ'
 clear X6' X7' L6' L7' VQ'
 have HBW':=hide (HBW.out.trans (hN1.mono HBW.out.size))
 clear HBW
 have HBW:=HBW'
 clear HBW'
 clear hN1
 by_cases hll:hs.length=ts.length
 ·have HLL:=hide hll
  clear hll
  have HAB:=hide HQI.out.above;have HCH:=hide HQI.out.chain;have HSM:=hide (HQI.out.small HGT.out h4 HFX.out.len HIN.out HLL.out HAE.out (HQ8.out HLL.out) HPO.out);have HKI:=hide (HQI.out.kills HGT.out HFX.out.len HIN.out HLL.out)
  clear HQI
  obtain⟨a0,a1,a2,a3⟩:=X6.out.1
  obtain⟨b0,b1,b2,b3⟩:=X7.out.1
  go_wp2_with fail
  clear a0 a1 a2 a3 b0 b1 b2 b3
  generalize w1.alloc (.cells #[.slice zo zs.length zcap,.int .i64 fr] 61)=W1 at *
  generalize w1.heap.size=BQ at *
  refine(zeO W1 _ _ n 6 (n * 6+2) hs ts pt (by exact L6.out.lat) (by exact L7.out.lat) HGT.out h1 h4 (roomNI n (by omega)).1 HIN.out roomS7).mono ?_
  rintro e w2 ⟨hb2,hc2⟩
  rcases hc2 with⟨h,-⟩ |⟨-,v2,MN,rfl,hv2,-⟩
  ·exact absurd h (by have:=HLL.out;omega)
  rw [← HQ8.out HLL.out] at hv2
  obtain⟨⟨gn,go2,gl,gc⟩,rfl⟩:=hv2.nm
  have NN:=hide (NumG.mk hv2)
  clear hv2
  have X6':=hide (X6.out.later hb2)
  have X7':=hide (X7.out.later hb2)
  have L6':=hide (L6.out.later hb2)
  have L7':=hide (L7.out.later hb2)
  have XQ':=hide (XQ.out.later hb2)
  have VQ':=hide (VQ.out.later hb2)
  clear X6 X7 L6 L7 XQ VQ
  have X6:=X6'
  have X7:=X7'
  have L6:=L6'
  have L7:=L7'
  have XQ:=XQ'
  have VQ:=VQ'
  clear X6' X7' L6' L7' XQ' VQ'
  have HBW':=hide (HBW.out.trans (hb2.mono HBW.out.size))
  clear HBW
  have HBW:=HBW'
  clear HBW'
  clear hb2
  have hN1:=zay w2 (.cells #[.bool gn,.slice go2 gl gc] 42)
  have YN:=hide (BoxL.new w2 (.bool gn) (.slice go2 gl gc) 42)
  have X6':=hide (X6.out.later hN1)
  have X7':=hide (X7.out.later hN1)
  have L6':=hide (L6.out.later hN1)
  have L7':=hide (L7.out.later hN1)
  have XQ':=hide (XQ.out.later hN1)
  have VQ':=hide (VQ.out.later hN1)
  have NN':=hide (NN.out.later hN1)
  clear X6 X7 L6 L7 XQ VQ NN
  have X6:=X6'
  have X7:=X7'
  have L6:=L6'
  have L7:=L7'
  have XQ:=XQ'
  have VQ:=VQ'
  have NN:=NN'
  clear X6' X7' L6' L7' XQ' VQ' NN'
  have HBW':=hide (HBW.out.trans (hN1.mono HBW.out.size))
  clear HBW
  have HBW:=HBW'
  clear HBW'
  clear hN1
  go_wp2_with fail
  generalize w2.alloc (.cells #[.bool gn,.slice go2 gl gc] 42)=W2 at *
  generalize w2.heap.size=BN at *
  obtain⟨-,a1,-,-⟩:=XQ.out.1;obtain⟨-,a2,-,-⟩:=X7.out.1;obtain⟨-,a3,-,-⟩:=X6.out.1
  have g1:decide (0 < fr)=false:=decide_eq_false (by have:=HLL.out;have:=HFR.out;omega)
  go_region_held3 (fun w'=>w'.cell? ⟨BQ,1,none⟩=some (.int .i64 fr)∧w'.cell? ⟨B7,1,none⟩=some (.slice o2 ts.length k2)∧w'.cell? ⟨B6,1,none⟩=some (.slice o1 hs.length k1)) (go_keep)
   (first
    |(go_at_call 11;refine(ziG _).mono ?_;rintro e wa ⟨rfl,hwa⟩;have HBa:=hide (show Below W2.heap.size W2 wa from by rw [hwa];exact(Below.refl _ _).drew);clear hwa;have X6a:=hide (X6.out.later HBa.out);have X7a:=hide (X7.out.later HBa.out);have L6a:=hide (L6.out.later HBa.out);have L7a:=hide (L7.out.later HBa.out);have XQa:=hide (XQ.out.later HBa.out);have VQa:=hide (VQ.out.later HBa.out);have NNa:=hide (NN.out.later HBa.out);have YNa:=hide (YN.out.later HBa.out);obtain⟨-,p1,-,-⟩:=XQa.out.1;obtain⟨-,p2,-,-⟩:=X7a.out.1;obtain⟨-,p3,-,-⟩:=X6a.out.1))
  have HWa:=hide (HBW.out.trans (HBa.out.mono HBW.out.size))
  clear a1 a2 a3 HBa HBW X6 X7 L6 L7 XQ VQ NN YN
  go_wp2_with fail
  clear p1 p2 p3 g1 hwr hne
  refine(zX wa 1 (by decide) (by decide)).mono ?_
  rintro e w3 ⟨v3,rfl,hv3,hb3⟩
  obtain⟨⟨pn,po,pl,pc⟩,rfl⟩:=hv3.nm
  have hN1:=zay w3 (.cells #[.bool pn,.slice po pl pc] 42)
  have YP:=hide (BoxL.new w3 (.bool pn) (.slice po pl pc) 42)
  have NP:=hide (NumG.mk (hv3.below hN1 zL))
  have HB3:=hide (hb3.trans (hN1.mono hb3.size))
  have HBP:=hide hb3.size
  clear hv3 hb3 hN1
  go_upto_region 17 with fail
  generalize w3.alloc (.cells #[.bool pn,.slice po pl pc] 42)=W3 at *
  generalize w3.heap.size=BP at *
  go_cut [13] from 22 (fun v wc=>∃ BL,v=.pointer (some ⟨BL,0,none⟩)∧QI wa wc BP BL zs M 0)
  case first=>
   go_wp2_with fail
   refine(zX W3 1 (by decide) (by decide)).mono ?_
   rintro e w4 ⟨v4,rfl,hv4,hb4⟩
   obtain⟨⟨ln,lo,ll,lc⟩,rfl⟩:=hv4.nm
   have hN1:=zay w4 (.cells #[.bool ln,.slice lo ll lc] 42)
   have HQI:Hid (QI wa (w4.alloc (.cells #[.bool ln,.slice lo ll lc] 42)) BP w4.heap.size zs M 0):=⟨HB3.out.trans ((hb4.trans (hN1.mono hb4.size)).mono HB3.out.size),HBP.out,Nat.le_trans HB3.out.size hb4.size,Nat.ne_of_lt (zT YP.out.2 hb4.size),⟨_,_,_,_,(YP.out.later hb4).later hN1,((NP.out.num.below hb4 zL).below hN1 zL).tight (by have h1:=HPM.out;have h2:=(zcr HPO.out 0 (Nat.zero_le _));have h3:prodL (zs.take 0)=1:=rfl;unfold ab;rw [if_neg (by omega)];omega)⟩,⟨_,_,_,_,BoxL.new w4 _ _ _,(hv4.below hN1 zL).tight (by have:=zM (m:=1) (n:=40) (by decide);have e1:bp 1=4294967296:=rfl;unfold ab;rw [if_neg (by omega)];omega)⟩⟩
   clear hv4 hb4 hN1
   go_wp2
   go_meet
   case rel=>exact⟨_,rfl,HQI.out⟩
  case rest=>
   obtain⟨BL,rfl,hE⟩:=hcut
   apply_assumption
   exact zjY w _ wa B6 B7 BQ BN BP BL n M MN o1 o2 zo k1 k2 zcap hs ts zs _ gn go2 gl gc HWa.out h1 h4 X6a.out L6a.out.lat X7a.out L7a.out.lat XQa.out VQa.out.vec hM hz4 YNa.out NNa.out.num HAB.out HCH.out HSM.out HPM.out HKI.out hE _ _ _ _ _ _ _ _ _ _ _ _ _ _ _ _ _ _ _ _ _ _ _ _ _ _ _ _ _ _ _ _ _ _ _ _ _ _ _ _ _ _ _ _ _ _ _ _ _ _ _ _ _ _ _ _ _ _ _ _ _ _ _ _ _ _ _ _ _ _ _ _ _ _ _ _ _ _ _ _ _ _ _ _ _ _ _ _ _ _ _ _ _ _ _ _ _ _ _ _ _ _ _ _ _ _ _ _ _ _ _ _ _ _ _ _ _ _ _ _ _ _ _ _ _ _ _ _ _ _ _ _ _ _ _ _ _ _ _ _ _ _ _ _ _ _ _ _ _ _ _
 ·have HLL:=hide hll
  clear hll
  obtain⟨a0,a1,a2,a3⟩:=X6.out.1
  obtain⟨b0,b1,b2,b3⟩:=X7.out.1
  go_wp2_with fail
  clear a0 a1 a2 a3 b0 b1 b2 b3
  generalize w1.alloc (.cells #[.slice zo zs.length zcap,.int .i64 fr] 61)=W1 at *
  generalize w1.heap.size=BQ at *
  refine(zeO W1 _ _ n 6 (n * 6+2) hs ts pt (by exact L6.out.lat) (by exact L7.out.lat) HGT.out h1 h4 (roomNI n (by omega)).1 HIN.out roomS7).mono ?_
  rintro e w2 ⟨hb2,hc2⟩
  rcases hc2 with⟨-,rfl⟩ |⟨h,-⟩
  rotate_left
  ·exact absurd h HLL.out
  have X6':=hide (X6.out.later hb2)
  have X7':=hide (X7.out.later hb2)
  have L6':=hide (L6.out.later hb2)
  have L7':=hide (L7.out.later hb2)
  have XQ':=hide (XQ.out.later hb2)
  have VQ':=hide (VQ.out.later hb2)
  clear X6 X7 L6 L7 XQ VQ
  have X6:=X6'
  have X7:=X7'
  have L6:=L6'
  have L7:=L7'
  have XQ:=XQ'
  have VQ:=VQ'
  clear X6' X7' L6' L7' XQ' VQ'
  have HBW':=hide (HBW.out.trans (hb2.mono HBW.out.size))
  clear HBW
  have HBW:=HBW'
  clear HBW'
  clear hb2
  have hN1:=zay w2 (.cells #[.bool false,.slice none 0 0] 42)
  have YN:=hide (BoxL.new w2 (.bool false) (.slice none 0 0) 42)
  have X6':=hide (X6.out.later hN1)
  have X7':=hide (X7.out.later hN1)
  have L6':=hide (L6.out.later hN1)
  have L7':=hide (L7.out.later hN1)
  have XQ':=hide (XQ.out.later hN1)
  have VQ':=hide (VQ.out.later hN1)
  clear X6 X7 L6 L7 XQ VQ
  have X6:=X6'
  have X7:=X7'
  have L6:=L6'
  have L7:=L7'
  have XQ:=XQ'
  have VQ:=VQ'
  clear X6' X7' L6' L7' XQ' VQ'
  have HBW':=hide (HBW.out.trans (hN1.mono HBW.out.size))
  clear HBW
  have HBW:=HBW'
  clear HBW'
  clear hN1
  go_wp2_with fail
  generalize w2.alloc (.cells #[.bool false,.slice none 0 0] 42)=W2 at *
  generalize w2.heap.size=BN at *
  obtain⟨-,a1,-,-⟩:=XQ.out.1;obtain⟨-,a2,-,-⟩:=X7.out.1;obtain⟨-,a3,-,-⟩:=X6.out.1
  have g1:decide (0 < fr)=true:=decide_eq_true (by have:=HLL.out;have:=HFR.out;have:=hsh;omega)
  go_region_held3 (fun w'=>w'.cell? ⟨BQ,1,none⟩=some (.int .i64 fr)∧w'.cell? ⟨B7,1,none⟩=some (.slice o2 ts.length k2)∧w'.cell? ⟨B6,1,none⟩=some (.slice o1 hs.length k1)) (go_keep)
   (first
    |(go_at_call 11;refine(ziF _ 13).mono ?_;rintro e wa ⟨rfl,hwa⟩;have HBa:=hide (show Below W2.heap.size W2 wa from by rw [hwa];exact(Below.refl _ _).drew);clear hwa;have X6a:=hide (X6.out.later HBa.out);have X7a:=hide (X7.out.later HBa.out);have L6a:=hide (L6.out.later HBa.out);have L7a:=hide (L7.out.later HBa.out);have XQa:=hide (XQ.out.later HBa.out);have VQa:=hide (VQ.out.later HBa.out);have YNa:=hide (YN.out.later HBa.out);obtain⟨-,p1,-,-⟩:=XQa.out.1;obtain⟨-,p2,-,-⟩:=X7a.out.1;obtain⟨-,p3,-,-⟩:=X6a.out.1))
  have HWa:=hide (HBW.out.trans (HBa.out.mono HBW.out.size))
  clear a1 a2 a3 HBa HBW X6 X7 L6 L7 XQ VQ YN
  go_wp2
  go_ret
  exact⟨rfl,HWa.out⟩
end Go.Proofs.YtnkcjkpkphjecaaGreatDoor
