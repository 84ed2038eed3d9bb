import Derived.Test.YtdedolkgcdlmeaaGreatDoorLatL
import Derived.Test.YtdedolkgcdlmeaaGreatDoorGroups
import Derived.Test.YtdedolkgcdlmeaaGreatDoorDivG
namespace Go.Proofs.YtdedolkgcdlmeaaGreatDoor
open Go.RowKit Limbs Digs
def MadeGot (w':World)(nI:Int)(rs:List (List Int))(i:Int)(o:Option Addr)(l c:Nat)(ok:Bool):Prop:=
 (ok=false∧goodG nI rs=false)∨(ok=true∧goodG nI rs=true∧i=nI∧∃ hs,LatN w' (.agg #[.int .i64 nI,.slice o l c]) nI.toNat hs 6∧Alikes nI.toNat (InL hs) (InL rs))
theorem zfH (w:World)(nI:Int)(go:Option Addr)(gcap:Nat)(rs:List (List Int))(hv:RowsS w (.slice go rs.length gcap) rs):
  Calls Tryz.prog 22 #[.agg #[.int .i64 nI,.slice go rs.length gcap]] w fun e w'=>Below w.heap.size w w'∧∃ i o l c m ok,e=.returned (.tuple #[.agg #[.int .i64 i,.slice o l c],m,.bool ok])∧MadeGot w' nI rs i o l c ok:=by
 refine(zjI w nI go gcap rs hv).mono fun e w' ⟨hb,hc⟩=>⟨hb,?_⟩
 rcases hc with⟨hg,rfl⟩ |⟨hg,u,m,hs,rfl,hl,ha⟩
 ·exact⟨_,_,_,_,_,_,rfl,.inl ⟨rfl,hg⟩⟩
 ·have hl':=hl
  obtain⟨⟨u',e,⟨o,c,rfl,-,-⟩⟩,-⟩:=hl
  simp only [Value.agg.injEq,Array.mk.injEq,List.cons.injEq,and_true] at e
  obtain⟨-,rfl⟩:=e
  exact⟨_,_,_,_,_,_,rfl,.inr ⟨rfl,hg,rfl,hs,hl',ha⟩⟩
theorem MadeGot.keep {w w':World}{nI:Int}{rs:List (List Int)}{i:Int}{o:Option Addr}{l c:Nat}{ok:Bool}(h:MadeGot w nI rs i o l c ok)(hk:∀ v n hs nv,1≤n→LatN w v n hs nv→LatN w' v n hs nv):MadeGot w' nI rs i o l c ok:=by
 rcases h with h |⟨h1,h2,h3,hs,h4,h5⟩
 ·exact .inl h
 ·have hn:1≤nI.toNat:=by
   have h2':=h2
   unfold goodG at h2'
   rw [Bool.and_eq_true,decide_eq_true_eq] at h2'
   omega
  exact .inr ⟨h1,h2,h3,hs,hk _ _ _ _ hn h4,h5⟩
theorem LatN.store {W:World}{B:Nat}{v:Value}{n:Nat}{hs:List (List Int)}{nv:Nat}{x:Int}(y z:Value)(h1:1≤n)(h:LatN W v n hs nv)(hb:Box W B (.int .i64 x) (.slice none 0 0)):LatN ((W.setCell ⟨B,0,none⟩ y).setCell ⟨B,1,none⟩ z) v n hs nv:=by
 obtain⟨⟨u,e,hu⟩,p,hp⟩:=h
 exact⟨⟨u,e,hu.setBasis _ _ (fun zs hz=>by rw [hp.len zs hz];omega) hb.1 hb.2.1⟩,p,hp⟩
theorem zbn {W:World}{B b o:Nat}{y z:Value}(h:b≠B):((W.setCell ⟨B,0,none⟩ y).setCell ⟨B,1,none⟩ z).cell? ⟨b,o,none⟩=W.cell? ⟨b,o,none⟩:=
 (World.cell?_setCell_other (h:=fun e=>h (by simp only [Addr.mk.injEq] at e;exact e.1.symm)) ..).trans (World.cell?_setCell_other (h:=fun e=>h (by simp only [Addr.mk.injEq] at e;exact e.1.symm)) ..)
theorem zbA {W:World}{B b1 b2 b3 b4:Nat}{v1 v2 v3 v4 v5 v6 y z:Value}(h1:b1≠B)(h2:b2≠B)(h3:b3≠B)(h4:b4≠B)(h:W.cell? ⟨b1,0,none⟩=some v1∧W.cell? ⟨b2,0,none⟩=some v2∧W.cell? ⟨b3,0,none⟩=some v3∧W.cell? ⟨b3,1,none⟩=some v4∧W.cell? ⟨b4,0,none⟩=some v5∧W.cell? ⟨b4,1,none⟩=some v6):
  ((W.setCell ⟨B,0,none⟩ y).setCell ⟨B,1,none⟩ z).cell? ⟨b1,0,none⟩=some v1∧((W.setCell ⟨B,0,none⟩ y).setCell ⟨B,1,none⟩ z).cell? ⟨b2,0,none⟩=some v2∧((W.setCell ⟨B,0,none⟩ y).setCell ⟨B,1,none⟩ z).cell? ⟨b3,0,none⟩=some v3∧((W.setCell ⟨B,0,none⟩ y).setCell ⟨B,1,none⟩ z).cell? ⟨b3,1,none⟩=some v4∧((W.setCell ⟨B,0,none⟩ y).setCell ⟨B,1,none⟩ z).cell? ⟨b4,0,none⟩=some v5∧((W.setCell ⟨B,0,none⟩ y).setCell ⟨B,1,none⟩ z).cell? ⟨b4,1,none⟩=some v6:=
 ⟨(zbn h1).trans h.1,(zbn h2).trans h.2.1,(zbn h3).trans h.2.2.1,(zbn h3).trans h.2.2.2.1,(zbn h4).trans h.2.2.2.2.1,(zbn h4).trans h.2.2.2.2.2⟩
theorem zd7 {w W:World}{B C:Nat}(hne:B≠C)(hB:w.heap.size≤B)(hC:w.heap.size≤C)(hb:Below w.heap.size w W)(h4:Box W B (.int .i64 0) (.slice none 0 0))(h5:Box W C (.int .i64 0) (.slice none 0 0))
  {nA nB:Int} {ra rb:List (List Int)} {i1 i2:Int} {o1 o2:Option Addr} {l1 l2 c1 c2:Nat} {ok too:Bool} (g1:MadeGot W nA ra i1 o1 l1 c1 ok) (g2:MadeGot W nB rb i2 o2 l2 c2 too) (y z y' z':Value):
  Below w.heap.size w ((((W.setCell ⟨B,0,none⟩ y).setCell ⟨B,1,none⟩ z).setCell ⟨C,0,none⟩ y').setCell ⟨C,1,none⟩ z')∧Box ((((W.setCell ⟨B,0,none⟩ y).setCell ⟨B,1,none⟩ z).setCell ⟨C,0,none⟩ y').setCell ⟨C,1,none⟩ z') B y z∧Box ((((W.setCell ⟨B,0,none⟩ y).setCell ⟨B,1,none⟩ z).setCell ⟨C,0,none⟩ y').setCell ⟨C,1,none⟩ z') C y' z' ∧
   MadeGot ((((W.setCell ⟨B,0,none⟩ y).setCell ⟨B,1,none⟩ z).setCell ⟨C,0,none⟩ y').setCell ⟨C,1,none⟩ z') nA ra i1 o1 l1 c1 ok∧MadeGot ((((W.setCell ⟨B,0,none⟩ y).setCell ⟨B,1,none⟩ z).setCell ⟨C,0,none⟩ y').setCell ⟨C,1,none⟩ z') nB rb i2 o2 l2 c2 too:=by
 have h5':Box ((W.setCell ⟨B,0,none⟩ y).setCell ⟨B,1,none⟩ z) C (.int .i64 0) (.slice none 0 0):=(h5.other (fun e=>hne e.symm) _ _).other (fun e=>hne e.symm) _ _
 have k:∀ v n hs nv,1≤n→LatN W v n hs nv→LatN ((((W.setCell ⟨B,0,none⟩ y).setCell ⟨B,1,none⟩ z).setCell ⟨C,0,none⟩ y').setCell ⟨C,1,none⟩ z') v n hs nv:=fun v n hs nv h1 h=>(h.store y z h1 h4).store y' z' h1 h5'
 exact⟨(((hb.setCell hB _).setCell hB _).setCell hC _).setCell hC _,((h4.write y z).other hne _ _).other hne _ _,h5'.write y' z',g1.keep k,g2.keep k⟩
def TwoPost (w:World)(nA nB:Int)(ra rb:List (List Int))(e:Ending)(w':World):Prop:=
 Below w.heap.size w w'∧∃ i1 o1 l1 c1 i2 o2 l2 c2 ok too,e=.returned (.tuple #[.agg #[.int .i64 i1,.slice o1 l1 c1],.agg #[.int .i64 i2,.slice o2 l2 c2],.bool (ok && too && decide (nA=nB))])∧MadeGot w' nA ra i1 o1 l1 c1 ok∧MadeGot w' nB rb i2 o2 l2 c2 too
set_option linter.unusedSimpArgs false in
set_option maxRecDepth 100000 in
set_option maxHeartbeats 6400000 in
theorem zlt (w:World)(nA nB:Int)(ga gb:Option Addr)(ca cb:Nat)(ra rb:List (List Int))(ha:RowsS w (.slice ga ra.length ca) ra)(hb:RowsS w (.slice gb rb.length cb) rb):
  Calls Tryz.prog 46 #[.agg #[.int .i64 nA,.slice ga ra.length ca],.agg #[.int .i64 nB,.slice gb rb.length cb]] w fun e w'=>TwoPost w nA nB ra rb e w':=by
 have HA:=hide ha;have HB:=hide hb
 clear ha hb
 have HX:=hide (zaH w (.int .i64 nA) (.slice ga ra.length ca) (.int .i64 nB) (.slice gb rb.length cb) 53 53)
 have HY:=hide (zaH ((w.alloc (.cells #[.int .i64 nA,.slice ga ra.length ca] 53)).alloc (.cells #[.int .i64 nB,.slice gb rb.length cb] 53)) (.int .i64 0) (.slice none 0 0) (.int .i64 0) (.slice none 0 0) 55 55)
 have HSZ:Hid (((w.alloc (.cells #[.int .i64 nA,.slice ga ra.length ca] 53)).alloc (.cells #[.int .i64 nB,.slice gb rb.length cb] 53)).heap.size=w.heap.size+2):=by show _=_;simp
 have HB0:=hide (HX.out.2.2.1.trans (HY.out.2.2.1.mono (by rw [HSZ.out];omega)))
 have HBA:=hide (HX.out.1.later HY.out.2.2.1 (by rw [HSZ.out];omega))
 have HBB:=hide (HX.out.2.1.later HY.out.2.2.1 (by rw [HSZ.out];omega))
 have HB4:Hid (Box ((((w.alloc (.cells #[.int .i64 nA,.slice ga ra.length ca] 53)).alloc (.cells #[.int .i64 nB,.slice gb rb.length cb] 53)).alloc (.cells #[.int .i64 0,.slice none 0 0] 55)).alloc (.cells #[.int .i64 0,.slice none 0 0] 55)) (w.heap.size+1+1) (.int .i64 0) (.slice none 0 0)):=by have h:=HY.out.1;rw [HSZ.out] at h;exact hide h
 have HB5:Hid (Box ((((w.alloc (.cells #[.int .i64 nA,.slice ga ra.length ca] 53)).alloc (.cells #[.int .i64 nB,.slice gb rb.length cb] 53)).alloc (.cells #[.int .i64 0,.slice none 0 0] 55)).alloc (.cells #[.int .i64 0,.slice none 0 0] 55)) (w.heap.size+1+1+1) (.int .i64 0) (.slice none 0 0)):=by have h:=HY.out.2.1;rw [HSZ.out] at h;exact hide h
 have HLT:Hid (w.heap.size+1+1+1 < ((((w.alloc (.cells #[.int .i64 nA,.slice ga ra.length ca] 53)).alloc (.cells #[.int .i64 nB,.slice gb rb.length cb] 53)).alloc (.cells #[.int .i64 0,.slice none 0 0] 55)).alloc (.cells #[.int .i64 0,.slice none 0 0] 55)).heap.size):=by show _ < _;simp
 obtain⟨c0,c1,z0,z1⟩:=HBA.out
 go_enter Tryz.func46,Tryz.ntmps46
 go_wp2_with fail
 clear c0 c1 z0 z1 HX HY HSZ
 generalize ((((w.alloc (.cells #[.int .i64 nA,.slice ga ra.length ca] 53)).alloc (.cells #[.int .i64 nB,.slice gb rb.length cb] 53)).alloc (.cells #[.int .i64 0,.slice none 0 0] 55)).alloc (.cells #[.int .i64 0,.slice none 0 0] 55))=W0 at *
 refine(zfH W0 nA ga ca ra (HA.out.below HB0.out)).mono ?_
 rintro e w1 ⟨hb1,i1,o1,l1,k1,m1,ok,rfl,hg1⟩
 have HV1:=hide ((zj w1 (.int .i64 i1) (.slice o1 l1 k1) 55 _ rfl))
 have HN1:=hide ((Below.refl w1.heap.size w1).alloc zL (.cells #[.int .i64 i1,.slice o1 l1 k1] 55))
 have HG1:=hide (hg1.keep (fun v n hs nv _ h=>h.below HN1.out))
 have HC1:=hide ((Below.trans hb1 (HN1.out.mono hb1.size)))
 have HL1:Hid (w1.heap.size < (w1.alloc (.cells #[.int .i64 i1,.slice o1 l1 k1] 55)).heap.size):=by show _ < _;simp
 have HBA1:=hide (HBA.out.later HC1.out (by have:=HLT.out;omega))
 have HBB1:=hide (HBB.out.later HC1.out (by have:=HLT.out;omega))
 have HB41:=hide (HB4.out.later HC1.out (by have:=HLT.out;omega))
 have HB51:=hide (HB5.out.later HC1.out HLT.out)
 have HLW:=hide (show w.heap.size+1+1+1 < w1.heap.size from zT HLT.out hb1.size)
 have HB1:=hide (HB0.out.trans (HC1.out.mono HB0.out.size))
 obtain⟨c0,c1,z0,z1⟩:=HBB1.out
 clear hb1 hg1 HBA HBB HB4 HB5 HLT HN1 HC1 HB0
 go_wp2_with fail
 clear c0 c1 z0 z1
 generalize w1.alloc (.cells #[.int .i64 i1,.slice o1 l1 k1] 55)=W1 at *
 generalize w1.heap.size=B7 at *
 refine(zfH W1 nB gb cb rb (HB.out.below HB1.out)).mono ?_
 rintro e w2 ⟨hb2,i2,o2,l2,k2,m2,too,rfl,hg2⟩
 have HV2:=hide ((zj w2 (.int .i64 i2) (.slice o2 l2 k2) 55 _ rfl))
 have HN2:=hide ((Below.refl w2.heap.size w2).alloc zL (.cells #[.int .i64 i2,.slice o2 l2 k2] 55))
 have HC2:=hide ((Below.trans hb2 (HN2.out.mono hb2.size)))
 have HG2:=hide (hg2.keep (fun v n hs nv _ h=>h.below HN2.out))
 have HG12:=hide (HG1.out.keep (fun v n hs nv _ h=>h.below HC2.out))
 have hL:=HLW.out
 have hL1:=HL1.out
 have HL2:=hide (show W1.heap.size≤w2.heap.size from hb2.size)
 obtain⟨a0,-,-,-⟩:=HBA1.out.later HC2.out (by omega)
 obtain⟨b0,-,-,-⟩:=HBB1.out.later HC2.out (by omega)
 have HB42:=hide (HB41.out.later HC2.out (by omega))
 have HB52:=hide (HB51.out.later HC2.out (by omega))
 obtain⟨x0,x1,-,-⟩:=HV1.out.later HC2.out (by omega)
 have HB2:=hide (HB1.out.trans (HC2.out.mono HB1.out.size))
 obtain⟨y0,y1,-,-⟩:=HV2.out
 have hL2:=HL2.out
 clear hb2 hg2 HN2 HC2 HG1 HBA1 HBB1 HB41 HB51 HB1 HV1 HV2 HL1 HLW HL2
 obtain⟨d0,d1,f0,f1⟩:=HB42.out
 obtain⟨g0,g1,h0,h1⟩:=HB52.out
 generalize hB5:w.heap.size+1+1+1=B5 at *
 generalize hB4:w.heap.size+1+1=B4 at *
 generalize hB3:w.heap.size+1=B3 at *
 have q1:w.heap.size < B3:=by omega
 have q2:B3 < B4:=by omega
 have q3:B4 < B5:=by omega
 clear hB3 hB4 hB5
 cases ok with
 | false=>
  go_wp2_with fail
  generalize w2.alloc (.cells #[.int .i64 i2,.slice o2 l2 k2] 55)=W2 at *
  generalize w2.heap.size=B8 at *
  refine wp_region_held_drew (S:=(fun w'=>w'.cell? ⟨w.heap.size,0,none⟩=some (.int .i64 nA)∧w'.cell? ⟨B3,0,none⟩=some (.int .i64 nB)∧w'.cell? ⟨B7,0,none⟩=some (.int .i64 i1)∧w'.cell? ⟨B7,1,none⟩=some (.slice o1 l1 k1)∧w'.cell? ⟨B8,0,none⟩=some (.int .i64 i2)∧w'.cell? ⟨B8,1,none⟩=some (.slice o2 l2 k2))) (by kernel_rfl) (by(try dsimp only);go_keep) (fun hHeld=>?_)
  refine zi 0 25 ?_
  try simp only [zA]
  refine zi 1 26 ?_
  try simp only [zA]
  refine zi 2 27 ?_
  try simp only [zA]
  refine zi 3 28 ?_
  try simp only [zA]
  refine zaa 4 29 rfl rfl (by kernel_rfl) (by kernel_rfl) (by kernel_rfl) (fun _ _ _ h=>h) (by rfl) (by assumption) ?_
  try simp only [zA]
  refine zi 5 30 ?_
  try simp only [zA]
  refine zi 6 31 ?_
  try simp only [zA]
  refine zaa 7 32 rfl rfl (by kernel_rfl) (by kernel_rfl) (by kernel_rfl) (fun _ _ _ h=>h) (by rfl) (by assumption) ?_
  try simp only [zA]
  refine zaa 8 33 rfl rfl (by kernel_rfl) (by kernel_rfl) (by kernel_rfl) (fun _ _ _ h=>h) (by rfl) (by assumption) ?_
  try simp only [zA]
  refine zaa 9 34 rfl rfl (by kernel_rfl) (by kernel_rfl) (by kernel_rfl) (fun _ _ _ h=>h) (by rfl) (by assumption) ?_
  try simp only [zA]
  refine zaa 10 35 rfl rfl (by kernel_rfl) (by kernel_rfl) (by kernel_rfl) (fun _ _ _ h=>h) (by rfl) (by assumption) ?_
  try simp only [zA]
  refine zaa 11 36 rfl rfl (by kernel_rfl) (by kernel_rfl) (by kernel_rfl) (fun _ _ _ h=>h) (by rfl) (by assumption) ?_
  try simp only [zA]
  refine zi 12 37 ?_
  try simp only [zA]
  refine wpAnyH_ready (rs:=[13]) (by kernel_rfl) (by simp) (AllReadyH.cons (o:=_) rfl (fun K hK=>?_) AllReadyH.nil)
  go_simp
  refine hK.out _ _ (by(try dsimp only at hHeld ⊢);exact zbA (by omega) (by omega) (by omega) (by omega) hHeld) (fun hHeld=>?_)
  clear hK K
  try simp only [zA]
  refine wpAnyH_ready (rs:=[14]) (by kernel_rfl) (by simp) (AllReadyH.cons (o:=_) rfl (fun K hK=>?_) AllReadyH.nil)
  go_simp
  refine hK.out _ _ (by(try dsimp only at hHeld ⊢);exact zbA (by omega) (by omega) (by omega) (by omega) hHeld) (fun hHeld=>?_)
  clear hK K
  try simp only [zA]
  refine zi 15 6 ?_
  try simp only [zA]
  refine wpAnyH_done (by kernel_rfl) ?_ _
  clear hHeld a0 b0 x0 x1 y0 y1 d0 d1 f0 f1 g0 g1 h0 h1
  have hfin:=zd7 (B:=B4) (C:=B5) (by omega) (by omega) (by omega) HB2.out HB42.out HB52.out HG12.out HG2.out (.int .i64 i1) (.slice o1 l1 k1) (.int .i64 i2) (.slice o2 l2 k2)
  obtain⟨hf1,⟨r0,r1,-,-⟩,⟨s0,s1,-,-⟩,hf2,hf3⟩:=hfin
  have HP1:=hide hf1.drew;have HP2:=hide (hf2.keep (fun v n hs nv _ h=>h.below (Below.refl _ _).drew));have HP3:=hide (hf3.keep (fun v n hs nv _ h=>h.below (Below.refl _ _).drew))
  clear hf1 hf2 hf3
  go_wp2_with fail
  exact bodyPost_ret (v:=.tuple #[.agg #[.int .i64 i1,.slice o1 l1 k1],.agg #[.int .i64 i2,.slice o2 l2 k2],.bool false]) (by simp [results,Tryz.results46,go_sem,r0,r1,s0,s1] <;> rfl) rfl ⟨HP1.out,_,_,_,_,_,_,_,_,_,_,rfl,HP2.out,HP3.out⟩
 | true=>cases too with
  | false=>
   go_wp2_with fail
   generalize w2.alloc (.cells #[.int .i64 i2,.slice o2 l2 k2] 55)=W2 at *
   generalize w2.heap.size=B8 at *
   refine wp_region_held_drew (S:=(fun w'=>w'.cell? ⟨w.heap.size,0,none⟩=some (.int .i64 nA)∧w'.cell? ⟨B3,0,none⟩=some (.int .i64 nB)∧w'.cell? ⟨B7,0,none⟩=some (.int .i64 i1)∧w'.cell? ⟨B7,1,none⟩=some (.slice o1 l1 k1)∧w'.cell? ⟨B8,0,none⟩=some (.int .i64 i2)∧w'.cell? ⟨B8,1,none⟩=some (.slice o2 l2 k2))) (by kernel_rfl) (by(try dsimp only);go_keep) (fun hHeld=>?_)
   refine zi 0 25 ?_
   try simp only [zA]
   refine zi 1 26 ?_
   try simp only [zA]
   refine zi 2 27 ?_
   try simp only [zA]
   refine zi 3 28 ?_
   try simp only [zA]
   refine zi 4 29 ?_
   try simp only [zA]
   refine zi 5 30 ?_
   try simp only [zA]
   refine zi 6 31 ?_
   try simp only [zA]
   refine zaa 7 32 rfl rfl (by kernel_rfl) (by kernel_rfl) (by kernel_rfl) (fun _ _ _ h=>h) (by rfl) (by assumption) ?_
   try simp only [zA]
   refine zaa 8 33 rfl rfl (by kernel_rfl) (by kernel_rfl) (by kernel_rfl) (fun _ _ _ h=>h) (by rfl) (by assumption) ?_
   try simp only [zA]
   refine zaa 9 34 rfl rfl (by kernel_rfl) (by kernel_rfl) (by kernel_rfl) (fun _ _ _ h=>h) (by rfl) (by assumption) ?_
   try simp only [zA]
   refine zaa 10 35 rfl rfl (by kernel_rfl) (by kernel_rfl) (by kernel_rfl) (fun _ _ _ h=>h) (by rfl) (by assumption) ?_
   try simp only [zA]
   refine zaa 11 36 rfl rfl (by kernel_rfl) (by kernel_rfl) (by kernel_rfl) (fun _ _ _ h=>h) (by rfl) (by assumption) ?_
   try simp only [zA]
   refine zi 12 37 ?_
   try simp only [zA]
   refine wpAnyH_ready (rs:=[13]) (by kernel_rfl) (by simp) (AllReadyH.cons (o:=_) rfl (fun K hK=>?_) AllReadyH.nil)
   go_simp
   refine hK.out _ _ (by(try dsimp only at hHeld ⊢);exact zbA (by omega) (by omega) (by omega) (by omega) hHeld) (fun hHeld=>?_)
   clear hK K
   try simp only [zA]
   refine wpAnyH_ready (rs:=[14]) (by kernel_rfl) (by simp) (AllReadyH.cons (o:=_) rfl (fun K hK=>?_) AllReadyH.nil)
   go_simp
   refine hK.out _ _ (by(try dsimp only at hHeld ⊢);exact zbA (by omega) (by omega) (by omega) (by omega) hHeld) (fun hHeld=>?_)
   clear hK K
   try simp only [zA]
   refine zi 15 6 ?_
   try simp only [zA]
   refine wpAnyH_done (by kernel_rfl) ?_ _
   clear hHeld a0 b0 x0 x1 y0 y1 d0 d1 f0 f1 g0 g1 h0 h1
   have hfin:=zd7 (B:=B4) (C:=B5) (by omega) (by omega) (by omega) HB2.out HB42.out HB52.out HG12.out HG2.out (.int .i64 i1) (.slice o1 l1 k1) (.int .i64 i2) (.slice o2 l2 k2)
   obtain⟨hf1,⟨r0,r1,-,-⟩,⟨s0,s1,-,-⟩,hf2,hf3⟩:=hfin
   have HP1:=hide hf1.drew;have HP2:=hide (hf2.keep (fun v n hs nv _ h=>h.below (Below.refl _ _).drew));have HP3:=hide (hf3.keep (fun v n hs nv _ h=>h.below (Below.refl _ _).drew))
   clear hf1 hf2 hf3
   go_wp2_with fail
   exact bodyPost_ret (v:=.tuple #[.agg #[.int .i64 i1,.slice o1 l1 k1],.agg #[.int .i64 i2,.slice o2 l2 k2],.bool false]) (by simp [results,Tryz.results46,go_sem,r0,r1,s0,s1] <;> rfl) rfl ⟨HP1.out,_,_,_,_,_,_,_,_,_,_,rfl,HP2.out,HP3.out⟩
  | true=>
   go_wp2_with fail
   generalize w2.alloc (.cells #[.int .i64 i2,.slice o2 l2 k2] 55)=W2 at *
   generalize w2.heap.size=B8 at *
   refine wp_region_held_drew (S:=(fun w'=>w'.cell? ⟨w.heap.size,0,none⟩=some (.int .i64 nA)∧w'.cell? ⟨B3,0,none⟩=some (.int .i64 nB)∧w'.cell? ⟨B7,0,none⟩=some (.int .i64 i1)∧w'.cell? ⟨B7,1,none⟩=some (.slice o1 l1 k1)∧w'.cell? ⟨B8,0,none⟩=some (.int .i64 i2)∧w'.cell? ⟨B8,1,none⟩=some (.slice o2 l2 k2))) (by kernel_rfl) (by(try dsimp only);go_keep) (fun hHeld=>?_)
   refine zi 0 25 ?_
   try simp only [zA]
   refine zi 1 26 ?_
   try simp only [zA]
   refine zi 2 27 ?_
   try simp only [zA]
   refine zi 3 28 ?_
   try simp only [zA]
   refine zi 4 29 ?_
   try simp only [zA]
   refine zi 5 30 ?_
   try simp only [zA]
   refine zi 6 31 ?_
   try simp only [zA]
   refine zi 7 32 ?_
   try simp only [zA]
   refine zi 8 33 ?_
   try simp only [zA]
   refine zi 9 34 ?_
   try simp only [zA]
   refine zi 10 35 ?_
   try simp only [zA]
   refine zi 11 36 ?_
   try simp only [zA]
   refine zi 12 37 ?_
   try simp only [zA]
   refine wpAnyH_ready (rs:=[13]) (by kernel_rfl) (by simp) (AllReadyH.cons (o:=_) rfl (fun K hK=>?_) AllReadyH.nil)
   go_simp
   refine hK.out _ _ (by(try dsimp only at hHeld ⊢);exact zbA (by omega) (by omega) (by omega) (by omega) hHeld) (fun hHeld=>?_)
   clear hK K
   try simp only [zA]
   refine wpAnyH_ready (rs:=[14]) (by kernel_rfl) (by simp) (AllReadyH.cons (o:=_) rfl (fun K hK=>?_) AllReadyH.nil)
   go_simp
   refine hK.out _ _ (by(try dsimp only at hHeld ⊢);exact zbA (by omega) (by omega) (by omega) (by omega) hHeld) (fun hHeld=>?_)
   clear hK K
   try simp only [zA]
   refine zi 15 6 ?_
   try simp only [zA]
   refine wpAnyH_done (by kernel_rfl) ?_ _
   clear hHeld a0 b0 x0 x1 y0 y1 d0 d1 f0 f1 g0 g1 h0 h1
   have hfin:=zd7 (B:=B4) (C:=B5) (by omega) (by omega) (by omega) HB2.out HB42.out HB52.out HG12.out HG2.out (.int .i64 i1) (.slice o1 l1 k1) (.int .i64 i2) (.slice o2 l2 k2)
   obtain⟨hf1,⟨r0,r1,-,-⟩,⟨s0,s1,-,-⟩,hf2,hf3⟩:=hfin
   have HP1:=hide hf1.drew;have HP2:=hide (hf2.keep (fun v n hs nv _ h=>h.below (Below.refl _ _).drew));have HP3:=hide (hf3.keep (fun v n hs nv _ h=>h.below (Below.refl _ _).drew))
   clear hf1 hf2 hf3
   go_wp2_with fail
   exact bodyPost_ret (v:=.tuple #[.agg #[.int .i64 i1,.slice o1 l1 k1],.agg #[.int .i64 i2,.slice o2 l2 k2],.bool (decide (nA=nB))]) (by simp [results,Tryz.results46,go_sem,r0,r1,s0,s1] <;> rfl) rfl ⟨HP1.out,_,_,_,_,_,_,_,_,_,_,rfl,HP2.out,HP3.out⟩
end Go.Proofs.YtdedolkgcdlmeaaGreatDoor
namespace Go.Proofs.YtdedolkgcdlmeaaGreatDoor
open Go.RowKit Limbs
def pad:Nat→Nat→List UInt8
 | 0,_=>[]
 | k+1,g=>pad k (g / 10) ++ [UInt8.ofNat (48+g % 10)]
theorem zcI (k g:Nat):(pad k g).length=k:=by
 induction k generalizing g with
 | zero=>rfl
 | succ k ih=>simp [pad,ih]
theorem zeR (k:Nat):∀ q g:Nat,1≤q→g < 10 ^ k→Lib.decDigits (q * 10 ^ k+g)=Lib.decDigits q ++ pad k g:=by
 induction k with
 | zero => intro q g _ hg; have : g = 0 := by simpa using hg
           subst this;simp [pad]
 | succ k ih=>
  intro q g hq hg
  have e1:q * 10 ^ (k+1)=10 *(q * 10 ^ k):=by rw [Nat.pow_succ,← Nat.mul_assoc,Nat.mul_comm]
  have e0:0 < q * 10 ^ k:=Nat.mul_pos (by omega) (Nat.pow_pos (by decide))
  have hg':g / 10 < 10 ^ k:=by rw [Nat.pow_succ] at hg;omega
  rw [Lib.decDigits,dif_neg (by omega)]
  have e2:(q * 10 ^ (k+1)+g) / 10=q * 10 ^ k+g / 10:=by omega
  have e3:(q * 10 ^ (k+1)+g) % 10=g % 10:=by omega
  rw [e2,e3,ih q (g / 10) hq hg',List.append_assoc]
  rfl
theorem zdg (u:Nat):(Lib.decDigits u).length≤u+1∧1≤(Lib.decDigits u).length:=by
 induction u using Nat.strongRecOn with
 | _ u ih=>
  rw [Lib.decDigits]
  by_cases h:u < 10
  ·rw [dif_pos h];simp
  ·rw [dif_neg h]
   have:=ih (u / 10) (by omega)
   simp
   omega
theorem nine (g:Nat)(hg:g < 1000000000):(Lib.decDigits (1000000000+g)).drop 1=pad 9 g:=by
 have:=zeR 9 1 g zL hg
 rw [show 1 * 10 ^ 9+g=1000000000+g by omega] at this
 rw [this,Lib.decDigits_one (by decide)]
 rfl
theorem ziZ (q g:Nat)(hq:1≤q)(hg:g < 1000000000):Lib.decDigits (q * 1000000000+g)=Lib.decDigits q ++ pad 9 g:=zeR 9 q g hq hg
theorem zfo {gs:List Int}(h:∀ g∈gs,0≤g∧g < 1000000000):0≤gv gs:=by
 induction gs with
 | nil=>simp [gv]
 | cons x xs ih=>have:=ih fun g hg=>h g (by simp [hg]);have:=h x (by simp);simp only [gv];omega
theorem zi8 {gs:List Int}(h:∀ g∈gs,0≤g∧g < 1000000000)(hl:gs.length≠0)(hn:gs.getD (gs.length - 1) 0≠0):0 < gv gs:=by
 induction gs with
 | nil=>simp at hl
 | cons x xs ih=>
  have hx:=h x (by simp)
  have hxs:∀ g∈xs,0≤g∧g < 1000000000:=fun g hg=>h g (by simp [hg])
  have h0:=zfo hxs
  simp only [gv]
  by_cases e:xs.length=0
  ·have:xs=[]:=List.eq_nil_of_length_eq_zero e
   subst this
   simp at hn
   simp [gv];omega
  ·have:=ih hxs e (by
    have e2:(x :: xs).length - 1=(xs.length - 1)+1:=by simp;omega
    rw [e2,List.getD_cons_succ] at hn;exact hn)
   omega
theorem zlf {gs:List Int}(h:∀ g∈gs,0≤g∧g < 1000000000)(hn:gs.getD (gs.length - 1) 0≠0){p:Nat}(hp:p+1 < gs.length):
  Lib.decDigits (gv (gs.drop p)).toNat=Lib.decDigits (gv (gs.drop (p+1))).toNat ++ pad 9 (gs.getD p 0).toNat:=by
 have hm:gs.getD p 0∈gs:=by rw [List.getD_eq_getElem?_getD,List.getElem?_eq_getElem (by omega)];exact List.getElem_mem _
 have hg:=h _ hm
 have hd:∀ g∈gs.drop (p+1),0≤g∧g < 1000000000:=fun g hg=>h g (List.mem_of_mem_drop hg)
 have hl:(gs.drop (p+1)).length=gs.length - (p+1):=List.length_drop
 have h1:=zi8 hd (by omega) (by rw [zdt,hl,show p+1+(gs.length - (p+1) - 1)=gs.length - 1 by omega];exact hn)
 have e:gs.drop p=gs.getD p 0 :: gs.drop (p+1):=zB gs p (by omega)
 rw [e]
 simp only [gv]
 rw [← ziZ _ _ (by omega) (by omega)]
 congr 1
 omega
def txt (z:Int):List UInt8:=Lib.itoa z
def TextPost (w:World)(z:Int)(e:Ending)(w':World):Prop:=e=.returned (.string ⟨(txt z).toArray⟩)∧Below w.heap.size w w'
end Go.Proofs.YtdedolkgcdlmeaaGreatDoor
