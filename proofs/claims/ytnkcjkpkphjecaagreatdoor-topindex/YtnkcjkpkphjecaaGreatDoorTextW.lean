import Derived.Test.YtnkcjkpkphjecaaGreatDoorLatL
import Derived.Test.YtnkcjkpkphjecaaGreatDoorShift
import Derived.Test.YtnkcjkpkphjecaaGreatDoorDivL
import Derived.Lib.IndexBytes
namespace Go.Proofs.YtnkcjkpkphjecaaGreatDoor
open Go.RowKit Limbs Digs
def MadeGot (w':World)(nI:Int)(rs:List (List Int))(i:Int)(o:Option Addr)(l c:Nat)(ok:Bool):Prop:=
 (ok=false∧goodG nI rs=false)∨(ok=true∧goodG nI rs=true∧i=nI∧∃ hs,LatN w' (.agg #[.int .i64 nI,.slice o l c]) nI.toNat hs 6∧Alikes nI.toNat (InL hs) (InL rs))
theorem zcy (w:World)(nI:Int)(go:Option Addr)(gcap:Nat)(rs:List (List Int))(hv:RowsS w (.slice go rs.length gcap) rs):
  Calls Tryz.prog 8 #[.agg #[.int .i64 nI,.slice go rs.length gcap]] w fun e w'=>Below w.heap.size w w'∧∃ i o l c m ok,e=.returned (.tuple #[.agg #[.int .i64 i,.slice o l c],m,.bool ok])∧MadeGot w' nI rs i o l c ok:=by
 refine(zjd w nI go gcap rs hv).mono fun e w' ⟨hb,hc⟩=>⟨hb,?_⟩
 rcases hc with⟨hg,rfl⟩ |⟨hg,u,m,hs,rfl,hl,ha⟩
 ·exact⟨_,_,_,_,_,_,rfl,.inl ⟨rfl,hg⟩⟩
 ·have hl':=hl
  obtain⟨⟨u',e,⟨o,c,rfl,-,-⟩⟩,-⟩:=hl
  simp only [Value.agg.injEq,Array.mk.injEq,List.cons.injEq,and_true] at e
  obtain⟨-,rfl⟩:=e
  exact⟨_,_,_,_,_,_,rfl,.inr ⟨rfl,hg,rfl,hs,hl',ha⟩⟩
theorem MadeGot.keep {w w':World}{nI:Int}{rs:List (List Int)}{i:Int}{o:Option Addr}{l c:Nat}{ok:Bool}(h:MadeGot w nI rs i o l c ok)(hk:∀ v n hs nv,1≤n→LatN w v n hs nv→LatN w' v n hs nv):MadeGot w' nI rs i o l c ok:=by
 rcases h with h |⟨h1,h2,h3,hs,h4,h5⟩
 ·exact .inl h
 ·have hn:1≤nI.toNat:=by
   have h2':=h2
   unfold goodG at h2'
   rw [Bool.and_eq_true,decide_eq_true_eq] at h2'
   omega
  exact .inr ⟨h1,h2,h3,hs,hk _ _ _ _ hn h4,h5⟩
theorem LatN.store {W:World}{B:Nat}{v:Value}{n:Nat}{hs:List (List Int)}{nv:Nat}{x:Int}(y z:Value)(h1:1≤n)(h:LatN W v n hs nv)(hb:Box W B (.int .i64 x) (.slice none 0 0)):LatN ((W.setCell ⟨B,0,none⟩ y).setCell ⟨B,1,none⟩ z) v n hs nv:=by
 obtain⟨⟨u,e,hu⟩,p,hp⟩:=h
 exact⟨⟨u,e,hu.setBasis _ _ (fun zs hz=>by rw [hp.len zs hz];omega) hb.1 hb.2.1⟩,p,hp⟩
theorem zbi {W:World}{B b o:Nat}{y z:Value}(h:b≠B):((W.setCell ⟨B,0,none⟩ y).setCell ⟨B,1,none⟩ z).cell? ⟨b,o,none⟩=W.cell? ⟨b,o,none⟩:=
 (World.cell?_setCell_other (h:=fun e=>h (by simp only [Addr.mk.injEq] at e;exact e.1.symm)) ..).trans (World.cell?_setCell_other (h:=fun e=>h (by simp only [Addr.mk.injEq] at e;exact e.1.symm)) ..)
theorem zbr {W:World}{B b1 b2 b3 b4:Nat}{v1 v2 v3 v4 v5 v6 y z:Value}(h1:b1≠B)(h2:b2≠B)(h3:b3≠B)(h4:b4≠B)(h:W.cell? ⟨b1,0,none⟩=some v1∧W.cell? ⟨b2,0,none⟩=some v2∧W.cell? ⟨b3,0,none⟩=some v3∧W.cell? ⟨b3,1,none⟩=some v4∧W.cell? ⟨b4,0,none⟩=some v5∧W.cell? ⟨b4,1,none⟩=some v6):
  ((W.setCell ⟨B,0,none⟩ y).setCell ⟨B,1,none⟩ z).cell? ⟨b1,0,none⟩=some v1∧((W.setCell ⟨B,0,none⟩ y).setCell ⟨B,1,none⟩ z).cell? ⟨b2,0,none⟩=some v2∧((W.setCell ⟨B,0,none⟩ y).setCell ⟨B,1,none⟩ z).cell? ⟨b3,0,none⟩=some v3∧((W.setCell ⟨B,0,none⟩ y).setCell ⟨B,1,none⟩ z).cell? ⟨b3,1,none⟩=some v4∧((W.setCell ⟨B,0,none⟩ y).setCell ⟨B,1,none⟩ z).cell? ⟨b4,0,none⟩=some v5∧((W.setCell ⟨B,0,none⟩ y).setCell ⟨B,1,none⟩ z).cell? ⟨b4,1,none⟩=some v6:=
 ⟨(zbi h1).trans h.1,(zbi h2).trans h.2.1,(zbi h3).trans h.2.2.1,(zbi h3).trans h.2.2.2.1,(zbi h4).trans h.2.2.2.2.1,(zbi h4).trans h.2.2.2.2.2⟩
theorem zd8 {w W:World}{B C:Nat}(hne:B≠C)(hB:w.heap.size≤B)(hC:w.heap.size≤C)(hb:Below w.heap.size w W)(h4:Box W B (.int .i64 0) (.slice none 0 0))(h5:Box W C (.int .i64 0) (.slice none 0 0))
  {nA nB:Int} {ra rb:List (List Int)} {i1 i2:Int} {o1 o2:Option Addr} {l1 l2 c1 c2:Nat} {ok too:Bool} (g1:MadeGot W nA ra i1 o1 l1 c1 ok) (g2:MadeGot W nB rb i2 o2 l2 c2 too) (y z y' z':Value):
  Below w.heap.size w ((((W.setCell ⟨B,0,none⟩ y).setCell ⟨B,1,none⟩ z).setCell ⟨C,0,none⟩ y').setCell ⟨C,1,none⟩ z')∧Box ((((W.setCell ⟨B,0,none⟩ y).setCell ⟨B,1,none⟩ z).setCell ⟨C,0,none⟩ y').setCell ⟨C,1,none⟩ z') B y z∧Box ((((W.setCell ⟨B,0,none⟩ y).setCell ⟨B,1,none⟩ z).setCell ⟨C,0,none⟩ y').setCell ⟨C,1,none⟩ z') C y' z' ∧
   MadeGot ((((W.setCell ⟨B,0,none⟩ y).setCell ⟨B,1,none⟩ z).setCell ⟨C,0,none⟩ y').setCell ⟨C,1,none⟩ z') nA ra i1 o1 l1 c1 ok∧MadeGot ((((W.setCell ⟨B,0,none⟩ y).setCell ⟨B,1,none⟩ z).setCell ⟨C,0,none⟩ y').setCell ⟨C,1,none⟩ z') nB rb i2 o2 l2 c2 too:=by
 have h5':Box ((W.setCell ⟨B,0,none⟩ y).setCell ⟨B,1,none⟩ z) C (.int .i64 0) (.slice none 0 0):=(h5.other (fun e=>hne e.symm) _ _).other (fun e=>hne e.symm) _ _
 have k:∀ v n hs nv,1≤n→LatN W v n hs nv→LatN ((((W.setCell ⟨B,0,none⟩ y).setCell ⟨B,1,none⟩ z).setCell ⟨C,0,none⟩ y').setCell ⟨C,1,none⟩ z') v n hs nv:=fun v n hs nv h1 h=>(h.store y z h1 h4).store y' z' h1 h5'
 exact⟨(((hb.setCell hB _).setCell hB _).setCell hC _).setCell hC _,((h4.write y z).other hne _ _).other hne _ _,h5'.write y' z',g1.keep k,g2.keep k⟩
def TwoPost (w:World)(nA nB:Int)(ra rb:List (List Int))(e:Ending)(w':World):Prop:=
 Below w.heap.size w w'∧∃ i1 o1 l1 c1 i2 o2 l2 c2 ok too,e=.returned (.tuple #[.agg #[.int .i64 i1,.slice o1 l1 c1],.agg #[.int .i64 i2,.slice o2 l2 c2],.bool (ok && too && decide (nA=nB))])∧MadeGot w' nA ra i1 o1 l1 c1 ok∧MadeGot w' nB rb i2 o2 l2 c2 too
set_option linter.unusedSimpArgs false in
set_option maxRecDepth 100000 in
set_option maxHeartbeats 6400000 in
theorem zkY (w:World)(nA nB:Int)(ga gb:Option Addr)(ca cb:Nat)(ra rb:List (List Int))(ha:RowsS w (.slice ga ra.length ca) ra)(hb:RowsS w (.slice gb rb.length cb) rb):
  Calls Tryz.prog 7 #[.agg #[.int .i64 nA,.slice ga ra.length ca],.agg #[.int .i64 nB,.slice gb rb.length cb]] w fun e w'=>TwoPost w nA nB ra rb e w':=by
 have HA:=hide ha;have HB:=hide hb
 clear ha hb
 have HX:=hide (zah w (.int .i64 nA) (.slice ga ra.length ca) (.int .i64 nB) (.slice gb rb.length cb) 24 24)
 have HY:=hide (zah ((w.alloc (.cells #[.int .i64 nA,.slice ga ra.length ca] 24)).alloc (.cells #[.int .i64 nB,.slice gb rb.length cb] 24)) (.int .i64 0) (.slice none 0 0) (.int .i64 0) (.slice none 0 0) 29 29)
 have HSZ:Hid (((w.alloc (.cells #[.int .i64 nA,.slice ga ra.length ca] 24)).alloc (.cells #[.int .i64 nB,.slice gb rb.length cb] 24)).heap.size=w.heap.size+2):=by show _=_;simp
 have HB0:=hide (HX.out.2.2.1.trans (HY.out.2.2.1.mono (by rw [HSZ.out];omega)))
 have HBA:=hide (HX.out.1.later HY.out.2.2.1 (by rw [HSZ.out];omega))
 have HBB:=hide (HX.out.2.1.later HY.out.2.2.1 (by rw [HSZ.out];omega))
 have HB4:Hid (Box ((((w.alloc (.cells #[.int .i64 nA,.slice ga ra.length ca] 24)).alloc (.cells #[.int .i64 nB,.slice gb rb.length cb] 24)).alloc (.cells #[.int .i64 0,.slice none 0 0] 29)).alloc (.cells #[.int .i64 0,.slice none 0 0] 29)) (w.heap.size+1+1) (.int .i64 0) (.slice none 0 0)):=by have h:=HY.out.1;rw [HSZ.out] at h;exact hide h
 have HB5:Hid (Box ((((w.alloc (.cells #[.int .i64 nA,.slice ga ra.length ca] 24)).alloc (.cells #[.int .i64 nB,.slice gb rb.length cb] 24)).alloc (.cells #[.int .i64 0,.slice none 0 0] 29)).alloc (.cells #[.int .i64 0,.slice none 0 0] 29)) (w.heap.size+1+1+1) (.int .i64 0) (.slice none 0 0)):=by have h:=HY.out.2.1;rw [HSZ.out] at h;exact hide h
 have HLT:Hid (w.heap.size+1+1+1 < ((((w.alloc (.cells #[.int .i64 nA,.slice ga ra.length ca] 24)).alloc (.cells #[.int .i64 nB,.slice gb rb.length cb] 24)).alloc (.cells #[.int .i64 0,.slice none 0 0] 29)).alloc (.cells #[.int .i64 0,.slice none 0 0] 29)).heap.size):=by show _ < _;simp
 obtain⟨c0,c1,z0,z1⟩:=HBA.out
 go_enter Tryz.func7,Tryz.ntmps7
 go_wp2_with fail
 clear c0 c1 z0 z1 HX HY HSZ
 generalize ((((w.alloc (.cells #[.int .i64 nA,.slice ga ra.length ca] 24)).alloc (.cells #[.int .i64 nB,.slice gb rb.length cb] 24)).alloc (.cells #[.int .i64 0,.slice none 0 0] 29)).alloc (.cells #[.int .i64 0,.slice none 0 0] 29))=W0 at *
 refine(zcy W0 nA ga ca ra (HA.out.below HB0.out)).mono ?_
 rintro e w1 ⟨hb1,i1,o1,l1,k1,m1,ok,rfl,hg1⟩
 have HV1:=hide ((zg w1 (.int .i64 i1) (.slice o1 l1 k1) 29 _ rfl))
 have HN1:=hide ((Below.refl w1.heap.size w1).alloc zL (.cells #[.int .i64 i1,.slice o1 l1 k1] 29))
 have HG1:=hide (hg1.keep (fun v n hs nv _ h=>h.below HN1.out))
 have HC1:=hide ((Below.trans hb1 (HN1.out.mono hb1.size)))
 have HL1:Hid (w1.heap.size < (w1.alloc (.cells #[.int .i64 i1,.slice o1 l1 k1] 29)).heap.size):=by show _ < _;simp
 have HBA1:=hide (HBA.out.later HC1.out (by have:=HLT.out;omega))
 have HBB1:=hide (HBB.out.later HC1.out (by have:=HLT.out;omega))
 have HB41:=hide (HB4.out.later HC1.out (by have:=HLT.out;omega))
 have HB51:=hide (HB5.out.later HC1.out HLT.out)
 have HLW:=hide (show w.heap.size+1+1+1 < w1.heap.size from zT HLT.out hb1.size)
 have HB1:=hide (HB0.out.trans (HC1.out.mono HB0.out.size))
 obtain⟨c0,c1,z0,z1⟩:=HBB1.out
 clear hb1 hg1 HBA HBB HB4 HB5 HLT HN1 HC1 HB0
 go_wp2_with fail
 clear c0 c1 z0 z1
 generalize w1.alloc (.cells #[.int .i64 i1,.slice o1 l1 k1] 29)=W1 at *
 generalize w1.heap.size=B7 at *
 refine(zcy W1 nB gb cb rb (HB.out.below HB1.out)).mono ?_
 rintro e w2 ⟨hb2,i2,o2,l2,k2,m2,too,rfl,hg2⟩
 have HV2:=hide ((zg w2 (.int .i64 i2) (.slice o2 l2 k2) 29 _ rfl))
 have HN2:=hide ((Below.refl w2.heap.size w2).alloc zL (.cells #[.int .i64 i2,.slice o2 l2 k2] 29))
 have HC2:=hide ((Below.trans hb2 (HN2.out.mono hb2.size)))
 have HG2:=hide (hg2.keep (fun v n hs nv _ h=>h.below HN2.out))
 have HG12:=hide (HG1.out.keep (fun v n hs nv _ h=>h.below HC2.out))
 have hL:=HLW.out
 have hL1:=HL1.out
 have HL2:=hide (show W1.heap.size≤w2.heap.size from hb2.size)
 obtain⟨a0,-,-,-⟩:=HBA1.out.later HC2.out (by omega)
 obtain⟨b0,-,-,-⟩:=HBB1.out.later HC2.out (by omega)
 have HB42:=hide (HB41.out.later HC2.out (by omega))
 have HB52:=hide (HB51.out.later HC2.out (by omega))
 obtain⟨x0,x1,-,-⟩:=HV1.out.later HC2.out (by omega)
 have HB2:=hide (HB1.out.trans (HC2.out.mono HB1.out.size))
 obtain⟨y0,y1,-,-⟩:=HV2.out
 have hL2:=HL2.out
 clear hb2 hg2 HN2 HC2 HG1 HBA1 HBB1 HB41 HB51 HB1 HV1 HV2 HL1 HLW HL2
 obtain⟨d0,d1,f0,f1⟩:=HB42.out
 obtain⟨g0,g1,h0,h1⟩:=HB52.out
 generalize hB5:w.heap.size+1+1+1=B5 at *
 generalize hB4:w.heap.size+1+1=B4 at *
 generalize hB3:w.heap.size+1=B3 at *
 have q1:w.heap.size < B3:=by omega
 have q2:B3 < B4:=by omega
 have q3:B4 < B5:=by omega
 clear hB3 hB4 hB5
 cases ok with
 | false=>
  go_wp2_with fail
  generalize w2.alloc (.cells #[.int .i64 i2,.slice o2 l2 k2] 29)=W2 at *
  generalize w2.heap.size=B8 at *
  refine wp_region_held_drew (S:=(fun w'=>w'.cell? ⟨w.heap.size,0,none⟩=some (.int .i64 nA)∧w'.cell? ⟨B3,0,none⟩=some (.int .i64 nB)∧w'.cell? ⟨B7,0,none⟩=some (.int .i64 i1)∧w'.cell? ⟨B7,1,none⟩=some (.slice o1 l1 k1)∧w'.cell? ⟨B8,0,none⟩=some (.int .i64 i2)∧w'.cell? ⟨B8,1,none⟩=some (.slice o2 l2 k2))) (by kernel_rfl) (by(try dsimp only);go_keep) (fun hHeld=>?_)
  refine zi (v:=?_) 0 25 rfl rfl (by kernel_rfl) (by kernel_rfl) (by kernel_rfl) (fun _ _ _ h=>h) (by rfl) ?_ (by assumption) ?_
  rotate_left
  ·(intro w hSw;(try dsimp only at hSw);go_simp;with_reducible rfl)
  try simp only [zA]
  refine zi (v:=?_) 1 26 rfl rfl (by kernel_rfl) (by kernel_rfl) (by kernel_rfl) (fun _ _ _ h=>h) (by rfl) ?_ (by assumption) ?_
  rotate_left
  ·(intro w hSw;(try dsimp only at hSw);go_simp;with_reducible rfl)
  try simp only [zA]
  refine zi (v:=?_) 2 27 rfl rfl (by kernel_rfl) (by kernel_rfl) (by kernel_rfl) (fun _ _ _ h=>h) (by rfl) ?_ (by assumption) ?_
  rotate_left
  ·(intro w hSw;(try dsimp only at hSw);go_simp;with_reducible rfl)
  try simp only [zA]
  refine zi (v:=?_) 3 28 rfl rfl (by kernel_rfl) (by kernel_rfl) (by kernel_rfl) (fun _ _ _ h=>h) (by rfl) ?_ (by assumption) ?_
  rotate_left
  ·(intro w hSw;(try dsimp only at hSw);go_simp;with_reducible rfl)
  try simp only [zA]
  refine zX 4 29 rfl rfl (by kernel_rfl) (by kernel_rfl) (by kernel_rfl) (fun _ _ _ h=>h) (by rfl) (by assumption) ?_
  try simp only [zA]
  refine zi (v:=?_) 5 30 rfl rfl (by kernel_rfl) (by kernel_rfl) (by kernel_rfl) (fun _ _ _ h=>h) (by rfl) ?_ (by assumption) ?_
  rotate_left
  ·(intro w hSw;(try dsimp only at hSw);go_simp;with_reducible rfl)
  try simp only [zA]
  refine zi (v:=?_) 6 31 rfl rfl (by kernel_rfl) (by kernel_rfl) (by kernel_rfl) (fun _ _ _ h=>h) (by rfl) ?_ (by assumption) ?_
  rotate_left
  ·(intro w hSw;(try dsimp only at hSw);go_simp;with_reducible rfl)
  try simp only [zA]
  refine zX 7 32 rfl rfl (by kernel_rfl) (by kernel_rfl) (by kernel_rfl) (fun _ _ _ h=>h) (by rfl) (by assumption) ?_
  try simp only [zA]
  refine zX 8 33 rfl rfl (by kernel_rfl) (by kernel_rfl) (by kernel_rfl) (fun _ _ _ h=>h) (by rfl) (by assumption) ?_
  try simp only [zA]
  refine zX 9 34 rfl rfl (by kernel_rfl) (by kernel_rfl) (by kernel_rfl) (fun _ _ _ h=>h) (by rfl) (by assumption) ?_
  try simp only [zA]
  refine zX 10 35 rfl rfl (by kernel_rfl) (by kernel_rfl) (by kernel_rfl) (fun _ _ _ h=>h) (by rfl) (by assumption) ?_
  try simp only [zA]
  refine zX 11 36 rfl rfl (by kernel_rfl) (by kernel_rfl) (by kernel_rfl) (fun _ _ _ h=>h) (by rfl) (by assumption) ?_
  try simp only [zA]
  refine zi (v:=?_) 12 37 rfl rfl (by kernel_rfl) (by kernel_rfl) (by kernel_rfl) (fun _ _ _ h=>h) (by rfl) ?_ (by assumption) ?_
  rotate_left
  ·(intro w hSw;(try dsimp only at hSw);go_simp;with_reducible rfl)
  try simp only [zA]
  refine wpAnyH_ready (rs:=[13]) (by kernel_rfl) (by simp) (AllReadyH.cons (o:=_) rfl (fun K hK=>?_) AllReadyH.nil)
  go_simp
  refine hK.out _ _ (by(try dsimp only at hHeld ⊢);exact zbr (by omega) (by omega) (by omega) (by omega) hHeld) (fun hHeld=>?_)
  clear hK K
  try simp only [zA]
  refine wpAnyH_ready (rs:=[14]) (by kernel_rfl) (by simp) (AllReadyH.cons (o:=_) rfl (fun K hK=>?_) AllReadyH.nil)
  go_simp
  refine hK.out _ _ (by(try dsimp only at hHeld ⊢);exact zbr (by omega) (by omega) (by omega) (by omega) hHeld) (fun hHeld=>?_)
  clear hK K
  try simp only [zA]
  refine zi (v:=?_) 15 6 rfl rfl (by kernel_rfl) (by kernel_rfl) (by kernel_rfl) (fun _ _ _ h=>h) (by rfl) ?_ (by assumption) ?_
  rotate_left
  ·(intro w hSw;(try dsimp only at hSw);go_simp;with_reducible rfl)
  try simp only [zA]
  refine wpAnyH_done (by kernel_rfl) ?_ _
  clear hHeld a0 b0 x0 x1 y0 y1 d0 d1 f0 f1 g0 g1 h0 h1
  have hfin:=zd8 (B:=B4) (C:=B5) (by omega) (by omega) (by omega) HB2.out HB42.out HB52.out HG12.out HG2.out (.int .i64 i1) (.slice o1 l1 k1) (.int .i64 i2) (.slice o2 l2 k2)
  obtain⟨hf1,⟨r0,r1,-,-⟩,⟨s0,s1,-,-⟩,hf2,hf3⟩:=hfin
  have HP1:=hide hf1.drew;have HP2:=hide (hf2.keep (fun v n hs nv _ h=>h.below (Below.refl _ _).drew));have HP3:=hide (hf3.keep (fun v n hs nv _ h=>h.below (Below.refl _ _).drew))
  clear hf1 hf2 hf3
  go_wp2_with fail
  exact bodyPost_ret (v:=.tuple #[.agg #[.int .i64 i1,.slice o1 l1 k1],.agg #[.int .i64 i2,.slice o2 l2 k2],.bool false]) (by simp [results,Tryz.results7,go_sem,r0,r1,s0,s1] <;> rfl) rfl ⟨HP1.out,_,_,_,_,_,_,_,_,_,_,rfl,HP2.out,HP3.out⟩
 | true=>cases too with
  | false=>
   go_wp2_with fail
   generalize w2.alloc (.cells #[.int .i64 i2,.slice o2 l2 k2] 29)=W2 at *
   generalize w2.heap.size=B8 at *
   refine wp_region_held_drew (S:=(fun w'=>w'.cell? ⟨w.heap.size,0,none⟩=some (.int .i64 nA)∧w'.cell? ⟨B3,0,none⟩=some (.int .i64 nB)∧w'.cell? ⟨B7,0,none⟩=some (.int .i64 i1)∧w'.cell? ⟨B7,1,none⟩=some (.slice o1 l1 k1)∧w'.cell? ⟨B8,0,none⟩=some (.int .i64 i2)∧w'.cell? ⟨B8,1,none⟩=some (.slice o2 l2 k2))) (by kernel_rfl) (by(try dsimp only);go_keep) (fun hHeld=>?_)
   refine zi (v:=?_) 0 25 rfl rfl (by kernel_rfl) (by kernel_rfl) (by kernel_rfl) (fun _ _ _ h=>h) (by rfl) ?_ (by assumption) ?_
   rotate_left
   ·(intro w hSw;(try dsimp only at hSw);go_simp;with_reducible rfl)
   try simp only [zA]
   refine zi (v:=?_) 1 26 rfl rfl (by kernel_rfl) (by kernel_rfl) (by kernel_rfl) (fun _ _ _ h=>h) (by rfl) ?_ (by assumption) ?_
   rotate_left
   ·(intro w hSw;(try dsimp only at hSw);go_simp;with_reducible rfl)
   try simp only [zA]
   refine zi (v:=?_) 2 27 rfl rfl (by kernel_rfl) (by kernel_rfl) (by kernel_rfl) (fun _ _ _ h=>h) (by rfl) ?_ (by assumption) ?_
   rotate_left
   ·(intro w hSw;(try dsimp only at hSw);go_simp;with_reducible rfl)
   try simp only [zA]
   refine zi (v:=?_) 3 28 rfl rfl (by kernel_rfl) (by kernel_rfl) (by kernel_rfl) (fun _ _ _ h=>h) (by rfl) ?_ (by assumption) ?_
   rotate_left
   ·(intro w hSw;(try dsimp only at hSw);go_simp;with_reducible rfl)
   try simp only [zA]
   refine zi (v:=?_) 4 29 rfl rfl (by kernel_rfl) (by kernel_rfl) (by kernel_rfl) (fun _ _ _ h=>h) (by rfl) ?_ (by assumption) ?_
   rotate_left
   ·(intro w hSw;(try dsimp only at hSw);go_simp;with_reducible rfl)
   try simp only [zA]
   refine zi (v:=?_) 5 30 rfl rfl (by kernel_rfl) (by kernel_rfl) (by kernel_rfl) (fun _ _ _ h=>h) (by rfl) ?_ (by assumption) ?_
   rotate_left
   ·(intro w hSw;(try dsimp only at hSw);go_simp;with_reducible rfl)
   try simp only [zA]
   refine zi (v:=?_) 6 31 rfl rfl (by kernel_rfl) (by kernel_rfl) (by kernel_rfl) (fun _ _ _ h=>h) (by rfl) ?_ (by assumption) ?_
   rotate_left
   ·(intro w hSw;(try dsimp only at hSw);go_simp;with_reducible rfl)
   try simp only [zA]
   refine zX 7 32 rfl rfl (by kernel_rfl) (by kernel_rfl) (by kernel_rfl) (fun _ _ _ h=>h) (by rfl) (by assumption) ?_
   try simp only [zA]
   refine zX 8 33 rfl rfl (by kernel_rfl) (by kernel_rfl) (by kernel_rfl) (fun _ _ _ h=>h) (by rfl) (by assumption) ?_
   try simp only [zA]
   refine zX 9 34 rfl rfl (by kernel_rfl) (by kernel_rfl) (by kernel_rfl) (fun _ _ _ h=>h) (by rfl) (by assumption) ?_
   try simp only [zA]
   refine zX 10 35 rfl rfl (by kernel_rfl) (by kernel_rfl) (by kernel_rfl) (fun _ _ _ h=>h) (by rfl) (by assumption) ?_
   try simp only [zA]
   refine zX 11 36 rfl rfl (by kernel_rfl) (by kernel_rfl) (by kernel_rfl) (fun _ _ _ h=>h) (by rfl) (by assumption) ?_
   try simp only [zA]
   refine zi (v:=?_) 12 37 rfl rfl (by kernel_rfl) (by kernel_rfl) (by kernel_rfl) (fun _ _ _ h=>h) (by rfl) ?_ (by assumption) ?_
   rotate_left
   ·(intro w hSw;(try dsimp only at hSw);go_simp;with_reducible rfl)
   try simp only [zA]
   refine wpAnyH_ready (rs:=[13]) (by kernel_rfl) (by simp) (AllReadyH.cons (o:=_) rfl (fun K hK=>?_) AllReadyH.nil)
   go_simp
   refine hK.out _ _ (by(try dsimp only at hHeld ⊢);exact zbr (by omega) (by omega) (by omega) (by omega) hHeld) (fun hHeld=>?_)
   clear hK K
   try simp only [zA]
   refine wpAnyH_ready (rs:=[14]) (by kernel_rfl) (by simp) (AllReadyH.cons (o:=_) rfl (fun K hK=>?_) AllReadyH.nil)
   go_simp
   refine hK.out _ _ (by(try dsimp only at hHeld ⊢);exact zbr (by omega) (by omega) (by omega) (by omega) hHeld) (fun hHeld=>?_)
   clear hK K
   try simp only [zA]
   refine zi (v:=?_) 15 6 rfl rfl (by kernel_rfl) (by kernel_rfl) (by kernel_rfl) (fun _ _ _ h=>h) (by rfl) ?_ (by assumption) ?_
   rotate_left
   ·(intro w hSw;(try dsimp only at hSw);go_simp;with_reducible rfl)
   try simp only [zA]
   refine wpAnyH_done (by kernel_rfl) ?_ _
   clear hHeld a0 b0 x0 x1 y0 y1 d0 d1 f0 f1 g0 g1 h0 h1
   have hfin:=zd8 (B:=B4) (C:=B5) (by omega) (by omega) (by omega) HB2.out HB42.out HB52.out HG12.out HG2.out (.int .i64 i1) (.slice o1 l1 k1) (.int .i64 i2) (.slice o2 l2 k2)
   obtain⟨hf1,⟨r0,r1,-,-⟩,⟨s0,s1,-,-⟩,hf2,hf3⟩:=hfin
   have HP1:=hide hf1.drew;have HP2:=hide (hf2.keep (fun v n hs nv _ h=>h.below (Below.refl _ _).drew));have HP3:=hide (hf3.keep (fun v n hs nv _ h=>h.below (Below.refl _ _).drew))
   clear hf1 hf2 hf3
   go_wp2_with fail
   exact bodyPost_ret (v:=.tuple #[.agg #[.int .i64 i1,.slice o1 l1 k1],.agg #[.int .i64 i2,.slice o2 l2 k2],.bool false]) (by simp [results,Tryz.results7,go_sem,r0,r1,s0,s1] <;> rfl) rfl ⟨HP1.out,_,_,_,_,_,_,_,_,_,_,rfl,HP2.out,HP3.out⟩
  | true=>
   go_wp2_with fail
   generalize w2.alloc (.cells #[.int .i64 i2,.slice o2 l2 k2] 29)=W2 at *
   generalize w2.heap.size=B8 at *
   refine wp_region_held_drew (S:=(fun w'=>w'.cell? ⟨w.heap.size,0,none⟩=some (.int .i64 nA)∧w'.cell? ⟨B3,0,none⟩=some (.int .i64 nB)∧w'.cell? ⟨B7,0,none⟩=some (.int .i64 i1)∧w'.cell? ⟨B7,1,none⟩=some (.slice o1 l1 k1)∧w'.cell? ⟨B8,0,none⟩=some (.int .i64 i2)∧w'.cell? ⟨B8,1,none⟩=some (.slice o2 l2 k2))) (by kernel_rfl) (by(try dsimp only);go_keep) (fun hHeld=>?_)
   refine zi (v:=?_) 0 25 rfl rfl (by kernel_rfl) (by kernel_rfl) (by kernel_rfl) (fun _ _ _ h=>h) (by rfl) ?_ (by assumption) ?_
   rotate_left
   ·(intro w hSw;(try dsimp only at hSw);go_simp;with_reducible rfl)
   try simp only [zA]
   refine zi (v:=?_) 1 26 rfl rfl (by kernel_rfl) (by kernel_rfl) (by kernel_rfl) (fun _ _ _ h=>h) (by rfl) ?_ (by assumption) ?_
   rotate_left
   ·(intro w hSw;(try dsimp only at hSw);go_simp;with_reducible rfl)
   try simp only [zA]
   refine zi (v:=?_) 2 27 rfl rfl (by kernel_rfl) (by kernel_rfl) (by kernel_rfl) (fun _ _ _ h=>h) (by rfl) ?_ (by assumption) ?_
   rotate_left
   ·(intro w hSw;(try dsimp only at hSw);go_simp;with_reducible rfl)
   try simp only [zA]
   refine zi (v:=?_) 3 28 rfl rfl (by kernel_rfl) (by kernel_rfl) (by kernel_rfl) (fun _ _ _ h=>h) (by rfl) ?_ (by assumption) ?_
   rotate_left
   ·(intro w hSw;(try dsimp only at hSw);go_simp;with_reducible rfl)
   try simp only [zA]
   refine zi (v:=?_) 4 29 rfl rfl (by kernel_rfl) (by kernel_rfl) (by kernel_rfl) (fun _ _ _ h=>h) (by rfl) ?_ (by assumption) ?_
   rotate_left
   ·(intro w hSw;(try dsimp only at hSw);go_simp;with_reducible rfl)
   try simp only [zA]
   refine zi (v:=?_) 5 30 rfl rfl (by kernel_rfl) (by kernel_rfl) (by kernel_rfl) (fun _ _ _ h=>h) (by rfl) ?_ (by assumption) ?_
   rotate_left
   ·(intro w hSw;(try dsimp only at hSw);go_simp;with_reducible rfl)
   try simp only [zA]
   refine zi (v:=?_) 6 31 rfl rfl (by kernel_rfl) (by kernel_rfl) (by kernel_rfl) (fun _ _ _ h=>h) (by rfl) ?_ (by assumption) ?_
   rotate_left
   ·(intro w hSw;(try dsimp only at hSw);go_simp;with_reducible rfl)
   try simp only [zA]
   refine zi (v:=?_) 7 32 rfl rfl (by kernel_rfl) (by kernel_rfl) (by kernel_rfl) (fun _ _ _ h=>h) (by rfl) ?_ (by assumption) ?_
   rotate_left
   ·(intro w hSw;(try dsimp only at hSw);go_simp;with_reducible rfl)
   try simp only [zA]
   refine zi (v:=?_) 8 33 rfl rfl (by kernel_rfl) (by kernel_rfl) (by kernel_rfl) (fun _ _ _ h=>h) (by rfl) ?_ (by assumption) ?_
   rotate_left
   ·(intro w hSw;(try dsimp only at hSw);go_simp;with_reducible rfl)
   try simp only [zA]
   refine zi (v:=?_) 9 34 rfl rfl (by kernel_rfl) (by kernel_rfl) (by kernel_rfl) (fun _ _ _ h=>h) (by rfl) ?_ (by assumption) ?_
   rotate_left
   ·(intro w hSw;(try dsimp only at hSw);go_simp;with_reducible rfl)
   try simp only [zA]
   refine zi (v:=?_) 10 35 rfl rfl (by kernel_rfl) (by kernel_rfl) (by kernel_rfl) (fun _ _ _ h=>h) (by rfl) ?_ (by assumption) ?_
   rotate_left
   ·(intro w hSw;(try dsimp only at hSw);go_simp;with_reducible rfl)
   try simp only [zA]
   refine zi (v:=?_) 11 36 rfl rfl (by kernel_rfl) (by kernel_rfl) (by kernel_rfl) (fun _ _ _ h=>h) (by rfl) ?_ (by assumption) ?_
   rotate_left
   ·(intro w hSw;(try dsimp only at hSw);go_simp;with_reducible rfl)
   try simp only [zA]
   refine zi (v:=?_) 12 37 rfl rfl (by kernel_rfl) (by kernel_rfl) (by kernel_rfl) (fun _ _ _ h=>h) (by rfl) ?_ (by assumption) ?_
   rotate_left
   ·(intro w hSw;(try dsimp only at hSw);go_simp;with_reducible rfl)
   try simp only [zA]
   refine wpAnyH_ready (rs:=[13]) (by kernel_rfl) (by simp) (AllReadyH.cons (o:=_) rfl (fun K hK=>?_) AllReadyH.nil)
   go_simp
   refine hK.out _ _ (by(try dsimp only at hHeld ⊢);exact zbr (by omega) (by omega) (by omega) (by omega) hHeld) (fun hHeld=>?_)
   clear hK K
   try simp only [zA]
   refine wpAnyH_ready (rs:=[14]) (by kernel_rfl) (by simp) (AllReadyH.cons (o:=_) rfl (fun K hK=>?_) AllReadyH.nil)
   go_simp
   refine hK.out _ _ (by(try dsimp only at hHeld ⊢);exact zbr (by omega) (by omega) (by omega) (by omega) hHeld) (fun hHeld=>?_)
   clear hK K
   try simp only [zA]
   refine zi (v:=?_) 15 6 rfl rfl (by kernel_rfl) (by kernel_rfl) (by kernel_rfl) (fun _ _ _ h=>h) (by rfl) ?_ (by assumption) ?_
   rotate_left
   ·(intro w hSw;(try dsimp only at hSw);go_simp;with_reducible rfl)
   try simp only [zA]
   refine wpAnyH_done (by kernel_rfl) ?_ _
   clear hHeld a0 b0 x0 x1 y0 y1 d0 d1 f0 f1 g0 g1 h0 h1
   have hfin:=zd8 (B:=B4) (C:=B5) (by omega) (by omega) (by omega) HB2.out HB42.out HB52.out HG12.out HG2.out (.int .i64 i1) (.slice o1 l1 k1) (.int .i64 i2) (.slice o2 l2 k2)
   obtain⟨hf1,⟨r0,r1,-,-⟩,⟨s0,s1,-,-⟩,hf2,hf3⟩:=hfin
   have HP1:=hide hf1.drew;have HP2:=hide (hf2.keep (fun v n hs nv _ h=>h.below (Below.refl _ _).drew));have HP3:=hide (hf3.keep (fun v n hs nv _ h=>h.below (Below.refl _ _).drew))
   clear hf1 hf2 hf3
   go_wp2_with fail
   exact bodyPost_ret (v:=.tuple #[.agg #[.int .i64 i1,.slice o1 l1 k1],.agg #[.int .i64 i2,.slice o2 l2 k2],.bool (decide (nA=nB))]) (by simp [results,Tryz.results7,go_sem,r0,r1,s0,s1] <;> rfl) rfl ⟨HP1.out,_,_,_,_,_,_,_,_,_,_,rfl,HP2.out,HP3.out⟩
end Go.Proofs.YtnkcjkpkphjecaaGreatDoor
/- A number's text. -/
namespace Go.Proofs.YtnkcjkpkphjecaaGreatDoor
open Go.RowKit Limbs
def pad:Nat→Nat→List UInt8
 | 0,_=>[]
 | k+1,g=>pad k (g / 10) ++ [UInt8.ofNat (48+g % 10)]
theorem zcJ (k g:Nat):(pad k g).length=k:=by
 induction k generalizing g with
 | zero=>rfl
 | succ k ih=>simp [pad,ih]
theorem zeI (k:Nat):∀ q g:Nat,1≤q→g < 10 ^ k→Lib.decDigits (q * 10 ^ k+g)=Lib.decDigits q ++ pad k g:=by
 induction k with
 | zero => intro q g _ hg; have : g = 0 := by simpa using hg
           subst this;simp [pad]
 | succ k ih=>
  intro q g hq hg
  have e1:q * 10 ^ (k+1)=10 *(q * 10 ^ k):=by rw [Nat.pow_succ,← Nat.mul_assoc,Nat.mul_comm]
  have e0:0 < q * 10 ^ k:=Nat.mul_pos (by omega) (Nat.pow_pos (by decide))
  have hg':g / 10 < 10 ^ k:=by rw [Nat.pow_succ] at hg;omega
  rw [Lib.decDigits,dif_neg (by omega)]
  have e2:(q * 10 ^ (k+1)+g) / 10=q * 10 ^ k+g / 10:=by omega
  have e3:(q * 10 ^ (k+1)+g) % 10=g % 10:=by omega
  rw [e2,e3,ih q (g / 10) hq hg',List.append_assoc]
  rfl
theorem zdg (u:Nat):(Lib.decDigits u).length≤u+1∧1≤(Lib.decDigits u).length:=by
 induction u using Nat.strongRecOn with
 | _ u ih=>
  rw [Lib.decDigits]
  by_cases h:u < 10
  ·rw [dif_pos h];simp
  ·rw [dif_neg h]
   have:=ih (u / 10) (by omega)
   simp
   omega
theorem nine (g:Nat)(hg:g < 1000000000):(Lib.decDigits (1000000000+g)).drop 1=pad 9 g:=by
 have:=zeI 9 1 g zL hg
 rw [show 1 * 10 ^ 9+g=1000000000+g by omega] at this
 rw [this,Lib.decDigits_one (by decide)]
 rfl
theorem ziy (q g:Nat)(hq:1≤q)(hg:g < 1000000000):Lib.decDigits (q * 1000000000+g)=Lib.decDigits q ++ pad 9 g:=zeI 9 q g hq hg
theorem zfa {gs:List Int}(h:∀ g∈gs,0≤g∧g < 1000000000):0≤gv gs:=by
 induction gs with
 | nil=>simp [gv]
 | cons x xs ih=>have:=ih fun g hg=>h g (by simp [hg]);have:=h x (by simp);simp only [gv];omega
theorem ziH {gs:List Int}(h:∀ g∈gs,0≤g∧g < 1000000000)(hl:gs.length≠0)(hn:gs.getD (gs.length - 1) 0≠0):0 < gv gs:=by
 induction gs with
 | nil=>simp at hl
 | cons x xs ih=>
  have hx:=h x (by simp)
  have hxs:∀ g∈xs,0≤g∧g < 1000000000:=fun g hg=>h g (by simp [hg])
  have h0:=zfa hxs
  simp only [gv]
  by_cases e:xs.length=0
  ·have:xs=[]:=List.eq_nil_of_length_eq_zero e
   subst this
   simp at hn
   simp [gv];omega
  ·have:=ih hxs e (by
    have e2:(x :: xs).length - 1=(xs.length - 1)+1:=by simp;omega
    rw [e2,List.getD_cons_succ] at hn;exact hn)
   omega
theorem zkD {gs:List Int}(h:∀ g∈gs,0≤g∧g < 1000000000)(hn:gs.getD (gs.length - 1) 0≠0){p:Nat}(hp:p+1 < gs.length):
  Lib.decDigits (gv (gs.drop p)).toNat=Lib.decDigits (gv (gs.drop (p+1))).toNat ++ pad 9 (gs.getD p 0).toNat:=by
 have hm:gs.getD p 0∈gs:=by rw [List.getD_eq_getElem?_getD,List.getElem?_eq_getElem (by omega)];exact List.getElem_mem _
 have hg:=h _ hm
 have hd:∀ g∈gs.drop (p+1),0≤g∧g < 1000000000:=fun g hg=>h g (List.mem_of_mem_drop hg)
 have hl:(gs.drop (p+1)).length=gs.length - (p+1):=List.length_drop
 have h1:=ziH hd (by omega) (by rw [zdv,hl,show p+1+(gs.length - (p+1) - 1)=gs.length - 1 by omega];exact hn)
 have e:gs.drop p=gs.getD p 0 :: gs.drop (p+1):=zz gs p (by omega)
 rw [e]
 simp only [gv]
 rw [← ziy _ _ (by omega) (by omega)]
 congr 1
 omega
def txt (z:Int):List UInt8:=Lib.itoa z
def TextPost (w:World)(z:Int)(e:Ending)(w':World):Prop:=e=.returned (.string ⟨(txt z).toArray⟩)∧Below w.heap.size w w'
end Go.Proofs.YtnkcjkpkphjecaaGreatDoor
/- The walk that makes a number's text, over what strconv.Itoa answers. -/
namespace Go.Proofs.YtnkcjkpkphjecaaGreatDoor
open Go.RowKit Limbs
def ItoaOk (w:World)(z:Int):Prop:=
 ∀(W:World) (k:Nat),Below w.heap.size w W→k < 10000000000→(k < 100∨100≤z.natAbs) →
  Calls Tryz.prog 84 #[.int .i64 k] W fun e w'=>e=.returned (.string ⟨(Lib.decDigits k).toArray⟩)∧Below W.heap.size W w'
def sgnB (neg:Bool):List UInt8:=if neg=true then [45] else []
theorem ziG {gs:List Int}(h:∀ g∈gs,0≤g∧g < 1000000000)(top:Nat)(hl:gs.length=top+1):gp top * gs.getD top 0≤gv gs:=by
 induction gs generalizing top with
 | nil=>simp at hl
 | cons x xs ih=>
  have hx:=h x (by simp)
  have hxs:∀ g∈xs,0≤g∧g < 1000000000:=fun g hg=>h g (by simp [hg])
  cases top with
  | zero=>
   have:=zfa hxs
   simp [gv,gp];omega
  | succ top=>
   have:=ih hxs top (by simpa using hl)
   rw [List.getD_cons_succ]
   simp only [gv,gp]
   rw [Int.mul_assoc]
   omega
theorem zci {T e:TypeId}{B b:Nat}{bs:List Value}{w w':World}(h:Lib.IsBuilderF T e B b bs w)(hb:Below w.heap.size w w'):Lib.IsBuilderF T e B b bs w':=by
 have hg:w.grownBy w' none:=⟨hb.os,hb.tape,hb.output,hb.size,fun k hk _=>hb.block k hk⟩
 have key:∀ p,Lib.BuilderAtF T e B b p bs w→Lib.BuilderAtF T e B b p bs w':=fun p hp=>by
  have hlt:=hp.lt
  obtain⟨hB,v,hbk,hown,hne⟩:=hp
  exact⟨hB,v,by rw [hb.block b hlt];exact hbk,hown.kept hg (by cases v.ownBlock <;> simp),hne⟩
 exact h.elim (fun x=>.inl (key _ x)) (fun x=>.inr (key _ x))
set_option maxRecDepth 100000 in
set_option maxHeartbeats 1000000 in
theorem zkC (w:World)(va:Value)(z:Int)(n:Nat)(ha:NumL w va z n)(hn:n≤900000)(hz:z≠0)(hIt:ItoaOk w z):
  Calls Tryz.prog 46 #[va] w fun e w'=>TextPost w z e w':=by
 have HN:=hide ha
 obtain⟨an,sa,a,rfl,hla,nra,hza,hx,hna⟩:=ha
 have HA:=hide hla
 obtain⟨ao,acap,rfl,hac,halen,halb,-⟩:=hla
 have hane:a.length≠0:=fun h=>hz (by rw [hx,(zaG halb nra).2 h];split <;> rfl)
 have hpos:=zbP halb nra hane
 have HX:=hide hx;clear hx
 have HI:=hide hIt;clear hIt
 have hd0:decide (z=0)=false:=decide_eq_false hz
 go_enter Tryz.func46,Tryz.ntmps46
 go_wp2_with fail
 have hB:=zg w (.bool an) (.slice ao a.length acap) 42 w.heap.size rfl
 have hb0:Below w.heap.size w (w.alloc (.cells #[.bool an,.slice ao a.length acap] 42)):=(Below.refl _ _).alloc zL _
 have hs0:w.heap.size < (w.alloc (.cells #[.bool an,.slice ao a.length acap] 42)).heap.size:=by simp
 generalize w.alloc (.cells #[.bool an,.slice ao a.length acap] 42)=W at *
 refine(zap W _ z n (HN.out.below hb0 zL)).mono ?_
 rintro e w2 ⟨rfl,hb2⟩
 rw [hd0]
 replace hB:=hB.later hb2 hs0
 replace hb0:=hb0.trans (hb2.mono hb0.size)
 have hs2:=zT hs0 hb2.size
 clear hb2 hs0
 obtain⟨p0,p1,-,-⟩:=hB
 go_wp2_with fail
 refine(zhS w2 _ a (HA.out.below hb0 zL) nra).mono ?_
 rintro e w3 ⟨v,gs,rfl,hown,hb3,hgv,hg9,hlast,hgl⟩
 have hgne:gs.length≠0:=fun h=>by rw [List.eq_nil_of_length_eq_zero h] at hgv;simp [gv] at hgv;omega
 replace hlast:=hlast.resolve_left hgne
 obtain⟨top,htop⟩:∃ top,gs.length=top+1:=⟨gs.length - 1,by omega⟩
 obtain⟨g,cap,rfl,hgb,hglt⟩:=hown.form (by omega)
 have hcells:=fun i hi=>hown.cellAt i hi
 rw [htop] at hcells hgl hlast ⊢
 rw [Nat.add_sub_cancel] at hlast
 have HC:Hid (∀ i,i < top+1→w3.cell? ⟨g,i,none⟩=some (.int .i64 (gs.getD i 0))):=fun i hi=>by
  rw [hcells i (by omega),List.getElem?_map,List.getElem?_eq_getElem (by omega)]
  simp [List.getD_eq_getElem?_getD,show i < gs.length by omega]
 clear hcells hown
 have q0:w3.cell? ⟨w.heap.size,0,none⟩=some (.bool an):=(hb3.cell (p:=⟨w.heap.size,0,none⟩) hs2).trans p0
 have hbw3:=hb0.trans (hb3.mono hb0.size)
 have HV:=hide hgv;have HG9:=hide hg9;have HLast:=hide hlast;have HTop:=hide htop
 clear hgv hg9 hlast htop p0 p1 hb3
 have hs3:w.heap.size < w3.heap.size:=by have:=hbw3.size;omega
 have hct:=HC.out top (by omega)
 obtain⟨gt,HGT⟩:∃ gt,Hid (gt=gs.getD top 0):=⟨_,rfl⟩
 rw [← HGT.out] at hct
 have hgt:0 < gt∧gt < 1000000000:=by
  have:=HG9.out (gs.getD top 0) (by rw [List.getD_eq_getElem?_getD,List.getElem?_eq_getElem (by have:=HTop.out;omega)];exact List.getElem_mem _)
  have h2:=HLast.out
  rw [HGT.out];omega
 have hbu:=Lib.IsBuilderF.of (Lib.fresh_isBuilder 138 5 w3)
 have hbb:Below w3.heap.size w3 (w3.alloc (.cells #[.pointer none,.slice none 0 0] 138)):=(Below.refl _ _).alloc zL _
 have HBU:=hide hbu
 clear hbu
 have HEND:Hid (∀ w9,Below w3.heap.size w3 w9→TextPost w z (.returned (.string ⟨(sgnB an ++ Lib.decDigits (gv (gs.drop 0)).toNat).toArray⟩)) w9):=fun w9 h9=>by
  refine⟨?_,hbw3.trans (h9.mono hbw3.size)⟩
  have e:txt z=sgnB an ++ Lib.decDigits (gv (gs.drop 0)).toNat:=by
   rw [List.drop_zero,← HV.out]
   unfold txt sgnB Lib.itoa
   have:=HX.out
   cases an
   ·simp at this ⊢;rw [this,if_neg (by omega)]
   ·simp at this ⊢;rw [this,if_pos (by omega)];simp
    congr 1;omega
  rw [e]
 have HIT:Hid (∀(W:World) (k:Nat),Below w3.heap.size w3 W→k < 10000000000→(k < 100∨top≠0∨100≤gt)→Calls Tryz.prog 84 #[.int .i64 k] W fun e w'=>e=.returned (.string ⟨(Lib.decDigits k).toArray⟩)∧Below W.heap.size W w'):=fun W k hW hk hc=>by
  refine HI.out W k (hbw3.trans (hW.mono hbw3.size)) hk ?_
  rcases hc with hc | hc
  ·exact .inl hc
  ·right
   have h1:=ziG HG9.out top HTop.out
   rw [← HGT.out,← HV.out] at h1
   have h2:100≤lv a:=by
    rcases hc with hc | hc
    ·have h3:=ze5 (m:=1) (n:=top) (by omega)
     have h4:gp top * 1≤gp top * gt:=Int.mul_le_mul_of_nonneg_left (by omega) (by have:=zbh top;omega)
     simp [gp] at h3
     omega
    ·have h3:=zbh top
     have h4:1 * gt≤gp top * gt:=Int.mul_le_mul_of_nonneg_right (by omega) (by omega)
     omega
   have:=HX.out
   split at this <;> omega
 have HTXT:Hid (∀ p,p+1 < gs.length→Lib.decDigits (gv (gs.drop p)).toNat=Lib.decDigits (gv (gs.drop (p+1))).toNat ++ pad 9 (gs.getD p 0).toNat):=fun p hp=>zkD HG9.out (by rw [HTop.out,Nat.add_sub_cancel];exact HLast.out) hp
 have HT0:Hid (Lib.decDigits (gv (gs.drop top)).toNat=Lib.decDigits gt.toNat):=by
  show _=_
  rw [zz gs top (by have:=HTop.out;omega),List.drop_eq_nil_of_le (by have:=HTop.out;omega),← HGT.out]
  simp [gv]
 have HG:Hid (∀ p,p < top+1→0≤gs.getD p 0∧gs.getD p 0 < 1000000000):=fun p hp=>HG9.out _ (by rw [List.getD_eq_getElem?_getD,List.getElem?_eq_getElem (by have:=HTop.out;omega)];exact List.getElem_mem _)
 obtain⟨gn,hgn⟩:∃ gn:Nat,gt=(gn:Int):=Int.eq_ofNat_of_zero_le (by omega)
 subst hgn
 clear HI HN HA HX HGT HV HG9 HLast
 have hgn1:gn < 1000000000:=by omega
 have hdl:=(zdg gn).1
 have hctA:∀ W',Below w3.heap.size w3 W'→W'.cell? ⟨g,top,none⟩=some (.int .i64 (gn:Int)):=fun W' h=>(h.cell (p:=⟨g,top,none⟩) hglt).trans hct
 have HCT:=hide hctA
 clear hctA hct
 cases an
 ·have HBF:Hid (Lib.IsBuilderF 138 5 w3.heap.size w3.heap.size (Lib.byteCells (sgnB false)) (w3.alloc (.cells #[.pointer none,.slice none 0 0] 138))):=HBU.out
  have hctb:=HCT.out _ hbb
  go_wp2_with fail
  generalize w3.alloc (.cells #[.pointer none,.slice none 0 0] 138)=wb at *
  clear hctb q0
  refine(HIT.out wb gn hbb (by omega) (by omega)).mono ?_
  rintro e w5 ⟨rfl,hb5⟩
  go_wp2_with fail
  refine(Go.Proofs.Tryz.Builder_WriteString_k w3.heap.size w3.heap.size _ _ _ (zci HBF.out hb5) (by simp [Lib.byteCells,sgnB,ByteArray.size];omega) (by have:=hbb.size;have:=hb5.size;omega)).mono ?_
  rintro e w6 ⟨rfl,hbu6,hb6,-⟩
  have hs6:(Lib.byteCells (sgnB false) ++ Lib.strCells ⟨(Lib.decDigits gn).toArray⟩)=Lib.byteCells (sgnB false ++ Lib.decDigits (gv (gs.drop (top - 0))).toNat):=by
   rw [Nat.sub_zero,HT0.out,Lib.byteCells_append];rfl
  rw [hs6] at hbu6
  have HB6:=hide (show Lib.IsBuilderF 138 5 w3.heap.size w3.heap.size _ w6 from .inr hbu6)
  have hbw6:=(hbb.trans (hb5.mono hbb.size)).trans hb6
  have hll:(sgnB false ++ Lib.decDigits (gv (gs.drop (top - 0))).toNat).length≤1000000100:=by rw [Nat.sub_zero,HT0.out];simp [sgnB];omega
  clear hbu6 hs6 hb6 hb5 HBF HBU hbb
  go_wp2
  go_loopw [25] (fun i wr=>∃ k:Nat,k≤top∧i=.int .i64 k∧Hid (Lib.IsBuilderF 138 5 w3.heap.size w3.heap.size (Lib.byteCells (sgnB false ++ Lib.decDigits (gv (gs.drop (top - k))).toNat)) wr)∧Below w3.heap.size w3 wr∧(sgnB false ++ Lib.decDigits (gv (gs.drop (top - k))).toNat).length≤1000000100+9 * k) (fun i _=>top - (intOf i).toNat)
  case atStart=>exact⟨0,Nat.zero_le _,rfl,HB6,hbw6,hll⟩
  case round=>
   obtain⟨k,hk,rfl,HBK,hbk,hlk⟩:=hrel
   by_cases hlt:k < top
   ·obtain⟨p,hp⟩:∃ p,p=top - 1 - k:=⟨_,rfl⟩
    have hP:(top:Int) - 1 - (k:Int)=(p:Int):=by omega
    have hpl:p < top+1:=by omega
    have hcp:=(hbk.cell (p:=⟨g,p,none⟩) hglt).trans (HC.out p hpl)
    have hg:=HG.out p hpl
    have HST:=hide (HTXT.out p (by have:=HTop.out;omega))
    have HKE:=hide (show top - k=p+1 by omega)
    have HKE2:=hide (show top - (k+1)=p by omega)
    obtain⟨q,hq⟩:∃ q:Nat,gs.getD p 0=(q:Int):=Int.eq_ofNat_of_zero_le hg.1
    rw [hq] at hcp hg HST
    clear hp hq
    go_wp2_with fail
    rw [show(1000000000:Int)+(q:Int)=((1000000000+q:Nat):Int) by omega]
    refine(HIT.out wr (1000000000+q) hbk (by omega) (by omega)).mono ?_
    rintro e w7 ⟨rfl,hb7⟩
    have hdq:=(zdg (1000000000+q)).2
    have HN9:=hide (nine q (by omega))
    obtain⟨s,HSs⟩:∃ s:ByteArray,Hid (s=⟨(Lib.decDigits (1000000000+q)).toArray⟩):=⟨_,rfl⟩
    have hs1:1≤s.size:=by rw [HSs.out];simpa [ByteArray.size] using hdq
    rw [← HSs.out]
    have hcell9:Lib.strCells (s.extract 1 s.size)=Lib.byteCells (pad 9 q):=by
     rw [Lib.strCells_eq,Lib.extract_to_end,HSs.out]
     show Lib.byteCells ((Lib.decDigits (1000000000+q)).toArray.toList.drop 1)=_
     rw [List.toList_toArray,HN9.out]
    have hsz9:(s.extract 1 s.size).size=9:=by
     have:=Lib.strCells_length (s.extract 1 s.size)
     rw [hcell9,Lib.byteCells_length,zcJ] at this
     exact this.symm
    have HC9:=hide hcell9;have HZ9:=hide hsz9
    clear hcell9 hsz9 hdq
    go_wp2_with fail
    refine(Go.Proofs.Tryz.Builder_WriteString_k w3.heap.size w3.heap.size _ _ _ (zci HBK.out hb7) (by rw [HZ9.out,Lib.byteCells_length];omega) (by have:=hbk.size;have:=hb7.size;omega)).mono ?_
    rintro e w8 ⟨rfl,hbu8,hb8,-⟩
    rw [HC9.out,← Lib.byteCells_append,List.append_assoc,HKE.out] at hbu8
    have hst:=HST.out
    rw [Int.toNat_natCast] at hst
    rw [← hst] at hbu8
    have HB8:Hid (Lib.IsBuilderF 138 5 w3.heap.size w3.heap.size (Lib.byteCells (sgnB false ++ Lib.decDigits (gv (gs.drop (top - (k+1)))).toNat)) w8):=by rw [HKE2.out];exact .inr hbu8
    have hbw8:=(hbk.trans (hb7.mono hbk.size)).trans hb8
    have hl8:(sgnB false ++ Lib.decDigits (gv (gs.drop (top - (k+1)))).toNat).length≤1000000100+9 *(k+1):=by
     rw [HKE2.out,hst,← List.append_assoc,List.length_append,zcJ]
     rw [HKE.out] at hlk
     omega
    clear hbu8 hst hb8 hb7 HST
    go_wp2
    go_roundw
    case rel=>exact⟨k+1,by omega,by go_num,HB8,hbw8,hl8⟩
    case measure=>simp [intOf];omega
   ·obtain rfl:k=top:=by omega
    rw [Nat.sub_self] at HBK
    go_wp2_with fail
    refine(Go.Proofs.Tryz.Builder_String_any_k w3.heap.size w3.heap.size _ _ HBK.out hbk.size).mono ?_
    rintro e w8 ⟨rfl,-,hb8,-⟩
    have HF:=hide (HEND.out w8 (hbk.trans hb8))
    go_wp2
    go_ret
    exact HF.out
 ·go_wp2_with fail
  refine(Go.Proofs.Tryz.Builder_WriteByte_k w3.heap.size w3.heap.size [] 45 _ HBU.out (by decide) (by simp)).mono ?_
  rintro e wb ⟨rfl,hbu2,hbb2,-⟩
  have HBF:Hid (Lib.IsBuilderF 138 5 w3.heap.size w3.heap.size (Lib.byteCells (sgnB true)) wb):=.inr hbu2
  replace hbb:=hbb.trans hbb2
  clear hbu2 hbb2
  have hctb:=HCT.out _ hbb
  go_wp2_with fail
  clear hctb q0
  refine(HIT.out wb gn hbb (by omega) (by omega)).mono ?_
  rintro e w5 ⟨rfl,hb5⟩
  go_wp2_with fail
  refine(Go.Proofs.Tryz.Builder_WriteString_k w3.heap.size w3.heap.size _ _ _ (zci HBF.out hb5) (by simp [Lib.byteCells,sgnB,ByteArray.size];omega) (by have:=hbb.size;have:=hb5.size;omega)).mono ?_
  rintro e w6 ⟨rfl,hbu6,hb6,-⟩
  have hs6:(Lib.byteCells (sgnB true) ++ Lib.strCells ⟨(Lib.decDigits gn).toArray⟩)=Lib.byteCells (sgnB true ++ Lib.decDigits (gv (gs.drop (top - 0))).toNat):=by
   rw [Nat.sub_zero,HT0.out,Lib.byteCells_append];rfl
  rw [hs6] at hbu6
  have HB6:=hide (show Lib.IsBuilderF 138 5 w3.heap.size w3.heap.size _ w6 from .inr hbu6)
  have hbw6:=(hbb.trans (hb5.mono hbb.size)).trans hb6
  have hll:(sgnB true ++ Lib.decDigits (gv (gs.drop (top - 0))).toNat).length≤1000000100:=by rw [Nat.sub_zero,HT0.out];simp [sgnB];omega
  clear hbu6 hs6 hb6 hb5 HBF HBU hbb
  go_wp2
  go_loopw [25] (fun i wr=>∃ k:Nat,k≤top∧i=.int .i64 k∧Hid (Lib.IsBuilderF 138 5 w3.heap.size w3.heap.size (Lib.byteCells (sgnB true ++ Lib.decDigits (gv (gs.drop (top - k))).toNat)) wr)∧Below w3.heap.size w3 wr∧(sgnB true ++ Lib.decDigits (gv (gs.drop (top - k))).toNat).length≤1000000100+9 * k) (fun i _=>top - (intOf i).toNat)
  case atStart=>exact⟨0,Nat.zero_le _,rfl,HB6,hbw6,hll⟩
  case round=>
   obtain⟨k,hk,rfl,HBK,hbk,hlk⟩:=hrel
   by_cases hlt:k < top
   ·obtain⟨p,hp⟩:∃ p,p=top - 1 - k:=⟨_,rfl⟩
    have hP:(top:Int) - 1 - (k:Int)=(p:Int):=by omega
    have hpl:p < top+1:=by omega
    have hcp:=(hbk.cell (p:=⟨g,p,none⟩) hglt).trans (HC.out p hpl)
    have hg:=HG.out p hpl
    have HST:=hide (HTXT.out p (by have:=HTop.out;omega))
    have HKE:=hide (show top - k=p+1 by omega)
    have HKE2:=hide (show top - (k+1)=p by omega)
    obtain⟨q,hq⟩:∃ q:Nat,gs.getD p 0=(q:Int):=Int.eq_ofNat_of_zero_le hg.1
    rw [hq] at hcp hg HST
    clear hp hq
    go_wp2_with fail
    rw [show(1000000000:Int)+(q:Int)=((1000000000+q:Nat):Int) by omega]
    refine(HIT.out wr (1000000000+q) hbk (by omega) (by omega)).mono ?_
    rintro e w7 ⟨rfl,hb7⟩
    have hdq:=(zdg (1000000000+q)).2
    have HN9:=hide (nine q (by omega))
    obtain⟨s,HSs⟩:∃ s:ByteArray,Hid (s=⟨(Lib.decDigits (1000000000+q)).toArray⟩):=⟨_,rfl⟩
    have hs1:1≤s.size:=by rw [HSs.out];simpa [ByteArray.size] using hdq
    rw [← HSs.out]
    have hcell9:Lib.strCells (s.extract 1 s.size)=Lib.byteCells (pad 9 q):=by
     rw [Lib.strCells_eq,Lib.extract_to_end,HSs.out]
     show Lib.byteCells ((Lib.decDigits (1000000000+q)).toArray.toList.drop 1)=_
     rw [List.toList_toArray,HN9.out]
    have hsz9:(s.extract 1 s.size).size=9:=by
     have:=Lib.strCells_length (s.extract 1 s.size)
     rw [hcell9,Lib.byteCells_length,zcJ] at this
     exact this.symm
    have HC9:=hide hcell9;have HZ9:=hide hsz9
    clear hcell9 hsz9 hdq
    go_wp2_with fail
    refine(Go.Proofs.Tryz.Builder_WriteString_k w3.heap.size w3.heap.size _ _ _ (zci HBK.out hb7) (by rw [HZ9.out,Lib.byteCells_length];omega) (by have:=hbk.size;have:=hb7.size;omega)).mono ?_
    rintro e w8 ⟨rfl,hbu8,hb8,-⟩
    rw [HC9.out,← Lib.byteCells_append,List.append_assoc,HKE.out] at hbu8
    have hst:=HST.out
    rw [Int.toNat_natCast] at hst
    rw [← hst] at hbu8
    have HB8:Hid (Lib.IsBuilderF 138 5 w3.heap.size w3.heap.size (Lib.byteCells (sgnB true ++ Lib.decDigits (gv (gs.drop (top - (k+1)))).toNat)) w8):=by rw [HKE2.out];exact .inr hbu8
    have hbw8:=(hbk.trans (hb7.mono hbk.size)).trans hb8
    have hl8:(sgnB true ++ Lib.decDigits (gv (gs.drop (top - (k+1)))).toNat).length≤1000000100+9 *(k+1):=by
     rw [HKE2.out,hst,← List.append_assoc,List.length_append,zcJ]
     rw [HKE.out] at hlk
     omega
    clear hbu8 hst hb8 hb7 HST
    go_wp2
    go_roundw
    case rel=>exact⟨k+1,by omega,by go_num,HB8,hbw8,hl8⟩
    case measure=>simp [intOf];omega
   ·obtain rfl:k=top:=by omega
    rw [Nat.sub_self] at HBK
    go_wp2_with fail
    refine(Go.Proofs.Tryz.Builder_String_any_k w3.heap.size w3.heap.size _ _ HBK.out hbk.size).mono ?_
    rintro e w8 ⟨rfl,-,hb8,-⟩
    have HF:=hide (HEND.out w8 (hbk.trans hb8))
    go_wp2
    go_ret
    exact HF.out
end Go.Proofs.YtnkcjkpkphjecaaGreatDoor
