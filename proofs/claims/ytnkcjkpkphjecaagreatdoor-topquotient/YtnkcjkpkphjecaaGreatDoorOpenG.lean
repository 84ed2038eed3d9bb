import Derived.Test.YtnkcjkpkphjecaaGreatDoorQtD
import Derived.Test.YtnkcjkpkphjecaaGreatDoorQtB
import Derived.Test.YtnkcjkpkphjecaaGreatDoorKerT
import Derived.Test.YtnkcjkpkphjecaaGreatDoorLatL
import Derived.Deep.SlicePairs
namespace Go.Proofs.YtnkcjkpkphjecaaGreatDoor
open Go.RowKit Limbs
theorem MatN.setList {W:World}{B:Nat}{u:Value}{hs ks:List (List Int)}{nv mv:Nat}{x:Int}{o:Option Addr}{l c:Nat}(y z:Value)(h:MatN W u hs nv)(hpos:∀ zs∈hs,0 < zs.length)(hk:MatN W (.slice o l c) ks mv)(c0:W.cell? ⟨B,0,none⟩=some (.int .i64 x))(c1:W.cell? ⟨B,1,none⟩=some (.slice o l c)):
  MatN ((W.setCell ⟨B,0,none⟩ y).setCell ⟨B,1,none⟩ z) u hs nv:=by
 have k1:(W.setCell ⟨B,0,none⟩ y).cell? ⟨B,1,none⟩=some (.slice o l c):=Eq.trans (World.cell?_setCell_other (h:=fun e=>by simp at e) ..) c1
 have stay:∀(b o:Nat) (v:Value),W.cell? ⟨b,o,none⟩=some v→¬(b=B∧o=0)→¬(b=B∧o=1)→((W.setCell ⟨B,0,none⟩ y).setCell ⟨B,1,none⟩ z).cell? ⟨b,o,none⟩=some v:=fun b o v hv h0 h1=>
  Eq.trans (World.cell?_setCell_other (h:=fun e=>h1 (by simp only [Addr.mk.injEq,and_true] at e;exact⟨e.1.symm,e.2.symm⟩)) ..) (Eq.trans (World.cell?_setCell_other (h:=fun e=>h0 (by simp only [Addr.mk.injEq,and_true] at e;exact⟨e.1.symm,e.2.symm⟩)) ..) hv)
 have hsz:((W.setCell ⟨B,0,none⟩ y).setCell ⟨B,1,none⟩ z).heap.size=W.heap.size:=by simp
 obtain⟨ao,cap,hv,h1,h2⟩:=h
 refine⟨ao,cap,hv,h1,fun hh=>?_⟩
 obtain⟨b,off,e,hlt,hc⟩:=h2 hh
 refine⟨b,off,e,by rw [hsz];exact hlt,fun i zs hi=>?_⟩
 obtain⟨v,cv,hv⟩:=hc i zs hi
 have hzs:=hpos zs (List.mem_of_getElem? hi)
 obtain⟨vb,voff,vcap,rfl⟩:=hv.form hzs
 refine⟨_,stay _ _ _ cv (fun⟨e1,e2⟩=>?_) (fun⟨e1,e2⟩=>?_),?_⟩
 ·rw [e1,e2,c0] at cv;cases cv
 ·rw [e1,e2,c1] at cv
  simp only [Option.some.injEq,Value.slice.injEq] at cv
  obtain⟨rfl,rfl,rfl⟩:=cv
  obtain⟨ko,kcap,ek,-,k2⟩:=hk
  simp only [Value.slice.injEq] at ek
  obtain⟨rfl,ek,rfl⟩:=ek
  obtain⟨kb,koff,e3,-,k3⟩:=k2 (by omega)
  simp only [Option.some.injEq,Addr.mk.injEq,and_true] at e3
  obtain⟨rfl,rfl⟩:=e3
  obtain⟨r0,h0⟩:∃ r0,ks[0]?=some r0:=⟨_,List.getElem?_eq_getElem (by omega)⟩
  obtain⟨q,cq,hq⟩:=k3 0 r0 h0
  obtain⟨qo,qc,rfl,-,-⟩:=hq
  obtain⟨-,neg,o,l,c,d0,-,-⟩:=hv.at 0 hzs
  rw [Nat.zero_mul] at d0
  rw [cq] at d0
  cases d0
 ·have hat:=fun j (hj:j < zs.length)=>hv.at j hj
  obtain⟨_,_,ev,g1,-⟩:=hv
  refine⟨_,_,ev,g1,fun _=>⟨vb,voff,?_,by rw [hsz];exact(hat 0 hzs).1,fun j hj=>?_⟩⟩
  ·simp only [Value.slice.injEq,true_and] at ev
   exact ev.1.symm
  ·obtain⟨-,neg,o,l,c,d0,d1,hn⟩:=hat j hj
   refine⟨neg,o,l,c,stay _ _ _ d0 (fun⟨e1,e2⟩=>?_) (fun⟨e1,e2⟩=>?_),stay _ _ _ d1 (fun⟨e1,e2⟩=>?_) (fun⟨e1,e2⟩=>?_),(hn.setCell c0 (by simp)).setCell k1 (by simp)⟩
   ·rw [e1,e2,c0] at d0;cases d0
   ·rw [e1,e2,c1] at d0;cases d0
   ·rw [e1,e2,c0] at d1;cases d1
   ·have e3:voff+j * 2=0:=by omega
    rw [e1,e3,c0] at d0;cases d0
theorem LatG.setOver {W:World}{B n m:Nat}{v:Value}{hs ks:List (List Int)}{nv mv:Nat}{x:Int}{o:Option Addr}{l c:Nat}(h:LatG W v n hs nv)(hk:LatG W (.agg #[.int .i64 (m:Int),.slice o l c]) m ks mv)(hb:BoxL W B (.int .i64 x) (.slice o l c))(h1:1≤n)(y z:Value):LatG ((W.setCell ⟨B,0,none⟩ y).setCell ⟨B,1,none⟩ z) v n hs nv:=by
 obtain⟨⟨⟨u,e,hu⟩,p,hp⟩⟩:=h
 obtain⟨⟨⟨u',e',hu'⟩,-⟩⟩:=hk
 simp only [Value.agg.injEq,Array.mk.injEq,List.cons.injEq,and_true,true_and] at e'
 subst e'
 exact⟨⟨u,e,hu.setList y z (fun zs hz=>by rw [hp.len zs hz];omega) hu' hb.1.1 hb.1.2.1⟩,p,hp⟩
theorem zh0 {n:Nat}{hs ks ts:List (List Int)}(hl:∀ r∈hs,r.length=n)(a:Alikes n (InL ts) (InL (hs ++ ks))):∀ u∈hs,Gens n (InL ts) u:=fun u hu=>(a u).2 (.base (List.mem_append_left _ hu) (hl u hu))
end Go.Proofs.YtnkcjkpkphjecaaGreatDoor
/- TopQuotient: invariants, multiplied, are the index; the last one times all lies in the lesser lattice. -/
namespace Go.Proofs.YtnkcjkpkphjecaaGreatDoor
open Go.RowKit Limbs Digs
set_option linter.unusedSimpArgs false in
set_option maxRecDepth 100000 in
set_option maxHeartbeats 6400000 in
theorem zj0 (w:World)(ht:Tab w)(nA nB:Int)(ga gb:Option Addr)(ca cb:Nat)(ra rb:List (List Int))(ha:RowsS w (.slice ga ra.length ca) ra)(hb:RowsS w (.slice gb rb.length cb) rb):
  Calls Tryz.prog 5 #[.agg #[.int .i64 nA,.slice ga ra.length ca],.agg #[.int .i64 nB,.slice gb rb.length cb]] w fun e w'=>e=.returned (.bool true)∧Below w.heap.size w w':=by
 have HT:=hide ht;have HA:=hide ha;have HB:=hide hb
 clear ht ha hb
 have XA:=hide ((BoxL.new w (.int .i64 nA) (.slice ga ra.length ca) 24).later (zay _ (.cells #[.int .i64 nB,.slice gb rb.length cb] 24)))
 have XB:=hide (BoxL.new (w.alloc (.cells #[.int .i64 nA,.slice ga ra.length ca] 24)) (.int .i64 nB) (.slice gb rb.length cb) 24)
 have HBW:=hide (((Below.refl w.heap.size w).alloc zL (.cells #[.int .i64 nA,.slice ga ra.length ca] 24)).alloc (by simp) (.cells #[.int .i64 nB,.slice gb rb.length cb] 24))
 have HS1:Hid ((w.alloc (.cells #[.int .i64 nA,.slice ga ra.length ca] 24)).heap.size=w.heap.size+1):=by show _=_;simp
 rw [HS1.out] at XB
 clear HS1
 go_enter Tryz.func5,Tryz.ntmps5
 go_wp2_with fail
 generalize ((w.alloc (.cells #[.int .i64 nA,.slice ga ra.length ca] 24)).alloc (.cells #[.int .i64 nB,.slice gb rb.length cb] 24))=W0 at *
 refine(zi7 W0 (HT.out.below HBW.out)).mono ?_
 rintro e w1 ⟨rfl,hb1⟩
 have XA':=hide (XA.out.later hb1)
 have XB':=hide (XB.out.later hb1)
 clear XA XB
 have XA:=XA'
 have XB:=XB'
 clear XA' XB'
 have HBW':=hide (HBW.out.trans (hb1.mono HBW.out.size))
 clear HBW
 have HBW:=HBW'
 clear HBW'
 clear hb1
 obtain⟨a0,a1,a2,a3⟩:=XA.out.1
 obtain⟨b0,b1,b2,b3⟩:=XB.out.1
 go_wp2_with fail
 refine(zj5 w1 nA nB ga gb ca cb ra rb (HA.out.below HBW.out) (HB.out.below HBW.out)).mono ?_
 rintro e w2 ⟨hb2,i1,o1,l1,k1,i2,o2,l2,k2,ok,too,rfl,hg1,hg2⟩
 clear a0 a1 a2 a3 b0 b1 b2 b3
 have HBW':=hide (HBW.out.trans (hb2.mono HBW.out.size))
 clear HBW
 have HBW:=HBW'
 clear HBW'
 have HW2:Hid (w.heap.size≤w2.heap.size):=HBW.out.size
 clear hb2 XB XA
 have HG1:=hide hg1;have HG2:=hide hg2
 clear hg1 hg2
 have hN1:=zay w2 (.cells #[.int .i64 i1,.slice o1 l1 k1] 29)
 have hN2:=zay (w2.alloc (.cells #[.int .i64 i1,.slice o1 l1 k1] 29)) (.cells #[.int .i64 i2,.slice o2 l2 k2] 29)
 have hN3:=hN1.trans (hN2.mono hN1.size)
 have X8:=hide ((BoxL.new w2 (.int .i64 i1) (.slice o1 l1 k1) 29).later hN2)
 have X9:=hide (BoxL.new (w2.alloc (.cells #[.int .i64 i1,.slice o1 l1 k1] 29)) (.int .i64 i2) (.slice o2 l2 k2) 29)
 have HS1:Hid ((w2.alloc (.cells #[.int .i64 i1,.slice o1 l1 k1] 29)).heap.size=w2.heap.size+1):=by show _=_;simp
 rw [HS1.out] at X9
 have HG1':=hide (HG1.out.later hN3);have HG2':=hide (HG2.out.later hN3)
 clear HG1 HG2 HS1
 have HN3:=hide hN3
 clear hN1 hN2 hN3
 have HBW':=hide (HBW.out.trans (HN3.out.mono HBW.out.size))
 clear HBW
 have HBW:=HBW'
 clear HBW'
 clear HN3
 generalize hokk:(ok && too && decide (nA=nB))=okk at *
 have HOK:=hide hokk
 clear hokk
 cases okk with
 | false=>
  go_wp2
  go_ret
  exact⟨rfl,HBW.out⟩
 | true=>
  obtain⟨h3,h5⟩:(ok=true∧too=true)∧nA=nB:=by have:=HOK.out;simpa using this
  obtain⟨h3,h4'⟩:=h3
  subst h3 h4'
  rcases HG1'.out with⟨h,-⟩ |⟨-,hga,e1,hs,hx,-⟩
  ·cases h
  rcases HG2'.out with⟨h,-⟩ |⟨-,hgb,e2,ks,hy,-⟩
  ·cases h
  obtain⟨h14,-⟩:=zhK hga
  obtain⟨n,hn⟩:=Int.eq_ofNat_of_zero_le (show 0≤nA by omega)
  have hn2:nB=(n:Int):=h5.symm.trans hn
  clear h5
  subst hn hn2 e1 e2
  have h1:1≤n:=by omega
  have h4:n≤4:=by omega
  rw [Int.toNat_natCast] at hx hy
  have hll1:l1=hs.length:=by
   obtain⟨⟨u,e,⟨_,_,rfl,-,-⟩⟩,-⟩:=hx
   simp only [Value.agg.injEq,Array.mk.injEq,List.cons.injEq,Value.slice.injEq,and_true,true_and] at e
   exact e.2.1
  subst hll1
  have LX:=hide (LatG.mk hx);have LY:=hide (LatG.mk hy)
  obtain⟨p,hFx⟩:=hx.2
  have HFX:=hide hFx
  clear hx hy hga hgb HG1' HG2' HOK h14 hFx
  have hNB:=nb6 n (by omega)
  have H89:Hid (w2.heap.size≠w2.heap.size+1):=Nat.ne_of_lt (Nat.lt_succ_self _)
  have H9:Hid (w.heap.size≤w2.heap.size+1):=Nat.le_succ_of_le HW2.out
  obtain⟨c0,c1,c2,c3⟩:=X8.out.1
  obtain⟨d0,d1,d2,d3⟩:=X9.out.1
  go_wp2_with fail
  clear c0 c1 c2 c3 d0 d1 d2 d3
  generalize (w2.alloc (.cells #[.int .i64 (n:Int),.slice o1 hs.length k1] 29)).alloc (.cells #[.int .i64 (n:Int),.slice o2 l2 k2] 29)=W3 at *
  clear HW2
  generalize w2.heap.size=B8 at *
  refine(zjD W3 _ _ n 6 hs ks (by exact LX.out.lat) (by exact LY.out.lat) h1 h4 hNB).mono ?_
  rintro e w5 ⟨v5,ts,rfl,hl5,hb5,ha5,-⟩
  have HAZ:=hide ha5
  have LS:=hide (LatG.mk hl5)
  obtain⟨pt,hFt⟩:=hl5.2
  have HFT:=hide hFt
  obtain⟨⟨u5,rfl,⟨o5,k5,rfl,-,-⟩⟩,-⟩:=hl5
  clear ha5 hFt
  have X8':=hide (X8.out.later hb5)
  have X9':=hide (X9.out.later hb5)
  have LX':=hide (LX.out.later hb5)
  have LY':=hide (LY.out.later hb5)
  clear X8 X9 LX LY
  have X8:=X8'
  have X9:=X9'
  have LX:=LX'
  have LY:=LY'
  clear X8' X9' LX' LY'
  have HBW':=hide (HBW.out.trans (hb5.mono HBW.out.size))
  clear HBW
  have HBW:=HBW'
  clear HBW'
  clear hb5
  have HBW':=hide ((HBW.out.setCell (p:=⟨B8+1,0,none⟩) H9.out (.int .i64 (n:Int))).setCell (p:=⟨B8+1,1,none⟩) H9.out (.slice o5 ts.length k5))
  have X8':=hide (X8.out.other H89.out (.int .i64 (n:Int)) (.slice o5 ts.length k5))
  have X9':=hide (X9.out.write (.int .i64 (n:Int)) (.slice o5 ts.length k5))
  have LX':=hide (LX.out.setOver LY.out X9.out h1 (.int .i64 (n:Int)) (.slice o5 ts.length k5))
  have LS':=hide (LS.out.setOver LY.out X9.out h1 (.int .i64 (n:Int)) (.slice o5 ts.length k5))
  obtain⟨c0,c1,c2,c3⟩:=X9.out.1
  clear HBW X9 X8 LX LS LY
  have HBW:=HBW'
  have X9:=X9'
  have X8:=X8'
  have LX:=LX'
  have LS:=LS'
  clear HBW' X9' X8' LX' LS'
  go_upto_if 41 with fail
  generalize (w5.setCell ⟨B8+1,0,none⟩ (.int .i64 (n:Int))).setCell ⟨B8+1,1,none⟩ (.slice o5 ts.length k5)=W5 at *
  clear c0 c1 c2 c3
  go_cut [4] from 22 (fun v wc=>v=.bool false∧wc=W5)
  case first=>
   go_wp2
   go_meet
   case rel=>exact⟨rfl,rfl⟩
  case rest=>
   obtain⟨rfl,rfl⟩:=hcut
   apply_assumption
   exact zjX w _ B8 (B8+1) n o1 o5 k1 k5 hs ts p pt HBW.out h1 h4 X8.out LX.out.lat X9.out LS.out.lat HFX.out HFT.out (zh0 HFX.out.len HAZ.out) _ _ _ _ _ _ _ _ _ _ _ _ _ _ _ _ _ _ _ _ _ _ _ _ _ _ _ _ _ _ _ _ _ _ _ _ _ _ _ _ _ _ _ _ _ _ _ _ _ _ _ _ _ _ _ _ _ _ _ _ _ _ _ _ _ _ _ _ _ _ _ _ _ _ _ _ _ _ _ _ _ _ _ _ _ _ _ _ _ _ _ _ _ _ _ _ _ _ _ _ _ _ _ _ _ _ _ _ _ _ _ _ _ _ _ _ _ _ _ _ _ _ _ _ _ _ _ _ _ _ _ _ _ _ _ _ _ _ _ _ _ _ _ _ _ _ _ _ _ _ _ _ _ _ _ _
end Go.Proofs.YtnkcjkpkphjecaaGreatDoor
/- Rows of whole numbers that came in, in a struct: as they read. -/
namespace Go.Proofs.YtnkcjkpkphjecaaGreatDoor
open Go.ChangeShapes Go.WideShapes Go.ChangeAt Go.RowKit Go.Joins Limbs
theorem Tryz.cellsGens:Tryz.prog.cellsOf 24=2:=by kernel_rfl
theorem Tryz.cellsIntS:Tryz.prog.cellsOf 49=1:=by kernel_rfl
theorem Tryz.cellsInt:Tryz.prog.cellsOf 3=1:=by kernel_rfl
set_option maxRecDepth 100000 in
theorem ziN {H:Type}{enc:TypeId × Value→H}{W:World}{n:Nat}{v:Value}{y:DataW H × List MemPlace}
  (h:DataW.trod enc Tryz.prog W 0 (fun _=>true) true n 49 [v]=some y):∃ ks,RowS W v ks:=by
 rcases open_ints Tryz.underlying49 Tryz.underlying3 Tryz.cellsInt h with⟨hcs,_⟩ |⟨x,l,c,zs,hcs,_,hl,hm,hz,_,hcell,hwz⟩
 ·simp only [List.cons.injEq,and_true] at hcs
  subst hcs
  exact⟨[],none,0,rfl,Nat.le_refl _,fun i=>by simp,fun h=>absurd h (by simp)⟩
 ·simp only [List.cons.injEq,and_true] at hcs
  subst hcs
  have hz':zs.length=c:=by simpa using hz
  have hlen:(zs.take l).length=l:=by rw [List.length_take];omega
  refine⟨zs.take l,some x,c,by rw [hlen],by rw [hlen];exact hl,fun i=>?_,fun h0=>?_⟩
  ·by_cases hi:i < (zs.take l).length
   ·rw [List.getD_eq_getElem?_getD,List.getElem?_eq_getElem hi,Option.getD_some]
    have:=hwz _ (List.mem_of_mem_take (List.getElem_mem hi))
    simp [Lit.wf,IntKind.min,IntKind.max,IntKind.signed,IntKind.bits] at this
    rw [List.getElem_take]
    omega
   ·rw [List.getD_eq_getElem?_getD,List.getElem?_eq_none (by omega)]
    simp
  ·obtain⟨blk,off,spot⟩:=x
   rw [hlen] at h0
   have h00:=hcell 0 (by omega)
   have hspot:spot=none:=by simpa [Addr.add] using World.cell?_spot h00
   subst hspot
   refine⟨blk,off,rfl,World.block_lt_of_cell? W _ h00,fun i hi=>?_⟩
   rw [hlen] at hi
   have:=hcell i (by omega)
   rw [zaA zs l i (by omega)]
   by_cases hi0:i=0
   ·subst hi0;simpa [Addr.add] using this
   ·simpa [Addr.add,hi0] using this
set_option maxRecDepth 100000 in
theorem zfl {H:Type}{enc:TypeId × Value→H}{W:World}{r:Reach}{b0:Nat}{v:Value}{d:DataW H}{p:List MemPlace}
  (hv:Value.okWide Tryz.prog W r b0 24 v) (h:DataW.Trod enc Tryz.prog W 0 (fun _=>true) true 24 v d p):
  ∃ nI go gcap rs,v=.agg #[.int .i64 nI,.slice go rs.length gcap]∧RowsS W (.slice go rs.length gcap) rs:=by
 obtain⟨c0,c1,y0,y1,m,rfl,rfl,rfl,hy0,hy1⟩:=open_agg2 Tryz.underlying24 (by kernel_rfl) Tryz.cellsGens hv h
 obtain⟨nI,e0,-,-⟩:=DataW.trod_int Tryz.underlying3 hy0
 simp only [List.cons.injEq,and_true] at e0
 subst e0
 rcases Go.Deep.open_slice1 Tryz.underlying22 Tryz.cellsIntS hy1 with⟨hcs,_⟩ |⟨a,l,c,m,n,V,D,Pl,hcs,_,hl,hm,hmm,_,hc⟩
 ·simp only [List.cons.injEq,and_true] at hcs
  subst hcs
  exact⟨nI,none,0,[],rfl,none,0,rfl,by simp,fun h=>absurd h (by simp)⟩
 ·simp only [List.cons.injEq,and_true] at hcs
  subst hcs
  have hm':l≤m:=by simp at hmm;omega
  have each:∀ i,i < l→∃ ks:List Int,RowS W (V i) ks:=fun i hi=>ziN (hc i (by omega)).2
  obtain⟨q,hq⟩:=Go.Deep.choose_lt each
  have hlen:((List.range l).map q).length=l:=by simp
  refine⟨nI,some a,c,(List.range l).map q,by rw [hlen],some a,c,rfl,by rw [hlen];exact hl,fun h0=>?_⟩
  rw [hlen] at h0
  obtain⟨k0,-⟩:=hc 0 (by omega)
  obtain⟨blk,off,spot⟩:=a
  have hsp:spot=none:=by simpa [Addr.add] using World.cell?_spot k0
  subst hsp
  refine⟨blk,off,rfl,by simpa [Addr.add] using World.block_lt_of_cell? W _ k0,fun i rs hi=>?_⟩
  obtain⟨hi',e⟩:=List.getElem?_eq_some_iff.1 hi
  rw [hlen] at hi'
  have e':rs=q i:=by simpa using e.symm
  obtain⟨c0,-⟩:=hc i (by omega)
  rw [Go.WideShapes.add_plain] at c0
  rw [e']
  exact⟨_,c0,hq i hi'⟩
end Go.Proofs.YtnkcjkpkphjecaaGreatDoor
