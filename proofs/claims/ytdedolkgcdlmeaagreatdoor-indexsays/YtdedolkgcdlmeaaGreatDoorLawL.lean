import Derived.Test.YtdedolkgcdlmeaaGreatDoorLatQ
set_option maxRecDepth 100000
set_option maxHeartbeats 4000000
set_option linter.unusedSimpArgs false
namespace Go.Proofs.YtdedolkgcdlmeaaGreatDoor
open Go.RowKit Limbs
variable {w W:World}{v u:Value}{fuel n m N k i:Nat}
theorem zkM (w:World)(v x:Value)(n nv nx:Nat)(hs:List (List Int))(p:Nat→Nat)(zs:List Int)(hv:∃ u,v=.agg #[.int .i64 (n:Int),u]∧MatN w u hs nv)(hF:FormL n hs p)(hx:VecN w x zs nx)(hz:zs.length=n)(h1:1≤n)(h4:n≤4)(hN:nx+n *(nv+2)≤90000)(hg:Gens n (InL hs) zs):
  Calls Tryz.prog 89 #[v,x] w fun e w'=>∃ P,e=.returned (.tuple #[.slice (some ⟨P,0,none⟩) hs.length hs.length,.bool true])∧VecO w w' P (muchL hs p zs) (nx+hs.length *(nv+2)+1):=
 (zdV w v x n nv nx hs p zs hv hF hx hz h1 h4 hN).mono fun _ _ ⟨_,hc⟩=>hc.elim (fun h=>h.2) (fun h=>absurd ((zbt hF.len hz).2 hg) h.1)
theorem zkL (w:World)(v x:Value)(n nv nx:Nat)(hs:List (List Int))(p:Nat→Nat)(zs:List Int)(hv:∃ u,v=.agg #[.int .i64 (n:Int),u]∧MatN w u hs nv)(hF:FormL n hs p)(hx:VecN w x zs nx)(hz:zs.length=n)(h1:1≤n)(h4:n≤4)(hN:nx+n *(nv+2)≤90000)(hg:¬ Gens n (InL hs) zs):
  Calls Tryz.prog 89 #[v,x] w fun e w'=>e=.returned (.tuple #[.slice none 0 0,.bool false])∧Below w.heap.size w w':=
 (zdV w v x n nv nx hs p zs hv hF hx hz h1 h4 hN).mono fun _ _ ⟨hb,hc⟩=>hc.elim (fun h=>absurd ((zbt hF.len hz).1 h.1) hg) (fun h=>⟨h.2,hb⟩)
def MemberPost (w:World)(n nv nx:Nat)(hs:List (List Int))(p:Nat→Nat)(zs:List Int)(e:Ending)(w':World):Prop:=
 Below w.heap.size w w'∧((Gens n (InL hs) zs∧∃ P,e=.returned (.tuple #[.slice (some ⟨P,0,none⟩) hs.length hs.length,.bool true,.nilIface])∧VecO w w' P (muchL hs p zs) (nx+hs.length *(nv+2)+1)) ∨
  (¬ Gens n (InL hs) zs∧e=.returned (.tuple #[.slice none 0 0,.bool false,.nilIface])))
theorem zjC (w:World)(v x:Value)(n nv nx:Nat)(hs:List (List Int))(p:Nat→Nat)(zs:List Int)(hv:∃ u,v=.agg #[.int .i64 (n:Int),u]∧MatN w u hs nv)(hF:FormL n hs p)(hx:VecN w x zs nx)(hz:zs.length=n)(h1:1≤n)(h4:n≤4)(hN:nx+n *(nv+2)≤90000):
  Calls Tryz.prog 41 #[v,x] w fun e w'=>MemberPost w n nv nx hs p zs e w':=by
 have HV:=hide hv;have HX:=hide hx;have HF:=hide hF
 have HG:=hide (zbt hF.len hz)
 obtain⟨u,rfl,hu⟩:=hv
 obtain⟨uo,ucap,rfl,-,-⟩:=hu
 clear hx hF
 have HB0:=hide ((Below.refl w.heap.size w).alloc zL (.cells #[.int .i64 (n:Int),.slice uo hs.length ucap] 55))
 have HC:=hide (zj w (.int .i64 (n:Int)) (.slice uo hs.length ucap) 55 _ rfl)
 have HSZ:Hid (w.heap.size<(w.alloc (.cells #[.int .i64 (n:Int),.slice uo hs.length ucap] 55)).heap.size):=by show _<_;simp
 obtain⟨c0,c1,z0,z1⟩:=HC.out
 go_enter Tryz.func41,Tryz.ntmps41
 go_wp2_with fail
 clear c0 c1 z0 z1
 generalize w.alloc (.cells #[.int .i64 (n:Int),.slice uo hs.length ucap] 55)=W0 at *
 refine(zeu W0 _ _ n nv nx hs zs (by obtain⟨u,e,h⟩:=HV.out;exact⟨⟨u,e,h.below HB0.out zL⟩,_,HF.out⟩) (by exact HX.out.below HB0.out zL) hz h1 h4).mono ?_
 rintro e w1 ⟨rfl,hb1⟩
 have HB1:=hide (HB0.out.trans (hb1.mono HB0.out.size))
 obtain⟨c0,c1,z0,z1⟩:=HC.out.later hb1 HSZ.out
 clear hb1 HC HSZ HB0
 go_wp2_with fail
 refine(zdV w1 _ _ n nv nx hs p zs (by obtain⟨u,e,h⟩:=HV.out;exact⟨u,e,h.below HB1.out zL⟩) HF.out (by exact HX.out.below HB1.out zL) hz h1 h4 hN).mono ?_
 rintro e w2 ⟨hb2,hcase⟩
 have HB2:=hide (HB1.out.trans (hb2.mono HB1.out.size))
 clear hb2 c0 c1 z0 z1
 rcases hcase with⟨hl,P,rfl,ho⟩ |⟨hl,rfl⟩
 ·have HL:=hide (HG.out.1 hl);have HO:=hide (ho.since HB1.out)
  clear hl ho
  go_wp2
  exact bodyPost_ret (v:=.tuple #[.slice (some ⟨P,0,none⟩) hs.length hs.length,.bool true,.nilIface]) (by simp [results,Tryz.results41,go_sem]) rfl ⟨HB2.out,.inl ⟨HL.out,_,rfl,HO.out⟩⟩
 ·have HL:=hide (fun h=>hl (HG.out.2 h))
  clear hl
  go_wp2
  exact bodyPost_ret (v:=.tuple #[.slice none 0 0,.bool false,.nilIface]) (by simp [results,Tryz.results41,go_sem]) rfl ⟨HB2.out,.inr ⟨HL.out,rfl⟩⟩
structure AllI (w W:World)(n:Nat)(u v:Value)(m:Nat)(rows:List (List Int))(k N:Nat):Prop where
 low:Below w.heap.size w W
 lt:w.heap.size+2<W.heap.size
 blk:∃ cs t,W.heap[w.heap.size+2]?=some (.cells cs t)
 box:Box W w.heap.size (.int .i64 (n:Int)) u
 box2:Box W (w.heap.size+1) (.int .i64 (n:Int)) v
 nil:∀ i,k≤i→i<m→W.cell? ⟨w.heap.size+2,i,none⟩=some (.slice none 0 0)
 row:∀ i,i<k→∃ Q,W.cell? ⟨w.heap.size+2,i,none⟩=some (.slice (some ⟨Q,0,none⟩) (rows.getD i []).length (rows.getD i []).length)∧VecN W (.slice (some ⟨Q,0,none⟩) (rows.getD i []).length (rows.getD i []).length) (rows.getD i []) N∧Q<W.heap.size∧Q≠w.heap.size+2
theorem AllI.start{W0:World}(hsz:W0.heap.size=w.heap.size+2)(hb:Below w.heap.size w W0)(hx:Box W0 w.heap.size (.int .i64 (n:Int)) u)(hy:Box W0 (w.heap.size+1) (.int .i64 (n:Int)) v)(m:Nat)(rows:List (List Int))(N:Nat):AllI w (W0.alloc (.cells (madeCells #[.slice none 0 0] m) 72)) n u v m rows 0 N:=by
 have hbb:=(Below.refl W0.heap.size W0).alloc zL (.cells (madeCells #[.slice none 0 0] m) 72)
 refine⟨hb.alloc hb.size _,by simp;omega,⟨_,_,by have:=heap_alloc_new W0 (.cells (madeCells #[.slice none 0 0] m) 72);rw [hsz] at this;exact this⟩,hx.later hbb (by omega),hy.later hbb (by omega),fun i _ hi=>?_,fun i hi=>absurd hi (by omega)⟩
 rw [← hsz,World.cell?_alloc_new]
 exact zfx m i hi
theorem AllI.later{W':World}{rows:List (List Int)}(h:AllI w W n u v m rows k N)(hb:Below W.heap.size W W'):AllI w W' n u v m rows k N where
 low:=h.low.trans (hb.mono h.low.size)
 lt:=zT h.lt hb.size
 blk:=by obtain⟨cs,t,e⟩:=h.blk;exact⟨cs,t,(hb.block _ (zq e)).trans e⟩
 box:=h.box.later hb (by have:=h.lt;omega)
 box2:=h.box2.later hb (by have:=h.lt;omega)
 nil:=fun i h1 h2=>(hb.cell (p:=⟨w.heap.size+2,i,none⟩) h.lt).trans (h.nil i h1 h2)
 row:=fun i hi=>by
  obtain⟨Q,e,hv,hq,hne⟩:=h.row i hi
  exact⟨Q,(hb.cell (p:=⟨w.heap.size+2,i,none⟩) h.lt).trans e,hv.below hb zL,zT hq hb.size,hne⟩
theorem AllI.thaw{rows:List (List Int)}(h:AllI w W n u v m rows k N)(i:Nat):W.frozen? ⟨w.heap.size+2,i,none⟩=false:=by
 obtain⟨cs,t,e⟩:=h.blk
 simp [World.frozen?,e]
theorem AllI.step{rows:List (List Int)}(h:AllI w W n u v m rows k N)(hk:k<m){Q:Nat}(hv:VecN W (.slice (some ⟨Q,0,none⟩) (rows.getD k []).length (rows.getD k []).length) (rows.getD k []) N)(hq:Q<W.heap.size)(hne:Q≠w.heap.size+2):
  AllI w (W.setCell ⟨w.heap.size+2,k,none⟩ (.slice (some ⟨Q,0,none⟩) (rows.getD k []).length (rows.getD k []).length)) n u v m rows (k+1) N:=by
 have hnil:=h.nil k zL hk
 have hu:∀ z,(Value.slice none 0 0)≠.int .u32 z:=fun z e=>by cases e
 refine⟨h.low.setCell (by simp) _,by simpa using h.lt,?_,h.box.other (by omega) _ _,h.box2.other (by omega) _ _,fun i h1 h2=>?_,fun i hi=>?_⟩
 ·obtain⟨cs,t,e⟩:=h.blk
  exact⟨_,t,heap_setCell_same W (w.heap.size+2) k _ _ _ e⟩
 ·exact(World.cell?_setCell_other (h:=fun e=>by simp at e <;> omega) ..).trans (h.nil i (by omega) h2)
 ·by_cases e:i=k
  ·subst e
   exact⟨Q,World.cell?_setCell_same (h:=hnil) ..,hv.other hne hnil hu,by simpa using hq,hne⟩
  ·obtain⟨Q',e',hv',hq',hne'⟩:=h.row i (by omega)
   exact⟨Q',(World.cell?_setCell_other (h:=fun e=>by simp at e <;> omega) ..).trans e',hv'.other hne' hnil hu,by simpa using hq',hne'⟩
theorem AllI.mat{rows:List (List Int)}(h:AllI w W n u v m rows m N)(hm:rows.length=m):MatN W (.slice (some ⟨w.heap.size+2,0,none⟩) m m) rows N:=by
 subst hm
 refine⟨_,_,rfl,Nat.le_refl _,fun h0=>⟨_,_,rfl,h.lt,fun i zs hi=>?_⟩⟩
 obtain⟨hi',e⟩:=List.getElem?_eq_some_iff.1 hi
 obtain⟨Q,e1,hv,-,-⟩:=h.row i hi'
 rw [zk hi',e] at e1 hv
 exact⟨_,by rw [Nat.zero_add];exact e1,hv⟩
theorem zkx (m:Nat)(hm:m≤1000)(W:World):(Instr.makeSlice 23 (.int .i64 (m:Int)) (.int .i64 (m:Int))).run Tryz.prog W=.ok (.slice (some ⟨W.heap.size,0,none⟩) m m) (W.alloc (.cells (madeCells #[.slice none 0 0] m) 72)):=by
 obtain⟨i0,hi,hz0,hz1,hz2⟩:=info_parts Tryz.infoVec
 have h:=run_make (P:=Tryz.prog) W 23 72 i0 (.slice none 0 0) (by kernel_rfl) hi hz0 .i64 .i64 m m (by omega) (by omega) (by rw [hz2];omega) (by omega)
 rw [hz1,Int.toNat_natCast,Nat.mul_one] at h
 exact h
def AllPost (w:World)(n nv mv:Nat)(hs ks:List (List Int))(p:Nat→Nat)(e:Ending)(w':World):Prop:=
 Below w.heap.size w w'∧(((∀ us∈hs,Gens n (InL ks) us)∧∃ m,e=.returned (.tuple #[m,.bool true])∧MatN w' m (hs.map (muchL ks p)) (nv+ks.length *(mv+2)+1)) ∨
  ((¬ ∀ us∈hs,Gens n (InL ks) us)∧e=.returned (.tuple #[.slice none 0 0,.bool false])))
theorem zej (w:World)(va vb:Value)(n nv mv:Nat)(hs ks:List (List Int))(p:Nat→Nat)(ha:LatN w va n hs nv)(hb:∃ u,vb=.agg #[.int .i64 (n:Int),u]∧MatN w u ks mv)(hF:FormL n ks p)(h1:1≤n)(h4:n≤4)(hN:nv+n *(mv+2)≤90000):
  Calls Tryz.prog 84 #[va,vb] w fun e w'=>AllPost w n nv mv hs ks p e w':=by
 have HF:=hide hF
 obtain⟨⟨u,rfl,hu⟩,q,hG⟩:=ha
 obtain⟨v,rfl,hv⟩:=hb
 have HU:=hide hu;have HV:=hide hv;have HG:=hide hG
 have hsh:=hG.short
 have HML:Hid ((hs.map (muchL ks p)).length=hs.length):=List.length_map ..
 obtain⟨uo,ucap,rfl,-,-⟩:=hu
 obtain⟨vo,vcap,rfl,-,-⟩:=hv
 clear hF hG
 have hmk:=zkx hs.length (by omega)
 have HX:=hide (zaR w (.int .i64 (n:Int)) (.slice uo hs.length ucap) (.int .i64 (n:Int)) (.slice vo ks.length vcap) 55 55)
 have HBB:=hide ((Below.refl (w.heap.size+2) ((w.alloc (.cells #[.int .i64 (n:Int),.slice uo hs.length ucap] 55)).alloc (.cells #[.int .i64 (n:Int),.slice vo ks.length vcap] 55))).alloc (by simp) (.cells (madeCells #[.slice none 0 0] hs.length) 72))
 have HS:Hid (AllI w (((w.alloc (.cells #[.int .i64 (n:Int),.slice uo hs.length ucap] 55)).alloc (.cells #[.int .i64 (n:Int),.slice vo ks.length vcap] 55)).alloc (.cells (madeCells #[.slice none 0 0] hs.length) 72)) n (.slice uo hs.length ucap) (.slice vo ks.length vcap) hs.length (hs.map (muchL ks p)) 0 (nv+ks.length *(mv+2)+1)):=by
  exact hide (AllI.start (by simp) HX.out.2.2.1 HX.out.1 HX.out.2.1 _ _ _)
 obtain⟨⟨c0,c1,z0,z1⟩,⟨d0,d1,y0,y1⟩,-,-⟩:=HX.out
 obtain⟨e0,e1,-,-⟩:=HS.out.box
 go_enter Tryz.func84,Tryz.ntmps84
 go_wp2
 clear hmk c0 c1 z0 z1 d0 d1 y0 y1 e0 e1 HX HBB
 go_loopw [17] (fun i wr=>∃ k:Nat,k≤hs.length∧i=.int .i64 k∧Hid (AllI w wr n (.slice uo hs.length ucap) (.slice vo ks.length vcap) hs.length (hs.map (muchL ks p)) k (nv+ks.length *(mv+2)+1))∧Hid (∀ us∈hs.take k,Gens n (InL ks) us)) (fun i _=>hs.length-(intOf i).toNat)
 case atStart=>exact⟨0,Nat.zero_le _,rfl,HS,fun us h=>by simp at h⟩
 case round=>
  clear HS
  obtain⟨k,hk,rfl,HI,HALL⟩:=hrel
  by_cases hkl:k<hs.length
  ·have hmat:=HU.out.below HI.out.low zL
   obtain⟨rb,roff,_,e,lr,ru,cu,hru⟩:=hmat.at k hkl
   simp only [Value.slice.injEq,true_and] at e
   obtain⟨rfl,rfl⟩:=e
   clear hmat
   have HR:=hide hru
   have HM:=hide (HV.out.below HI.out.low zL)
   have HUL:Hid (hs[k].length=n):=HG.out.len _ (List.getElem_mem hkl)
   have HIN:=hide (List.getElem_mem hkl)
   have HTK:Hid (hs.take (k+1)=hs.take k++[hs[k]]):=List.take_succ_eq_append_getElem hkl
   have HGD:Hid ((hs.map (muchL ks p)).getD k []=muchL ks p hs[k]):=by
    show _=_
    rw [zk (by rw [List.length_map];exact hkl),List.getElem_map]
   have HLG:=hide (zbt (v:=hs[k]) HF.out.len HUL.out)
   generalize hs[k]=us at *
   obtain⟨ruo,rucap,rfl,-,-⟩:=hru
   obtain⟨c0,c1,z0,z1⟩:=HI.out.box
   obtain⟨d0,d1,y0,y1⟩:=HI.out.box2
   by_cases hgn:Gens n (InL ks) us
   ·have HGN:=hide hgn
    clear hgn
    go_wp2_with fail
    go_region_held3 (fun w'=>w'.cell? ⟨w.heap.size,0,none⟩=some (.int .i64 (n:Int))∧w'.cell? ⟨w.heap.size,1,none⟩=some (.slice (some ⟨rb,roff,none⟩) hs.length ucap)∧w'.cell? ⟨w.heap.size+1,0,none⟩=some (.int .i64 (n:Int))∧w'.cell? ⟨w.heap.size+1,1,none⟩=some (.slice vo ks.length vcap)∧w'.cell? ⟨rb,roff+k,none⟩=some (.slice ruo us.length rucap)) (go_keep)
     (first
      |(go_at_call 89;refine(zkM _ _ _ n mv nv ks p us (by exact⟨_,rfl,HM.out.below (Below.refl _ _).drew zL⟩) HF.out (by exact HR.out.below (Below.refl _ _).drew zL) HUL.out h1 h4 hN HGN.out).mono ?_;rintro e w2 ⟨P,rfl,ho⟩;have hb2:=ho.below;have HB2:=hide (show Below wr.heap.size wr w2 from(Below.refl _ _).drew.trans (hb2.mono (by simp)));have HO2:=hide ho;have HI2:=hide (HI.out.later HB2.out);obtain⟨p0,p1,-,-⟩:=HI2.out.box;obtain⟨p2,p3,-,-⟩:=HI2.out.box2;have p4:=(HB2.out.cell (p:=⟨rb,roff+k,none⟩) lr).trans cu;clear hb2 ho))
    have HN:Hid (AllI w (w2.setCell ⟨w.heap.size+2,k,none⟩ (.slice (some ⟨P,0,none⟩) ks.length ks.length)) n (.slice (some ⟨rb,roff,none⟩) hs.length ucap) (.slice vo ks.length vcap) hs.length (hs.map (muchL ks p)) (k+1) (nv+ks.length *(mv+2)+1)):=by
     have hst:=HI2.out.step hkl (Q:=P) (by rw [HGD.out];exact HO2.out.vec) HO2.out.lt (by have:=HO2.out.low;have:=HI.out.lt;simp at *;omega)
     rw [HGD.out,zaD] at hst
     exact hide hst
    have HAL:Hid (∀ us∈hs.take (k+1),Gens n (InL ks) us):=by
     intro us' h
     rw [HTK.out] at h
     rcases List.mem_append.1 h with h | h
     ·exact HALL.out us' h
     ·rw [List.mem_singleton.1 h];exact HGN.out
    have k0:=HI2.out.nil k zL hkl
    have t0:=HI2.out.thaw k
    clear HI HI2 HO2 HB2 HALL HTK HR HM p0 p1 p2 p3 p4 c0 c1 z0 z1 d0 d1 y0 y1 cu
    go_wp2
    go_roundw
    case rel=>exact⟨k+1,by omega,by go_num,HN,HAL⟩
    case measure=>simp [intOf];omega
   ·have HGN:=hide hgn
    clear hgn
    go_wp2_with fail
    go_region_held3 (fun w'=>w'.cell? ⟨w.heap.size,0,none⟩=some (.int .i64 (n:Int))∧w'.cell? ⟨w.heap.size,1,none⟩=some (.slice (some ⟨rb,roff,none⟩) hs.length ucap)∧w'.cell? ⟨w.heap.size+1,0,none⟩=some (.int .i64 (n:Int))∧w'.cell? ⟨w.heap.size+1,1,none⟩=some (.slice vo ks.length vcap)∧w'.cell? ⟨rb,roff+k,none⟩=some (.slice ruo us.length rucap)) (go_keep)
     (first
      |(go_at_call 89;refine(zkL _ _ _ n mv nv ks p us (by exact⟨_,rfl,HM.out.below (Below.refl _ _).drew zL⟩) HF.out (by exact HR.out.below (Below.refl _ _).drew zL) HUL.out h1 h4 hN HGN.out).mono ?_;rintro e w2 ⟨rfl,hb2⟩;have HB2:=hide (show Below wr.heap.size wr w2 from(Below.refl _ _).drew.trans (hb2.mono (by simp)));have HI2:=hide (HI.out.later HB2.out);obtain⟨p0,p1,-,-⟩:=HI2.out.box;obtain⟨p2,p3,-,-⟩:=HI2.out.box2;have p4:=(HB2.out.cell (p:=⟨rb,roff+k,none⟩) lr).trans cu;clear hb2))
    have HBL:=hide HI2.out.low
    have HNO:=hide (fun h:∀ us∈hs,Gens n (InL ks) us=>HGN.out (h us HIN.out))
    clear HI HI2 HB2 HALL HTK HR HM p0 p1 p2 p3 p4 c0 c1 z0 z1 d0 d1 y0 y1 cu
    go_wp2
    exact bodyPost_ret (v:=.tuple #[.slice none 0 0,.bool false]) (by simp [results,Tryz.results84,go_sem]) rfl ⟨HBL.out,.inr ⟨HNO.out,rfl⟩⟩
  ·obtain rfl:k=hs.length:=by omega
   have HFI:Hid (∀ us∈hs,Gens n (InL ks) us):=by
    have:=HALL.out
    rw [List.take_length] at this
    exact this
   have HMT:=hide (HI.out.mat HML.out)
   have HBL:=hide HI.out.low
   clear HI
   go_wp2
   exact bodyPost_ret (v:=.tuple #[.slice (some ⟨w.heap.size+2,0,none⟩) hs.length hs.length,.bool true]) (by simp [results,Tryz.results84,go_sem]) rfl ⟨HBL.out,.inl ⟨HFI.out,_,rfl,HMT.out⟩⟩
open Go
section
variable {P:Program}{ops:Array Oper}{Q:Exit→Act→World→Prop}{md:Region.Mode}{S:World→Prop}{A:Nat→Bool}
def wpUp (P:Program)(md:Region.Mode)(ops:Array Oper)(Q:Exit→Act→World→Prop)(S:World→Prop)(A:Nat→Bool):Nat→Array Bool→Act→World→Prop
 | 0=>fun listed a w=>Region.ready md ops listed=[]∧Q .normal a w
 | fuel+1=>fun listed a w=>(Region.ready md ops listed=[]→Q .normal a w) ∧
   ∀ j,j∈Region.ready md ops listed→wpOp P ops Q j (fun a' w'=>(A j=true→S w')∧wpUp P md ops Q S A fuel (listed.setIfInBounds j true) a' w') a w
theorem zg5 (fuel:Nat):∀(listed:Array Bool) (a:Act) (w:World),wpUp P md ops Q S A fuel listed a w→wpAny P md ops Q fuel listed a w:=by
 induction fuel with
 | zero=>exact fun _ _ _ h=>h
 | succ fuel ih=>exact fun _ _ _ h=>⟨h.1,fun j hj=>wpOp_mono (fun a' w' h'=>ih _ a' w' h'.2) (h.2 j hj)⟩
def waitsA (md:Region.Mode)(ops:Array Oper)(A:Nat→Bool)(listed:Array Bool)(i:Nat)(ds:List Nat):Bool:=
 ((List.range ops.size).all fun j=>A j || ds.contains j || listed.getD j false) &&
  ds.all fun j=>!listed.getD j false && match ops[j]? with
   | some o=>o.after.any fun e=>Region.binds md e && (e.on==i || ds.contains e.on)
   | none=>true
theorem zls{oi:Oper}(hi:ops[i]?=some oi)(hsel:∀(j:Nat) (o:Oper) cs b,ops[j]?=some o→o.op≠.select cs b)
  (hQ:∀ c a w,Q (.panic c) (a.put oi.dst v) w→Q (.panic c) a w) (ds:List Nat) (hds:∀ j,j∈ds→∀ o,ops[j]?=some o→∃ e∈o.after,Region.binds md e=true∧(e.on=i∨e.on∈ds)) (fuel:Nat):
  ∀(listed:Array Bool) (a:Act) (w:World),(∀ j o,ops[j]?=some o→listed.getD j true=false→j ∉ ds→A j=true) →
   (∀ j oj,ops[j]?=some oj→j≠i→listed.getD j true=false→(∀ e∈oj.after,Region.binds md e=true→e.on≠i)→oi.apart ops oj=true) →
   i∈Region.ready md ops listed→(∀ j∈ds,listed.getD j false=false)→YieldsIf P ops S oi v a→S w →
   wpUp P md ops Q S A fuel (listed.setIfInBounds i true) (a.put oi.dst v) w→wpUp P md ops Q S A (fuel+1) listed a w:=by
 induction fuel with
 | zero=>
  intro listed a w _ _ hr _ hy hS H
  refine⟨fun h0=>absurd hr (by rw [h0];exact List.not_mem_nil),fun j hj=>?_⟩
  by_cases e:j=i
  ·subst e;exact hy.wpOp hi hS ⟨fun _=>hS,H⟩
  ·have:=ready_mono hj e
   rw [H.1] at this
   cases this
 | succ fuel ih=>
  intro listed a w hlow hfree hr hun hy hS H
  refine⟨fun h0=>absurd hr (by rw [h0];exact List.not_mem_nil),fun j hj=>?_⟩
  by_cases e:j=i
  ·subst e;exact hy.wpOp hi hS ⟨fun _=>hS,H⟩
  ·obtain⟨hj0,oj,hoj,hall⟩:=mem_ready.1 hj
   have hi0:=(mem_ready.1 hr).1
   have hi1:listed.getD i false=true→False:=fun h=>by
    by_cases hl:i<listed.size
    ·simp [hl] at hi0 h;rw [hi0] at h;cases h
    ·simp [Array.getElem?_eq_none (Nat.le_of_not_lt hl)] at h
   have hnd:j ∉ ds:=fun hd=>by
    obtain⟨ed,hed,hbd,hon⟩:=hds j hd oj hoj
    have h1:=hall ed hed hbd
    rcases hon with hon | hon
    ·rw [hon] at h1;exact hi1 h1
    ·rw [hun _ hon] at h1;cases h1
   have hnot:∀ ed∈oj.after,Region.binds md ed=true→ed.on≠i:=fun ed hed hbd heq=>hi1 (by have:=hall ed hed hbd;rwa [heq] at this)
   have h2:=wpOp_putIf hoj (hfree j oj hoj e hj0 hnot) (fun cs b=>hsel i oi cs b hi) (fun cs b=>hsel j oj cs b hoj) hQ hy (H.2 j (ready_mono hj e))
   refine wpOp_mono (fun a' w' h3=>?_) h2
   have hS':=h3.2.1 (hlow j oj hoj hj0 hnd)
   have hback:∀ m,(listed.setIfInBounds j true).getD m true=false→listed.getD m true=false:=fun m hmu=>by
    by_cases ejm:j=m
    ·subst ejm;exact hj0
    ·rwa [getD_set_ne true ejm] at hmu
   refine⟨h3.2.1,ih (listed.setIfInBounds j true) a' w' (fun m om hm hmu=>hlow m om hm (hback m hmu)) (fun m om hm hmi hmu hmn=>hfree m om hm hmi (hback m hmu) hmn) (ready_mono hr (Ne.symm e)) (fun d hd=>?_) h3.1 hS' ?_⟩
   ·rw [getD_set_ne (i:=j) (j:=d) false (fun e'=>hnd (by rw [e'];exact hd))]
    exact hun d hd
   ·rw [Array.setIfInBounds_comm _ _ e]
    exact h3.2.2
theorem zlt{oi:Oper}(hi:ops[i]?=some oi)(hsel:∀(j:Nat) (o:Oper) cs b,ops[j]?=some o→o.op≠.select cs b)
  (hQ:∀ c a w,Q (.panic c) (a.put oi.dst v) w→Q (.panic c) a w) (hA:A i=false) (fuel:Nat):
  ∀(listed:Array Bool) (a:Act) (w:World),
   (∀ j oj,ops[j]?=some oj→j≠i→listed.getD j true=false→(∀ e∈oj.after,Region.binds md e=true→e.on≠i)→oi.apart ops oj=true) →
   i∈Region.ready md ops listed→YieldsIf P ops (fun _=>True) oi v a →
   wpUp P md ops Q S A fuel (listed.setIfInBounds i true) (a.put oi.dst v) w→wpUp P md ops Q S A (fuel+1) listed a w:=by
 have hno:A i=true→S=S→∀ w,S w:=fun h=>by rw [hA] at h;cases h
 induction fuel with
 | zero=>
  intro listed a w _ hr hy H
  refine⟨fun h0=>absurd hr (by rw [h0];exact List.not_mem_nil),fun j hj=>?_⟩
  by_cases e:j=i
  ·subst e;exact hy.wpOp hi trivial ⟨fun h=>hno h rfl w,H⟩
  ·have:=ready_mono hj e
   rw [H.1] at this
   cases this
 | succ fuel ih=>
  intro listed a w hfree hr hy H
  refine⟨fun h0=>absurd hr (by rw [h0];exact List.not_mem_nil),fun j hj=>?_⟩
  by_cases e:j=i
  ·subst e;exact hy.wpOp hi trivial ⟨fun h=>hno h rfl w,H⟩
  ·obtain⟨hj0,oj,hoj,hall⟩:=mem_ready.1 hj
   have hi0:=(mem_ready.1 hr).1
   have hi1:listed.getD i false=true→False:=fun h=>by
    by_cases hl:i<listed.size
    ·simp [hl] at hi0 h;rw [hi0] at h;cases h
    ·simp [Array.getElem?_eq_none (Nat.le_of_not_lt hl)] at h
   have hnot:∀ ed∈oj.after,Region.binds md ed=true→ed.on≠i:=fun ed hed hbd heq=>hi1 (by have:=hall ed hed hbd;rwa [heq] at this)
   have h2:=wpOp_putIf hoj (hfree j oj hoj e hj0 hnot) (fun cs b=>hsel i oi cs b hi) (fun cs b=>hsel j oj cs b hoj) hQ hy (H.2 j (ready_mono hj e))
   refine wpOp_mono (fun a' w' h3=>?_) h2
   refine⟨h3.2.1,ih (listed.setIfInBounds j true) a' w' (fun m om hm hmi hmu hmn=>hfree m om hm hmi ?_ hmn) (ready_mono hr (Ne.symm e)) h3.1 ?_⟩
   ·by_cases ejm:j=m
    ·subst ejm;exact hj0
    ·rwa [getD_set_ne true ejm] at hmu
   ·rw [Array.setIfInBounds_comm _ _ e]
    exact h3.2.2
theorem zlA {listed:Array Bool}{ds:List Nat}(h:waitsA md ops A listed i ds=true):
  (∀ j o,ops[j]?=some o→listed.getD j true=false→j ∉ ds→A j=true)∧(∀ j∈ds,listed.getD j false=false)∧∀ j,j∈ds→∀ o,ops[j]?=some o→∃ e∈o.after,Region.binds md e=true∧(e.on=i∨e.on∈ds):=by
 simp only [waitsA,Bool.and_eq_true,List.all_eq_true] at h
 refine⟨fun j o hj hl hn=>?_,fun j hj=>?_,fun j hj o ho=>?_⟩
 ·have h1:=h.1 j (List.mem_range.2 (Array.getElem?_eq_some_iff.1 hj).1)
  simp only [Bool.or_eq_true,List.contains_iff_mem] at h1
  rcases h1 with(h1 | h1) | h1
  ·exact h1
  ·exact absurd h1 hn
  ·by_cases hs:j<listed.size
   ·simp [hs] at hl h1;rw [hl] at h1;cases h1
   ·simp [Array.getElem?_eq_none (Nat.le_of_not_lt hs)] at h1
 ·have:=(h.2 j hj).1
  simpa using this
 ·have h2:=(h.2 j hj).2
  rw [ho] at h2
  obtain⟨e,he,hb⟩:=Array.any_eq_true'.1 h2
  simp only [Bool.and_eq_true,Bool.or_eq_true,beq_iff_eq,List.contains_iff_mem] at hb
  exact⟨e,he,hb.1,hb.2⟩
theorem zlv (i d:Nat)(ds:List Nat){oi:Oper}{listed:Array Bool}{a:Act}(hi:ops[i]?=some oi)(hd:oi.dst=some d)
  (hs:Region.noSelect ops=true) (hf:Region.free md ops listed i=true) (hr:(Region.ready md ops listed).contains i=true) (hw:waitsA md ops A listed i ds=true)
  (hQ:∀ c a w,Q (.panic c) (a.put (some d) v) w→Q (.panic c) a w) (hwt:Region.wanted oi (yielded ops a.tmps)=true) (hy:∀ w,S w→(execOp a.eval oi).run P w=.ok (.value v) w) (hS:S w)
  (h:wpUp P md ops Q S A fuel (listed.setIfInBounds i true) (a.put (some d) v) w):wpUp P md ops Q S A (fuel+1) listed a w:=
 have hw':=zlA hw
 zls hi (Region.noSelect_spec hs) (by rw [hd];exact hQ) ds hw'.2.2 fuel listed a w hw'.1 (Region.free_spec hi hf) (by simpa using hr)
  hw'.2.1 (.inl ⟨hwt,hy⟩) hS (by rw [hd];exact h)
theorem zi (i d:Nat)(ds:List Nat){oi:Oper}{listed:Array Bool}{a:Act}(h:wpUp P md ops Q S A fuel (listed.setIfInBounds i true) (a.put (some d) v) w)(hi:ops[i]?=some oi:=by rfl)(hd:oi.dst=some d:=by rfl)(hs:Region.noSelect ops=true:=by kernel_rfl)(hf:Region.free md ops listed i=true:=by kernel_rfl)(hr:(Region.ready md ops listed).contains i=true:=by kernel_rfl)(hw:waitsA md ops A listed i ds=true:=by kernel_rfl)(hQ:∀ c a w,Q (.panic c) (a.put (some d) v) w→Q (.panic c) a w:=by exact fun _ _ _ h=>h)(hwt:Region.wanted oi (yielded ops a.tmps)=true:=by rfl)(hy:∀ w,S w→(execOp a.eval oi).run P w=.ok (.value v) w:=by intro w hSw;(try dsimp only at hSw);go_simp;with_reducible rfl)(hS:S w:=by assumption):wpUp P md ops Q S A (fuel+1) listed a w:=zlv i d ds hi hd hs hf hr hw hQ hwt hy hS h
theorem zlu (i d:Nat){oi:Oper}{listed:Array Bool}{a:Act}(hi:ops[i]?=some oi)(hd:oi.dst=some d)
  (hs:Region.noSelect ops=true) (hf:Region.free md ops listed i=true) (hr:(Region.ready md ops listed).contains i=true) (hA:A i=false)
  (hQ:∀ c a w,Q (.panic c) (a.put (some d) v) w→Q (.panic c) a w) (hwt:Region.wanted oi (yielded ops a.tmps)=true) (hy:∀ w,(execOp a.eval oi).run P w=.ok (.value v) w)
  (h:wpUp P md ops Q S A fuel (listed.setIfInBounds i true) (a.put (some d) v) w):wpUp P md ops Q S A (fuel+1) listed a w:=
 zlt hi (Region.noSelect_spec hs) (by rw [hd];exact hQ) hA fuel listed a w (Region.free_spec hi hf) (by simpa using hr) (.inl ⟨hwt,fun w _=>hy w⟩) (by rw [hd];exact h)
theorem zx (i d:Nat){oi:Oper}{listed:Array Bool}{a:Act}(h:wpUp P md ops Q S A fuel (listed.setIfInBounds i true) (a.put (some d) v) w)(hi:ops[i]?=some oi:=by rfl)(hd:oi.dst=some d:=by rfl)(hs:Region.noSelect ops=true:=by kernel_rfl)(hf:Region.free md ops listed i=true:=by kernel_rfl)(hr:(Region.ready md ops listed).contains i=true:=by kernel_rfl)(hA:A i=false:=by kernel_rfl)(hQ:∀ c a w,Q (.panic c) (a.put (some d) v) w→Q (.panic c) a w:=by exact fun _ _ _ h=>h)(hwt:Region.wanted oi (yielded ops a.tmps)=true:=by rfl)(hy:∀ w,(execOp a.eval oi).run P w=.ok (.value v) w:=by intro w;go_simp;with_reducible rfl):wpUp P md ops Q S A (fuel+1) listed a w:=zlu i d hi hd hs hf hr hA hQ hwt hy h
theorem zM (i:Nat){o:Oper}{listed:Array Bool}{a:Act}(hr:Region.ready md ops listed=[i])(ho:ops[i]?=some o)
  (h:∀ K':Act→World→Prop,Shut (∀ a w,(A i=true→S w)→wpUp P md ops Q S A fuel (listed.setIfInBounds i true) a w→K' a w)→if Region.wanted o (yielded ops a.tmps)=true then Oper.wp P o a w K' Q else K' (a.put o.dst undef) w):
  wpUp P md ops Q S A (fuel+1) listed a w:=by
 refine⟨fun h0=>absurd (hr.symm.trans h0) (by simp),fun j hj=>?_⟩
 rw [hr] at hj
 obtain rfl:j=i:=by simpa using hj
 exact wpOp_step ho (fun K' hK=>h K' (fun a w hS hW=>hK a w ⟨hS,hW⟩))
theorem zbI{listed:Array Bool}{a:Act}(hr:Region.ready md ops listed=[])(h:Q .normal a w):wpUp P md ops Q S A fuel listed a w:=by
 cases fuel with
 | zero=>exact⟨hr,h⟩
 | succ fuel=>exact⟨fun _=>h,fun j hj=>by rw [hr] at hj;cases hj⟩
theorem zbJ{id:Nat}{a:Act}(hm:P.follows .mixedOrders=true)(hS:S w.drew)
  (h:S w.drew→wpUp P .any ops Q S A ops.size (Array.replicate ops.size false) a w.drew):(Code.region id ops true).wp P Q a w:=
 wp_region_any hm (zg5 _ _ _ _ (h hS))
end
open Digs
theorem txtTwoL:txt 2=[50]:=by
 unfold txt Lib.itoa
 rw [if_neg (by decide),show(2:Int).toNat=2 from rfl,Lib.decDigits,dif_pos (by decide)]
 rfl
theorem txtOneL:txt 1=[49]:=by
 unfold txt Lib.itoa
 rw [if_neg (by decide),show(1:Int).toNat=1 from rfl,Lib.decDigits,dif_pos (by decide)]
 rfl
theorem text21L:vtxt [2,1]=[40,50,32,49,41]:=by
 unfold vtxt
 rw [List.map_cons,List.map_cons,List.map_nil,txtTwoL,txtOneL]
 rfl
theorem zcz:FormL 2 [[2,0],[0,3]] (fun k=>k):=by
 have two:∀ i:Nat,i<[[(2:Int),0],[0,3]].length→i=0∨i=1:=fun i hi=>by
  simp only [List.length_cons,List.length_nil] at hi
  omega
 refine⟨fun r hr=>?_,⟨fun i k hik _=>hik,fun i hi=>?_,fun i b hi hb=>?_,fun i hi=>?_,fun i k hik hk=>?_⟩⟩
 ·simp only [List.mem_cons,List.mem_nil_iff,or_false] at hr
  rcases hr with rfl | rfl <;> rfl
 ·rcases two i hi with rfl | rfl <;> decide
 ·rcases two i hi with rfl | rfl
  ·exact absurd hb (Nat.not_lt_zero b)
  ·obtain rfl:b=0:=by omega
   rfl
 ·rcases two i hi with rfl | rfl <;> decide
 ·rcases two k hk with rfl | rfl
  ·exact absurd hik (Nat.not_lt_zero i)
  ·obtain rfl:i=0:=by omega
   decide
theorem ziW:Gens 2 (InL [[2,0],[0,3]]) [4,3]:=by
 refine(zbt zcz.len rfl).1 ((zdU zcz rfl).2 ⟨fun k hk=>?_,by decide⟩)
 simp only [List.length_cons,List.length_nil] at hk
 rcases(by omega:k=0∨k=1) with rfl | rfl <;> decide
theorem zjG:muchL [[2,0],[0,3]] (fun k=>k) [4,3]=[2,1]:=by decide
theorem zdM (W:World)(x y:Int)(hx:-9223372036854775808≤x∧x≤9223372036854775807)(hy:-9223372036854775808≤y∧y≤9223372036854775807):RowS (W.alloc (.cells #[.int .i64 x,.int .i64 y] 3)) (.slice (some ⟨W.heap.size,0,none⟩) 2 2) [x,y]:=by
 refine⟨_,_,rfl,Nat.le_refl _,fun i=>?_,fun _=>⟨_,_,rfl,by simp,fun i hi=>?_⟩⟩
 ·match i with
  | 0=>exact hx
  | 1=>exact hy
  | i+2=>simp
 ·match i,hi with
  | 0,_=>rw [World.cell?_alloc_new];rfl
  | 1,_=>rw [World.cell?_alloc_new];rfl
theorem zkr (w:World):RowsS (((w.alloc (.cells #[.int .i64 2,.int .i64 0] 3)).alloc (.cells #[.int .i64 0,.int .i64 3] 3)).alloc (.cells #[.slice (some ⟨w.heap.size,0,none⟩) 2 2,.slice (some ⟨w.heap.size+1,0,none⟩) 2 2] 38)) (.slice (some ⟨w.heap.size+2,0,none⟩) 2 2) [[2,0],[0,3]]:=by
 have e1:(w.alloc (.cells #[.int .i64 2,.int .i64 0] 3)).heap.size=w.heap.size+1:=by simp
 have e2:((w.alloc (.cells #[.int .i64 2,.int .i64 0] 3)).alloc (.cells #[.int .i64 0,.int .i64 3] 3)).heap.size=w.heap.size+2:=by simp
 have r1:=zdM w 2 0 (by decide) (by decide)
 have r2:=zdM (w.alloc (.cells #[.int .i64 2,.int .i64 0] 3)) 0 3 (by decide) (by decide)
 rw [e1] at r2
 have b2:Below (w.alloc (.cells #[.int .i64 2,.int .i64 0] 3)).heap.size (w.alloc (.cells #[.int .i64 2,.int .i64 0] 3)) ((w.alloc (.cells #[.int .i64 2,.int .i64 0] 3)).alloc (.cells #[.int .i64 0,.int .i64 3] 3)):=(Below.refl _ _).alloc zL _
 have b3:Below ((w.alloc (.cells #[.int .i64 2,.int .i64 0] 3)).alloc (.cells #[.int .i64 0,.int .i64 3] 3)).heap.size ((w.alloc (.cells #[.int .i64 2,.int .i64 0] 3)).alloc (.cells #[.int .i64 0,.int .i64 3] 3)) (((w.alloc (.cells #[.int .i64 2,.int .i64 0] 3)).alloc (.cells #[.int .i64 0,.int .i64 3] 3)).alloc (.cells #[.slice (some ⟨w.heap.size,0,none⟩) 2 2,.slice (some ⟨w.heap.size+1,0,none⟩) 2 2] 38)):=(Below.refl _ _).alloc zL _
 refine⟨_,_,rfl,Nat.le_refl _,fun _=>⟨_,_,rfl,by simp,fun i r hi=>?_⟩⟩
 match i,hi with
 | 0,hi=>
  obtain rfl:=zI hi
  refine⟨.slice (some ⟨w.heap.size,0,none⟩) 2 2,?_,(r1.below b2 zL).below b3 zL⟩
  rw [← e2,World.cell?_alloc_new];rfl
 | 1,hi=>
  obtain rfl:=zI hi
  refine⟨.slice (some ⟨w.heap.size+1,0,none⟩) 2 2,?_,r2.below b3 zL⟩
  rw [← e2,World.cell?_alloc_new];rfl
theorem zjg (w:World)(ht:Tab w):Calls Tryz.prog 21 #[] w fun e w'=>e=.returned (.bool true)∧Below w.heap.size w w':=by
 have HT:=hide ht
 have HRW:=hide (zkr w)
 have HB3:Hid (Below w.heap.size w (((w.alloc (.cells #[.int .i64 2,.int .i64 0] 3)).alloc (.cells #[.int .i64 0,.int .i64 3] 3)).alloc (.cells #[.slice (some ⟨w.heap.size,0,none⟩) 2 2,.slice (some ⟨w.heap.size+1,0,none⟩) 2 2] 38))):=(((Below.refl w.heap.size w).alloc zL _).alloc (by simp) _).alloc (by simp;omega) _
 clear ht
 go_enter Tryz.func21,Tryz.ntmps21
 go_wp2_with fail
 generalize (((w.alloc (.cells #[.int .i64 2,.int .i64 0] 3)).alloc (.cells #[.int .i64 0,.int .i64 3] 3)).alloc (.cells #[.slice (some ⟨w.heap.size,0,none⟩) 2 2,.slice (some ⟨w.heap.size+1,0,none⟩) 2 2] 38))=W3 at *
 refine(zfy W3 2 _ _ [[2,0],[0,3]] (by exact HRW.out)).mono ?_
 rintro e w4 ⟨hb4,hcase⟩
 rcases hcase with⟨hno,-⟩ |⟨-,u,m,hs,rfl,hL,hA,-⟩
 ·exact absurd hno (by decide)
 obtain⟨⟨u',eu,hm⟩,p,hF⟩:=hL
 simp only [Value.agg.injEq,Array.mk.injEq,List.cons.injEq,and_true] at eu
 obtain⟨-,rfl⟩:=eu
 obtain rfl:hs=[[2,0],[0,3]]:=zeZ hF zcz hA
 obtain⟨uo,uc,rfl,-,-⟩:=id hm
 have hN4:=(Below.refl w4.heap.size w4).alloc zL (.cells #[.int .i64 2,.slice uo 2 uc] 55)
 have HMB:Hid (MatN (w4.alloc (.cells #[.int .i64 2,.slice uo 2 uc] 55)) (.slice uo 2 uc) [[2,0],[0,3]] 6):=hm.below hN4 zL
 have HX4:=hide (zj w4 (.int .i64 2) (.slice uo 2 uc) 55 _ rfl)
 have HLB:Hid (w4.heap.size<(w4.alloc (.cells #[.int .i64 2,.slice uo 2 uc] 55)).heap.size):=by show _<_;simp
 have HB5:=hide (HB3.out.trans ((hb4.trans (hN4.mono hb4.size)).mono HB3.out.size))
 clear hb4 hF hA hm hN4
 try rw [show([[2,0],[0,3]]:List (List Int)).length=2 from rfl]
 obtain⟨c0,c1,-,-⟩:=HX4.out
 go_wp2_with fail
 generalize (w4.alloc (.cells #[.int .i64 2,.slice uo 2 uc] 55))=W5 at *
 generalize w4.heap.size=B at *
 refine zbJ (A:=fun _=>true) (S:=(fun w'=>w'.cell? ⟨B,0,none⟩=some (.int .i64 2)∧w'.cell? ⟨B,1,none⟩=some (.slice uo 2 uc))) (by kernel_rfl) (by exact⟨c0,c1⟩) (fun hHeld=>?_)
 refine zi 0 19 [] ?_
 try simp only [zA]
 refine zM 1 (by kernel_rfl) rfl (fun K hK=>?_)
 go_simp
 have hbA:Below W5.heap.size W5 (W5.drew.alloc (.cells #[.int .i64 4,.int .i64 3] 3)):=(Below.refl _ _).drew.alloc zL _
 have d0:=(hbA.cell (p:=⟨B,0,none⟩) HLB.out).trans c0;have d1:=(hbA.cell (p:=⟨B,1,none⟩) HLB.out).trans c1
 have HRS:=hide (zdM W5.drew 4 3 (by decide) (by decide))
 have HBA:=hide hbA
 refine hK.out _ _ (fun _=>⟨d0,d1⟩) ?_
 clear hK K hHeld hbA
 try simp only [zA]
 refine zM 2 (by kernel_rfl) rfl (fun K hK=>?_)
 go_simp
 refine(zfM _ _ [4,3] (by exact HRS.out) (by decide)).mono ?_
 rintro e w6 ⟨P6,rfl,ho6⟩
 have HB6:=hide (HBA.out.trans (ho6.below.mono HBA.out.size));have HV6:=hide ho6.vec
 have e0:=(HB6.out.cell (p:=⟨B,0,none⟩) HLB.out).trans c0;have e1:=(HB6.out.cell (p:=⟨B,1,none⟩) HLB.out).trans c1
 clear ho6
 go_wp2_with fail
 refine hK.out _ _ (fun _=>⟨e0,e1⟩) ?_
 clear hK K
 try simp only [zA]
 refine zM 3 (by kernel_rfl) rfl (fun K hK=>?_)
 go_simp
 refine(zjC w6 _ _ 2 6 2 [[2,0],[0,3]] (fun k=>k) [4,3] ⟨_,rfl,HMB.out.below HB6.out zL⟩ zcz (by exact HV6.out) rfl (by decide) (by decide) (by decide)).mono ?_
 rintro e w7 ⟨hb7,hcase⟩
 rcases hcase with⟨-,P7,rfl,ho7⟩ |⟨hno,-⟩
 rotate_left
 ·exact absurd ziW hno
 have HB7:=hide (HB6.out.trans (hb7.mono HB6.out.size));have HV7:=hide ho7.vec
 rw [zjG] at HV7
 have f0:=(HB7.out.cell (p:=⟨B,0,none⟩) HLB.out).trans c0;have f1:=(HB7.out.cell (p:=⟨B,1,none⟩) HLB.out).trans c1
 clear hb7 ho7
 go_wp2_with fail
 refine hK.out _ _ (fun _=>⟨f0,f1⟩) ?_
 clear hK K
 try simp only [zA]
 have hHeld2:(fun w'=>w'.cell? ⟨B,0,none⟩=some (.int .i64 2)∧w'.cell? ⟨B,1,none⟩=some (.slice uo 2 uc)) w7:=⟨f0,f1⟩
 refine zi 4 18 [] ?_
 try simp only [zA]
 refine zi 5 23 [] ?_
 try simp only [zA]
 refine zi 6 24 [] ?_
 try simp only [zA]
 refine zi 7 25 [] ?_
 try simp only [zA]
 refine zi 8 4 [] ?_
 try simp only [zA]
 refine zi 9 5 [] ?_
 try simp only [zA]
 refine zi 10 6 [] ?_
 try simp only [zA]
 refine zbI (by kernel_rfl) ?_
 clear hHeld2 c0 c1 d0 d1 e0 e1 f0 f1 HRS HV6
 have HTX:Hid (Calls Tryz.prog 50 #[.slice (some ⟨P7,0,none⟩) 2 2] w7 fun e w'=>e=.returned (.string ⟨#[40,50,32,49,41]⟩)∧Below w7.heap.size w7 w'):=by
  have:=zlz w7 _ [2,1] _ ((HT.out.below HB5.out).below HB7.out) HV7.out (by decide) (by decide) (by decide) (by
   rw [List.map_cons,List.map_cons,List.map_nil,txtTwoL,txtOneL]
   decide)
  rw [text21L] at this
  exact this
 go_wp2_with fail
 refine(zdP w7).mono ?_
 rintro e w7' ⟨rfl,rfl⟩
 go_wp2_with fail
 refine HTX.out.mono ?_
 rintro e w8 ⟨rfl,hb8⟩
 have HB8:=hide ((HB5.out.trans (HB7.out.mono HB5.out.size)).trans (hb8.mono (HB5.out.trans (HB7.out.mono HB5.out.size)).size))
 clear hb8 HTX HV7
 go_wp2
 go_ret
 exact⟨rfl,HB8.out⟩
end Go.Proofs.YtdedolkgcdlmeaaGreatDoor
