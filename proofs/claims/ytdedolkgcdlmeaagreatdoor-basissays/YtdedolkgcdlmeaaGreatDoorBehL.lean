import Derived.Test.YtdedolkgcdlmeaaGreatDoorLatR
import Derived.Test.YtdedolkgcdlmeaaGreatDoorBeside
set_option maxRecDepth 100000
set_option maxHeartbeats 4000000
set_option linter.unusedSimpArgs false
namespace Go.Proofs.YtdedolkgcdlmeaaGreatDoor
open Go.RowKit Limbs
variable {n m N k f:Nat}{w W:World}{u v:Value}{p:Nat→Nat}
theorem zlH (w:World)(v x:Value)(n nv nx:Nat)(hs:List (List Int))(p:Nat→Nat)(zs:List Int)(hv:∃ u,v=.agg #[.int .i64 (n:Int),u]∧MatN w u hs nv)(hF:FormL n hs p)(hx:VecN w x zs nx)(hz:zs.length=n)(h1:1≤n)(h4:n≤4)(hN:nx+n *(nv+2)≤90000)(hg:Gens n (InL hs) zs):
  Calls Tryz.prog 89 #[v,x] w fun e w'=>∃ P,e=.returned (.tuple #[.slice (some ⟨P,0,none⟩) hs.length hs.length,.bool true])∧VecO w w' P (muchL hs p zs) (nx+hs.length *(nv+2)+1):=
 (zej w v x n nv nx hs p zs hv hF hx hz h1 h4 hN).mono fun _ _ ⟨_,hc⟩=>hc.elim (fun h=>h.2) (fun h=>absurd ((zca hF.len hz).2 hg) h.1)
theorem zlG (w:World)(v x:Value)(n nv nx:Nat)(hs:List (List Int))(p:Nat→Nat)(zs:List Int)(hv:∃ u,v=.agg #[.int .i64 (n:Int),u]∧MatN w u hs nv)(hF:FormL n hs p)(hx:VecN w x zs nx)(hz:zs.length=n)(h1:1≤n)(h4:n≤4)(hN:nx+n *(nv+2)≤90000)(hg:¬ Gens n (InL hs) zs):
  Calls Tryz.prog 89 #[v,x] w fun e w'=>e=.returned (.tuple #[.slice none 0 0,.bool false])∧Below w.heap.size w w':=
 (zej w v x n nv nx hs p zs hv hF hx hz h1 h4 hN).mono fun _ _ ⟨hb,hc⟩=>hc.elim (fun h=>absurd ((zca hF.len hz).1 h.1) hg) (fun h=>⟨h.2,hb⟩)
def MemberPost (w:World)(n nv nx:Nat)(hs:List (List Int))(p:Nat→Nat)(zs:List Int)(e:Ending)(w':World):Prop:=
 Below w.heap.size w w'∧((Gens n (InL hs) zs∧∃ P,e=.returned (.tuple #[.slice (some ⟨P,0,none⟩) hs.length hs.length,.bool true,.nilIface])∧VecO w w' P (muchL hs p zs) (nx+hs.length *(nv+2)+1)) ∨
  (¬ Gens n (InL hs) zs∧e=.returned (.tuple #[.slice none 0 0,.bool false,.nilIface])))
theorem zf9 (w:World)(v x:Value)(n nv nx:Nat)(hs:List (List Int))(p:Nat→Nat)(zs:List Int)(hv:∃ u,v=.agg #[.int .i64 (n:Int),u]∧MatN w u hs nv)(hF:FormL n hs p)(hx:VecN w x zs nx)(hz:zs.length=n)(h1:1≤n)(h4:n≤4)(hN:nx+n *(nv+2)≤90000):
  Calls Tryz.prog 41 #[v,x] w fun e w'=>MemberPost w n nv nx hs p zs e w':=by
 have HV:=hide hv;have HX:=hide hx;have HF:=hide hF;have HG:=hide (zca hF.len hz);obtain⟨u,rfl,hu⟩:=hv;obtain⟨uo,ucap,rfl,-,-⟩:=hu;clear hx hF;have HB0:=hide ((zB w.heap.size w).alloc zL (.cells #[.int .i64 (n:Int),.slice uo hs.length ucap] 55));have HC:=hide (zg w (.int .i64 (n:Int)) (.slice uo hs.length ucap) 55 _ rfl);have HSZ:Hid (w.heap.size<(w.alloc (.cells #[.int .i64 (n:Int),.slice uo hs.length ucap] 55)).heap.size):=by show _<_;simp
 obtain⟨c0,c1,z0,z1⟩:=HC.out;go_enter Tryz.func41,Tryz.ntmps41;go_wp2_with fail;clear c0 c1 z0 z1;generalize w.alloc (.cells #[.int .i64 (n:Int),.slice uo hs.length ucap] 55)=W0 at *;refine(ze5 W0 _ _ n nv nx hs zs (by obtain⟨u,e,h⟩:=HV.out;exact⟨⟨u,e,h.below HB0.out zL⟩,_,HF.out⟩) (by exact HX.out.below HB0.out zL) hz h1 h4).mono ?_;rintro e w1 ⟨rfl,hb1⟩;have HB1:=hide (HB0.out.trans (hb1.mono HB0.out.size));obtain⟨c0,c1,z0,z1⟩:=HC.out.later hb1 HSZ.out;clear hb1 HC HSZ HB0;go_wp2_with fail;refine(zej w1 _ _ n nv nx hs p zs (by obtain⟨u,e,h⟩:=HV.out;exact⟨u,e,h.below HB1.out zL⟩) HF.out (by exact HX.out.below HB1.out zL) hz h1 h4 hN).mono ?_;rintro e w2 ⟨hb2,hcase⟩;have HB2:=hide (HB1.out.trans (hb2.mono HB1.out.size));clear hb2 c0 c1 z0 z1;rcases hcase with⟨hl,P,rfl,ho⟩ |⟨hl,rfl⟩
 ·have HL:=hide (HG.out.1 hl);have HO:=hide (ho.since HB1.out);clear hl ho;go_wp2;exact bodyPost_ret (v:=.tuple #[.slice (some ⟨P,0,none⟩) hs.length hs.length,.bool true,.nilIface]) (by simp [results,Tryz.results41,go_sem]) rfl ⟨HB2.out,.inl ⟨HL.out,_,rfl,HO.out⟩⟩
 ·have HL:=hide (fun h=>hl (HG.out.2 h));clear hl;go_wp2;exact bodyPost_ret (v:=.tuple #[.slice none 0 0,.bool false,.nilIface]) (by simp [results,Tryz.results41,go_sem]) rfl ⟨HB2.out,.inr ⟨HL.out,rfl⟩⟩
structure AllI (w W:World)(n:Nat)(u v:Value)(m:Nat)(rows:List (List Int))(k N:Nat):Prop where
 low:Below w.heap.size w W
 lt:w.heap.size+2<W.heap.size
 blk:∃ cs t,W.heap[w.heap.size+2]?=some (.cells cs t)
 box:Box W w.heap.size (.int .i64 (n:Int)) u
 box2:Box W (w.heap.size+1) (.int .i64 (n:Int)) v
 nil:∀ i,k≤i→i<m→W.cell? ⟨w.heap.size+2,i,none⟩=some (.slice none 0 0)
 row:∀ i,i<k→∃ Q,W.cell? ⟨w.heap.size+2,i,none⟩=some (.slice (some ⟨Q,0,none⟩) (rows.getD i []).length (rows.getD i []).length)∧VecN W (.slice (some ⟨Q,0,none⟩) (rows.getD i []).length (rows.getD i []).length) (rows.getD i []) N∧Q<W.heap.size∧Q≠w.heap.size+2
theorem AllI.start{W0:World}(hsz:W0.heap.size=w.heap.size+2)(hb:Below w.heap.size w W0)(hx:Box W0 w.heap.size (.int .i64 (n:Int)) u)(hy:Box W0 (w.heap.size+1) (.int .i64 (n:Int)) v)(m:Nat)(rows:List (List Int))(N:Nat):AllI w (W0.alloc (.cells (madeCells #[.slice none 0 0] m) 72)) n u v m rows 0 N:=by
 have hbb:=(zB W0.heap.size W0).alloc zL (.cells (madeCells #[.slice none 0 0] m) 72);refine⟨hb.alloc hb.size _,by simp;omega,⟨_,_,by have:=heap_alloc_new W0 (.cells (madeCells #[.slice none 0 0] m) 72);rw [hsz] at this;exact this⟩,hx.later hbb (by omega),hy.later hbb (by omega),fun i _ hi=>?_,fun i hi=>absurd hi (by omega)⟩;rw [← hsz,World.cell?_alloc_new];exact zf4 m i hi
theorem AllI.later{W':World}{rows:List (List Int)}(h:AllI w W n u v m rows k N)(hb:Below W.heap.size W W'):AllI w W' n u v m rows k N where
 low:=h.low.trans (hb.mono h.low.size)
 lt:=zT h.lt hb.size
 blk:=by obtain⟨cs,t,e⟩:=h.blk;exact⟨cs,t,(hb.block _ (zt e)).trans e⟩
 box:=h.box.later hb (by have:=h.lt;omega)
 box2:=h.box2.later hb (by have:=h.lt;omega)
 nil:=fun i h1 h2=>(hb.cell (p:=⟨w.heap.size+2,i,none⟩) h.lt).trans (h.nil i h1 h2)
 row:=fun i hi=>by
  obtain⟨Q,e,hv,hq,hne⟩:=h.row i hi;exact⟨Q,(hb.cell (p:=⟨w.heap.size+2,i,none⟩) h.lt).trans e,hv.below hb zL,zT hq hb.size,hne⟩
theorem AllI.thaw{rows:List (List Int)}(h:AllI w W n u v m rows k N)(i:Nat):W.frozen? ⟨w.heap.size+2,i,none⟩=false:=by
 obtain⟨cs,t,e⟩:=h.blk;simp [World.frozen?,e]
theorem AllI.step{rows:List (List Int)}(h:AllI w W n u v m rows k N)(hk:k<m){Q:Nat}(hv:VecN W (.slice (some ⟨Q,0,none⟩) (rows.getD k []).length (rows.getD k []).length) (rows.getD k []) N)(hq:Q<W.heap.size)(hne:Q≠w.heap.size+2):
  AllI w (W.setCell ⟨w.heap.size+2,k,none⟩ (.slice (some ⟨Q,0,none⟩) (rows.getD k []).length (rows.getD k []).length)) n u v m rows (k+1) N:=by
 have hnil:=h.nil k zL hk;have hu:∀ z,(Value.slice none 0 0)≠.int .u32 z:=fun z e=>by cases e
 refine⟨h.low.setCell (by simp) _,by simpa using h.lt,?_,h.box.other (by omega) _ _,h.box2.other (by omega) _ _,fun i h1 h2=>?_,fun i hi=>?_⟩
 ·obtain⟨cs,t,e⟩:=h.blk;exact⟨_,t,heap_setCell_same W (w.heap.size+2) k _ _ _ e⟩
 ·exact(World.cell?_setCell_other (h:=fun e=>by simp at e <;> omega) ..).trans (h.nil i (by omega) h2)
 ·by_cases e:i=k
  ·subst e;exact⟨Q,World.cell?_setCell_same (h:=hnil) ..,hv.other hne hnil hu,by simpa using hq,hne⟩
  ·obtain⟨Q',e',hv',hq',hne'⟩:=h.row i (by omega);exact⟨Q',(World.cell?_setCell_other (h:=fun e=>by simp at e <;> omega) ..).trans e',hv'.other hne' hnil hu,by simpa using hq',hne'⟩
theorem AllI.mat{rows:List (List Int)}(h:AllI w W n u v m rows m N)(hm:rows.length=m):MatN W (.slice (some ⟨w.heap.size+2,0,none⟩) m m) rows N:=by
 subst hm;refine⟨_,_,rfl,Nat.le_refl _,fun h0=>⟨_,_,rfl,h.lt,fun i zs hi=>?_⟩⟩;obtain⟨hi',e⟩:=List.getElem?_eq_some_iff.1 hi;obtain⟨Q,e1,hv,-,-⟩:=h.row i hi';rw [zm hi',e] at e1 hv;exact⟨_,by rw [Nat.zero_add];exact e1,hv⟩
theorem zee (m:Nat)(hm:m≤1000)(W:World):(Instr.makeSlice 23 (.int .i64 (m:Int)) (.int .i64 (m:Int))).run Tryz.prog W=.ok (.slice (some ⟨W.heap.size,0,none⟩) m m) (W.alloc (.cells (madeCells #[.slice none 0 0] m) 72)):=by
 obtain⟨i0,hi,hz0,hz1,hz2⟩:=info_parts Tryz.infoVec;have h:=run_make (P:=Tryz.prog) W 23 72 i0 (.slice none 0 0) (by kernel_rfl) hi hz0 .i64 .i64 m m (by omega) (by omega) (by rw [hz2];omega) (by omega);rw [hz1,Int.toNat_natCast,Nat.mul_one] at h;exact h
def AllPost (w:World)(n nv mv:Nat)(hs ks:List (List Int))(p:Nat→Nat)(e:Ending)(w':World):Prop:=
 Below w.heap.size w w'∧(((∀ us∈hs,Gens n (InL ks) us)∧∃ m,e=.returned (.tuple #[m,.bool true])∧MatN w' m (hs.map (muchL ks p)) (nv+ks.length *(mv+2)+1)) ∨
  ((¬ ∀ us∈hs,Gens n (InL ks) us)∧e=.returned (.tuple #[.slice none 0 0,.bool false])))
theorem zdm (w:World)(va vb:Value)(n nv mv:Nat)(hs ks:List (List Int))(p:Nat→Nat)(ha:LatN w va n hs nv)(hb:∃ u,vb=.agg #[.int .i64 (n:Int),u]∧MatN w u ks mv)(hF:FormL n ks p)(h1:1≤n)(h4:n≤4)(hN:nv+n *(mv+2)≤90000):
  Calls Tryz.prog 84 #[va,vb] w fun e w'=>AllPost w n nv mv hs ks p e w':=by
 have HF:=hide hF;obtain⟨⟨u,rfl,hu⟩,q,hG⟩:=ha;obtain⟨v,rfl,hv⟩:=hb;have HU:=hide hu;have HV:=hide hv;have HG:=hide hG;have hsh:=hG.short;have HML:Hid ((hs.map (muchL ks p)).length=hs.length):=zM ..;obtain⟨uo,ucap,rfl,-,-⟩:=hu;obtain⟨vo,vcap,rfl,-,-⟩:=hv;clear hF hG;have hmk:=zee hs.length (by omega);have HX:=hide (zJ w (.int .i64 (n:Int)) (.slice uo hs.length ucap) (.int .i64 (n:Int)) (.slice vo ks.length vcap) 55 55);have HBB:=hide ((zB (w.heap.size+2) ((w.alloc (.cells #[.int .i64 (n:Int),.slice uo hs.length ucap] 55)).alloc (.cells #[.int .i64 (n:Int),.slice vo ks.length vcap] 55))).alloc (by simp) (.cells (madeCells #[.slice none 0 0] hs.length) 72));have HS:Hid (AllI w (((w.alloc (.cells #[.int .i64 (n:Int),.slice uo hs.length ucap] 55)).alloc (.cells #[.int .i64 (n:Int),.slice vo ks.length vcap] 55)).alloc (.cells (madeCells #[.slice none 0 0] hs.length) 72)) n (.slice uo hs.length ucap) (.slice vo ks.length vcap) hs.length (hs.map (muchL ks p)) 0 (nv+ks.length *(mv+2)+1)):=by
  exact hide (AllI.start (by simp) HX.out.2.2.1 HX.out.1 HX.out.2.1 _ _ _)
 obtain⟨⟨c0,c1,z0,z1⟩,⟨d0,d1,y0,y1⟩,-,-⟩:=HX.out;obtain⟨e0,e1,-,-⟩:=HS.out.box;go_enter Tryz.func84,Tryz.ntmps84;go_wp2;clear hmk c0 c1 z0 z1 d0 d1 y0 y1 e0 e1 HX HBB;go_loopw [17] (fun i wr=>∃ k:Nat,k≤hs.length∧i=.int .i64 k∧Hid (AllI w wr n (.slice uo hs.length ucap) (.slice vo ks.length vcap) hs.length (hs.map (muchL ks p)) k (nv+ks.length *(mv+2)+1))∧Hid (∀ us∈hs.take k,Gens n (InL ks) us)) (fun i _=>hs.length-(intOf i).toNat)
 case atStart=>exact⟨0,Nat.zero_le _,rfl,HS,fun us h=>by simp at h⟩
 case round=>
  clear HS;obtain⟨k,hk,rfl,HI,HALL⟩:=hrel;by_cases hkl:k<hs.length
  ·have hmat:=HU.out.below HI.out.low zL;obtain⟨rb,roff,_,e,lr,ru,cu,hru⟩:=hmat.at k hkl;simp only [zV,true_and] at e;obtain⟨rfl,rfl⟩:=e;clear hmat;have HR:=hide hru;have HM:=hide (HV.out.below HI.out.low zL);have HUL:Hid (hs[k].length=n):=HG.out.len _ (List.getElem_mem hkl);have HIN:=hide (List.getElem_mem hkl);have HTK:Hid (hs.take (k+1)=hs.take k++[hs[k]]):=List.take_succ_eq_append_getElem hkl;have HGD:Hid ((hs.map (muchL ks p)).getD k []=muchL ks p hs[k]):=by
    show _=_;rw [zm (by rw [zM];exact hkl),List.getElem_map]
   have HLG:=hide (zca (v:=hs[k]) HF.out.len HUL.out);generalize hs[k]=us at *;obtain⟨ruo,rucap,rfl,-,-⟩:=hru;obtain⟨c0,c1,z0,z1⟩:=HI.out.box;obtain⟨d0,d1,y0,y1⟩:=HI.out.box2;by_cases hgn:Gens n (InL ks) us
   ·have HGN:=hide hgn;clear hgn;go_wp2_with fail
    go_region_held3 (fun w'=>w'.cell? ⟨w.heap.size,0,none⟩=some (.int .i64 (n:Int))∧w'.cell? ⟨w.heap.size,1,none⟩=some (.slice (some ⟨rb,roff,none⟩) hs.length ucap)∧w'.cell? ⟨w.heap.size+1,0,none⟩=some (.int .i64 (n:Int))∧w'.cell? ⟨w.heap.size+1,1,none⟩=some (.slice vo ks.length vcap)∧w'.cell? ⟨rb,roff+k,none⟩=some (.slice ruo us.length rucap)) (go_keep)
     (first
      |(go_at_call 89;refine(zlH _ _ _ n mv nv ks p us (by exact⟨_,rfl,HM.out.below (zB _ _).drew zL⟩) HF.out (by exact HR.out.below (zB _ _).drew zL) HUL.out h1 h4 hN HGN.out).mono ?_;rintro e w2 ⟨P,rfl,ho⟩;have hb2:=ho.below;have HB2:=hide (show Below wr.heap.size wr w2 from(zB _ _).drew.trans (hb2.mono (by simp)));have HO2:=hide ho;have HI2:=hide (HI.out.later HB2.out);obtain⟨p0,p1,-,-⟩:=HI2.out.box;obtain⟨p2,p3,-,-⟩:=HI2.out.box2;have p4:=(HB2.out.cell (p:=⟨rb,roff+k,none⟩) lr).trans cu;clear hb2 ho))
    have HN:Hid (AllI w (w2.setCell ⟨w.heap.size+2,k,none⟩ (.slice (some ⟨P,0,none⟩) ks.length ks.length)) n (.slice (some ⟨rb,roff,none⟩) hs.length ucap) (.slice vo ks.length vcap) hs.length (hs.map (muchL ks p)) (k+1) (nv+ks.length *(mv+2)+1)):=by
     have hst:=HI2.out.step hkl (Q:=P) (by rw [HGD.out];exact HO2.out.vec) HO2.out.lt (by have:=HO2.out.low;have:=HI.out.lt;simp at *;omega);rw [HGD.out,zcf] at hst;exact hide hst
    have HAL:Hid (∀ us∈hs.take (k+1),Gens n (InL ks) us):=by
     intro us' h;rw [HTK.out] at h;rcases List.mem_append.1 h with h | h
     ·exact HALL.out us' h
     ·rw [List.mem_singleton.1 h];exact HGN.out
    have k0:=HI2.out.nil k zL hkl;have t0:=HI2.out.thaw k;clear HI HI2 HO2 HB2 HALL HTK HR HM p0 p1 p2 p3 p4 c0 c1 z0 z1 d0 d1 y0 y1 cu;go_wp2;go_roundw
    case rel=>exact⟨k+1,by omega,by go_num,HN,HAL⟩
    case measure=>simp [intOf];omega
   ·have HGN:=hide hgn;clear hgn;go_wp2_with fail
    go_region_held3 (fun w'=>w'.cell? ⟨w.heap.size,0,none⟩=some (.int .i64 (n:Int))∧w'.cell? ⟨w.heap.size,1,none⟩=some (.slice (some ⟨rb,roff,none⟩) hs.length ucap)∧w'.cell? ⟨w.heap.size+1,0,none⟩=some (.int .i64 (n:Int))∧w'.cell? ⟨w.heap.size+1,1,none⟩=some (.slice vo ks.length vcap)∧w'.cell? ⟨rb,roff+k,none⟩=some (.slice ruo us.length rucap)) (go_keep)
     (first
      |(go_at_call 89;refine(zlG _ _ _ n mv nv ks p us (by exact⟨_,rfl,HM.out.below (zB _ _).drew zL⟩) HF.out (by exact HR.out.below (zB _ _).drew zL) HUL.out h1 h4 hN HGN.out).mono ?_;rintro e w2 ⟨rfl,hb2⟩;have HB2:=hide (show Below wr.heap.size wr w2 from(zB _ _).drew.trans (hb2.mono (by simp)));have HI2:=hide (HI.out.later HB2.out);obtain⟨p0,p1,-,-⟩:=HI2.out.box;obtain⟨p2,p3,-,-⟩:=HI2.out.box2;have p4:=(HB2.out.cell (p:=⟨rb,roff+k,none⟩) lr).trans cu;clear hb2))
    have HBL:=hide HI2.out.low;have HNO:=hide (fun h:∀ us∈hs,Gens n (InL ks) us=>HGN.out (h us HIN.out));clear HI HI2 HB2 HALL HTK HR HM p0 p1 p2 p3 p4 c0 c1 z0 z1 d0 d1 y0 y1 cu;go_wp2;exact bodyPost_ret (v:=.tuple #[.slice none 0 0,.bool false]) (by simp [results,Tryz.results84,go_sem]) rfl ⟨HBL.out,.inr ⟨HNO.out,rfl⟩⟩
  ·obtain rfl:k=hs.length:=by omega
   have HFI:Hid (∀ us∈hs,Gens n (InL ks) us):=by
    have:=HALL.out;rw [List.take_length] at this;exact this
   have HMT:=hide (HI.out.mat HML.out);have HBL:=hide HI.out.low;clear HI;go_wp2;exact bodyPost_ret (v:=.tuple #[.slice (some ⟨w.heap.size+2,0,none⟩) hs.length hs.length,.bool true]) (by simp [results,Tryz.results84,go_sem]) rfl ⟨HBL.out,.inl ⟨HFI.out,_,rfl,HMT.out⟩⟩
theorem zfK (w:World)(va vb:Value)(n nv mv:Nat)(hs ks:List (List Int))(ha:LatN w va n hs nv)(hb:LatN w vb n ks mv)(h1:1≤n)(h4:n≤4)(hN:nv+n *(mv+2)≤90000)(r:Bool)(hr:r=true↔∀ us∈hs,Gens n (InL ks) us):
  Calls Tryz.prog 32 #[va,vb] w fun e w'=>e=.returned (.tuple #[.bool r,.nilIface])∧Below w.heap.size w w':=by
 have HA:=hide ha;have HB:=hide hb;have HRR:=hide hr;obtain⟨⟨u,rfl,⟨uo,ucap,rfl,-,-⟩⟩,-⟩:=ha;obtain⟨⟨v,rfl,⟨vo,vcap,rfl,-,-⟩⟩,p,hF⟩:=hb;have HF:=hide hF;clear hF hr;have HX:=hide (zJ w (.int .i64 (n:Int)) (.slice uo hs.length ucap) (.int .i64 (n:Int)) (.slice vo ks.length vcap) 55 55);obtain⟨⟨c0,c1,z0,z1⟩,⟨d0,d1,y0,y1⟩,-,-⟩:=HX.out;go_enter Tryz.func32,Tryz.ntmps32;go_wp2_with fail;clear c0 c1 z0 z1 d0 d1 y0 y1;generalize ((w.alloc (.cells #[.int .i64 (n:Int),.slice uo hs.length ucap] 55)).alloc (.cells #[.int .i64 (n:Int),.slice vo ks.length vcap] 55))=W0 at *;refine(zbQ W0 _ _ n nv mv hs ks (by exact HA.out.below HX.out.2.2.1) (by exact HB.out.below HX.out.2.2.1) h1 h4).mono ?_;rintro e w1 ⟨rfl,hb1⟩;have HB1:=hide (HX.out.2.2.1.trans (hb1.mono HX.out.2.2.1.size));obtain⟨c0,c1,z0,z1⟩:=HX.out.1.later hb1 (by have:=HX.out.2.2.2;omega);obtain⟨d0,d1,y0,y1⟩:=HX.out.2.1.later hb1 HX.out.2.2.2;clear hb1 HX;go_wp2_with fail;refine(zdm w1 _ _ n nv mv hs ks p (by exact HA.out.below HB1.out) (by obtain⟨⟨u,e,h⟩,-⟩:=HB.out;exact⟨u,e,h.below HB1.out zL⟩) HF.out h1 h4 hN).mono ?_;rintro e w2 ⟨hb2,hcase⟩;have HB2:=hide (HB1.out.trans (hb2.mono HB1.out.size));clear hb2 c0 c1 z0 z1 d0 d1 y0 y1;rcases hcase with⟨hl,m,rfl,-⟩ |⟨hl,rfl⟩
 ·have HL:Hid (r=true):=HRR.out.2 hl;clear hl;go_wp2;exact bodyPost_ret (v:=.tuple #[.bool true,.nilIface]) (by simp [results,Tryz.results32,go_sem]) rfl ⟨by rw [HL.out],HB2.out⟩
 ·have HL:Hid (r=false):=by
   have h:=HRR.out;cases r
   ·rfl
   ·exact absurd (h.1 rfl) hl
  clear hl;go_wp2;exact bodyPost_ret (v:=.tuple #[.bool false,.nilIface]) (by simp [results,Tryz.results32,go_sem]) rfl ⟨by rw [HL.out],HB2.out⟩
theorem ze0 (w:World)(va vo:Value)(n nv:Nat)(hs os:List (List Int))(ha:MatN w va hs nv)(ho:MatN w vo os nv)(hl:∀ r∈hs,r.length=n)(hol:∀ r∈os,r.length≤n)(hlen:os.length=hs.length)(h1:1≤n)(h4:n≤4)(hm:hs.length≤100):
  Calls Tryz.prog 82 #[va,vo] w fun e w'=>∃ u,e=.returned u∧MatN w' u (besL n hs os) nv∧Below w.heap.size w w':=by
 have HA:=hide ha;have HO:=hide ho;have HL:=hide hl;have HOL:=hide hol;have HLN:=hide hlen;have HBL:=hide (zdn n hs os hlen);obtain⟨ao,acap,rfl,-,-⟩:=ha;obtain⟨oo,ocap,rfl,-,-⟩:=ho;clear hl hol hlen;have hmk:=zee hs.length (by omega);have HS:Hid (RowsI w (w.alloc (.cells (madeCells #[.slice none 0 0] hs.length) 72)) w.heap.size hs.length (besL n hs os) 0 nv):=RowsI.start (zB _ _) _ _ _;go_enter Tryz.func82,Tryz.ntmps82;go_wp2;clear hmk;go_loopw [13] (fun i wr=>∃ k:Nat,k≤hs.length∧i=.int .i64 k∧Hid (RowsI w wr w.heap.size hs.length (besL n hs os) k nv)) (fun i _=>hs.length-(intOf i).toNat)
 case atStart=>exact⟨0,Nat.zero_le _,rfl,HS⟩
 case round=>
  clear HS;obtain⟨k,hk,rfl,HI⟩:=hrel;by_cases hkl:k<hs.length
  ·have hko:k<os.length:=by have:=HLN.out;omega
   obtain⟨rb,roff,_,e,lr,ru,cu,hru⟩:=HA.out.at k hkl;simp only [zV,true_and] at e;obtain⟨rfl,rfl⟩:=e;obtain⟨ob,ooff,_,e,lo,ou,co,hou⟩:=HO.out.at k hko;simp only [zV,true_and] at e;obtain⟨rfl,rfl⟩:=e;have HU:=hide hru;have HZ:=hide hou;have HUL:Hid (hs[k].length=n):=HL.out _ (List.getElem_mem hkl);have HZL:Hid (os[k].length≤n):=HOL.out _ (List.getElem_mem hko);have HGD:=hide (zh1 n hs os k hkl hko);generalize hs[k]=us at *;generalize os[k]=zs at *;obtain⟨ruo,rucap,rfl,-,-⟩:=hru;obtain⟨zo,zcap,rfl,-,-⟩:=hou;rw [HUL.out] at cu HU;have c1:=(HI.out.low.cell (p:=⟨rb,roff+k,none⟩) lr).trans cu;have HBA:=hide ((zB wr.heap.size wr).alloc zL (.cells (madeCells #[.bool false,.slice none 0 0] (2*n*2)) 29));have c2:=(HBA.out.cell (p:=⟨w.heap.size,k,none⟩) HI.out.lt).trans (HI.out.nil k zL hkl);have c3:(wr.alloc (.cells (madeCells #[.bool false,.slice none 0 0] (2*n*2)) 29)).frozen? ⟨w.heap.size,k,none⟩=false:=(HI.out.later HBA.out).thaw k;have hmk:∀ W:World,(Instr.makeSlice 72 (.int .i64 (2 *(n:Int))) (.int .i64 (2 *(n:Int)))).run Tryz.prog W=.ok (.slice (some ⟨W.heap.size,0,none⟩) (2*n) (2*n)) (W.alloc (.cells (madeCells #[.bool false,.slice none 0 0] (2*n*2)) 29)):=fun W=>by
    have:=zbf (2*n) (by omega) W
    rwa [show((2*n:Nat):Int)=2 *(n:Int) by omega] at this
   have HV0:=hide (VecO.made w wr HI.out.low (2*n) nv);have HV1:=hide (HV0.out.other (k:=k) (x:=.slice (some ⟨wr.heap.size,0,none⟩) (2*n) (2*n)) (by have:=HI.out.lt;omega) zL c2 (fun z e=>by cases e));have HX1:=hide (zkr wr (.cells (madeCells #[.bool false,.slice none 0 0] (2*n*2)) 29) w.heap.size k HI.out.lt (.slice (some ⟨wr.heap.size,0,none⟩) (2*n) (2*n)));have d1:=World.cell?_setCell_same (w:=wr.alloc (.cells (madeCells #[.bool false,.slice none 0 0] (2*n*2)) 29)) (v:=.slice (some ⟨wr.heap.size,0,none⟩) (2*n) (2*n)) (h:=c2);clear HV0 HBA;go_wp2_with fail;clear hmk c1 c2 c3;generalize hW2:(wr.alloc (.cells (madeCells #[.bool false,.slice none 0 0] (2*n*2)) 29)).setCell ⟨w.heap.size,k,none⟩ (.slice (some ⟨wr.heap.size,0,none⟩) (2*n) (2*n))=W2 at *;have hlt2:wr.heap.size<W2.heap.size:=HV1.out.lt;clear hW2;generalize hP:wr.heap.size=P at *;have d2:=(HV1.out.below.cell (p:=⟨rb,roff+k,none⟩) lr).trans cu;have HDB:Hid (∀ W',Below P W2 W'→W'.cell? ⟨w.heap.size,k,none⟩=some (.slice (some ⟨P,0,none⟩) (2*n) (2*n))):=fun W' hb=>(hb.cell (p:=⟨w.heap.size,k,none⟩) (by show w.heap.size<P;have:=HI.out.lt;omega)).trans d1;refine zr (S:=(fun w'=>w'.cell? ⟨w.heap.size,k,none⟩=some (.slice (some ⟨P,0,none⟩) (2*n) (2*n))∧w'.cell? ⟨rb,roff+k,none⟩=some (.slice ruo n rucap))) (k:=8) (by kernel_rfl) (by(try dsimp only);go_keep) (fun hHeld=>?_);refine zc 0 27 [2,3,8] ?_;try simp only [zA]
   refine zc 1 28 [2,3,8] ?_;try simp only [zA]
   refine zc 2 29 [3,8] ?_;try simp only [zA]
   refine zc 3 30 [8] ?_;try simp only [zA]
   refine zc 4 31 [6,7,8] ?_;try simp only [zA]
   refine zc 5 32 [6,7,8] ?_;try simp only [zA]
   refine zc 6 33 [7,8] ?_;try simp only [zA]
   refine zc 7 34 [8] ?_;try simp only [zA]
   obtain⟨W3,hcp,hv3,hs3,hb3⟩:=zfd HV1.out.drew 0 0 (2*n) (2*n) rfl (.slice ruo n rucap) us (by have:=HU.out.below HV1.out.drew.below zL;exact this) (by rw [List.length_replicate,HUL.out];omega) (by have:=HUL.out;omega);have HCP:=hide hcp;clear hcp;refine zf 8 (by kernel_rfl) rfl (fun K hK=>?_);refine zhf rfl 35 rfl (.tmp 30) (.tmp 34) 72 72 rfl (.slice (some ⟨P,0,none⟩) (2*n) (2*n)) (.slice ruo n rucap) _ W3 rfl rfl HCP.out ?_;refine hK.out _ _ (fun h=>absurd h (by decide)) ?_;clear hK K;try simp only [zA]
   refine zp (by kernel_rfl) ?_;clear HCP;rw [zlP HUL.out] at hv3;have HV3:=hide hv3;have HB3:=hide (show Below P W2 W3 from(zB _ _).drew.trans hb3);have hlt3:P<W3.heap.size:=hv3.lt;clear hv3 hb3 hs3 d1 d2 HV1;go_wp2_with fail;have d1:=HDB.out W3 HB3.out;have g1:(n:Int)≤2 *(n:Int):=by omega
   have g2:¬(2*n=n):=by omega
   have g3:2*n-n=n:=by omega
   have d2:=(HV3.out.below.cell (p:=⟨ob,ooff+k,none⟩) lo).trans co;refine zr (S:=(fun w'=>w'.cell? ⟨w.heap.size,k,none⟩=some (.slice (some ⟨P,0,none⟩) (2*n) (2*n))∧w'.cell? ⟨ob,ooff+k,none⟩=some (.slice zo zs.length zcap))) (k:=10) (by kernel_rfl) (by(try dsimp only);go_keep) (fun hHeld=>?_);refine zc 0 36 [2,3,5,10] ?_;try simp only [zA]
   refine zc 1 37 [2,3,5,10] ?_;try simp only [zA]
   refine zc 2 38 [3,5,10] ?_;try simp only [zA]
   refine zc 3 39 [5,10] ?_;try simp only [zA]
   refine zc 4 40 [5,10] ?_;try simp only [zA]
   refine zc 5 41 [10] ?_;try simp only [zA]
   refine zc 6 42 [8,9,10] ?_;try simp only [zA]
   refine zc 7 43 [8,9,10] ?_;try simp only [zA]
   refine zc 8 44 [9,10] ?_;try simp only [zA]
   refine zc 9 45 [10] ?_;try simp only [zA]
   obtain⟨W4,hcp,hv4,hs4,hb4⟩:=zfd HV3.out.drew n (n*2) n n rfl (.slice zo zs.length zcap) zs (by exact HZ.out.below HV3.out.drew.below zL) (by rw [List.length_append,List.length_replicate,HUL.out];have:=HZL.out;omega) HZL.out;have HCP:=hide hcp;clear hcp;refine zf 10 (by kernel_rfl) rfl (fun K hK=>?_);refine zhf rfl 46 rfl (.tmp 41) (.tmp 45) 72 72 rfl (.slice (some ⟨P,n*2,none⟩) n n) (.slice zo zs.length zcap) _ W4 rfl rfl HCP.out ?_;refine hK.out _ _ (fun h=>absurd h (by decide)) ?_;clear hK K;try simp only [zA]
   refine zp (by kernel_rfl) ?_;clear HCP d1 d2 g1 g2 g3;rw [zlQ HUL.out HZL.out] at hv4;have HE:Hid (RowsI w W4 w.heap.size hs.length (besL n hs os) (k+1) nv):=by
    refine HI.out.step_at hkl HGD.out (L:=2*n) (by rw [List.length_append,List.length_append,List.length_replicate,HUL.out];have:=HZL.out;omega) ?_ (by rw [hP];exact hv4.lt) (by rw [hP];exact hv4.vec);rw [hP];exact(HX1.out.trans HB3.out).trans ((zB _ _).drew.trans hb4)
   clear hv4 hs4 hb4 HI HX1 HB3 HV3;go_wp2;go_roundw
   case rel=>exact⟨k+1,by omega,by go_num,HE⟩
   case measure=>simp [intOf];omega
  ·obtain rfl:k=hs.length:=by omega
   have HM:=hide (HI.out.mat HBL.out);have HBE:=hide HI.out.low;clear HI;go_wp2;go_ret;exact⟨_,rfl,HM.out,HBE.out⟩
def behindL (n:Nat)(ts:List (List Int)):List (List Int):=(ts.filter fun r=>decide ((n:Int)≤first r)).map (·.drop n)
theorem zgB (n:Nat)(p:Nat→Nat)(r:Nat)(inc:∀ i k,i<k→k<r→p i<p k):∀ m,m≤r→∃ c,c≤m∧(∀ k,k<c→p k<n)∧∀ k,c≤k→k<m→n≤p k
 | 0,_=>⟨0,Nat.le_refl _,fun k hk=>absurd hk (by omega),fun k _ hk=>absurd hk (by omega)⟩
 | m+1,hm=>by
  obtain⟨c,hc,h1,h2⟩:=zgB n p r inc m (by omega);by_cases h:p m<n
  ·refine⟨m+1,Nat.le_refl _,fun k hk=>?_,fun k h1 h2=>absurd h1 (by omega)⟩;by_cases hkm:k=m
   ·rw [hkm];exact h
   ·exact Nat.lt_trans (inc k m (by omega) (by omega)) h
  ·refine⟨c,by omega,h1,fun k hk hkm=>?_⟩;by_cases e:k=m
   ·rw [e];omega
   ·exact h2 k hk (by omega)
theorem zbX (r:List Int)(n j:Nat):(r.drop n).getD j 0=r.getD (n+j) 0:=by
 rw [zG,List.getElem?_drop,zG]
theorem zdE{ts:List (List Int)}(F:FormL m ts p):∃ c,c≤ts.length∧(∀ k,k<c→p k<n)∧(∀ k,c≤k→k<ts.length→n≤p k)∧(ts.filter fun r=>decide ((n:Int)≤first r))=ts.drop c:=by
 obtain⟨c,hc,h1,h2⟩:=zgB n p ts.length F.form.inc ts.length zL;refine⟨c,hc,h1,h2,?_⟩;have e:ts=ts.take c++ts.drop c:=(List.take_append_drop c ts).symm
 conv=>lhs;rw [e]
 rw [List.filter_append];have e1:((ts.take c).filter fun r=>decide ((n:Int)≤first r))=[]:=by
  rw [List.filter_eq_nil_iff];intro r hr;obtain⟨k,hk,e⟩:=List.getElem_of_mem hr;rw [List.length_take] at hk;rw [List.getElem_take] at e;have hf:=(F.first (show k<ts.length by omega)).1;have:=h1 k (by omega);rw [← e,hf];simp only [decide_eq_true_eq];omega
 have e2:((ts.drop c).filter fun r=>decide ((n:Int)≤first r))=ts.drop c:=by
  rw [List.filter_eq_self];intro r hr;obtain⟨k,hk,e⟩:=List.getElem_of_mem hr;rw [List.length_drop] at hk;rw [List.getElem_drop] at e;have hf:=(F.first (show c+k<ts.length by omega)).1;have:=h2 (c+k) (by omega) (by omega);rw [← e,hf];simp only [decide_eq_true_eq];omega
 rw [e1,e2,List.nil_append]
theorem zbO{c:Nat}{ts:List (List Int)}(k j:Nat)(hk:c+k<ts.length):(((ts.drop c).map (·.drop n)).getD k []).getD j 0=(ts.getD (c+k) []).getD (n+j) 0:=by
 have hl:k<((ts.drop c).map (·.drop n)).length:=by rw [zM,List.length_drop];omega
 rw [zm hl,List.getElem_map,List.getElem_drop,zbX,zm hk]
theorem zcz{ts:List (List Int)}(F:FormL (f+n) ts p):∃ q,FormL n (behindL f ts) q:=by
 obtain⟨c,hc,-,h2,e⟩:=zdE (n:=f) F;refine⟨fun k=>p (c+k)-f,?_⟩;unfold behindL;rw [e];have hl:((ts.drop c).map (·.drop f)).length=ts.length-c:=by rw [zM,List.length_drop]
 refine⟨fun r hr=>?_,?_⟩
 ·obtain⟨s,hs,rfl⟩:=List.mem_map.1 hr;rw [List.length_drop,F.len s (List.mem_of_mem_drop hs)];omega
 ·rw [hl];refine⟨fun i k hik hk=>?_,fun i hi=>?_,fun i b hi hb=>?_,fun i hi=>?_,fun i k hik hk=>?_⟩
  ·have:=F.form.inc (c+i) (c+k) (by omega) (by omega);have:=h2 (c+i) (by omega) (by omega);omega
  ·have:=F.form.lt (c+i) (by omega);have:=h2 (c+i) (by omega) (by omega);omega
  ·rw [zbO i b (by omega)];exact F.form.zero (c+i) (f+b) (by omega) (by omega)
  ·have h3:=h2 (c+i) (by omega) (by omega);rw [zbO i _ (by omega),show f+(p (c+i)-f)=p (c+i) by omega];exact F.form.pos (c+i) (by omega)
  ·have h3:=h2 (c+k) (by omega) (by omega);rw [zbO i _ (by omega),zbO k _ (by omega),show f+(p (c+k)-f)=p (c+k) by omega];exact F.form.red (c+i) (c+k) (by omega) (by omega)
theorem zeX{ts:List (List Int)}(F:FormL (f+n) ts p){v:List Int}(hv:v.length=n):Gens n (InL (behindL f ts)) v↔Gens (f+n) (InL ts) (List.replicate f 0++v):=by
 obtain⟨c,hc,h1,h2,e⟩:=zdE (n:=f) F;unfold behindL;rw [e];constructor
 ·intro h;clear hv
  induction h with
  | base hv hl=>
   obtain⟨s,hs,rfl⟩:=List.mem_map.1 hv;have hst:=List.mem_of_mem_drop hs;have hsl:=F.len s hst;obtain⟨k,hk,es⟩:=List.getElem_of_mem hs;rw [List.length_drop] at hk;rw [List.getElem_drop] at es;have es':List.replicate f 0++s.drop f=s:=by
    apply zK (by rw [List.length_append,List.length_replicate,List.length_drop,hsl];omega);intro j hj;rw [List.length_append,List.length_replicate,List.length_drop,hsl] at hj;by_cases hjn:j<f
    ·rw [zbZ _ _ _ (by simpa using hjn),zaG];have:=F.form.zero (c+k) j (by omega) (by have:=h2 (c+k) (by omega) (by omega);omega);rw [zm (by omega),es] at this;exact this.symm
    ·have hr:=zb8 (List.replicate f 0) (s.drop f) (j-f);rw [List.length_replicate,show f+(j-f)=j by omega,zbX,show f+(j-f)=j by omega] at hr;exact hr
   rw [es'];exact .base hst hsl
  | zero=>
   rw [List.replicate_append_replicate];exact .zero
  | comb x y hu hv g1 g2=>
   have:=Gens.comb x y g1 g2;rw [zbt x y _ _ _ _ rfl,zdv] at this;exact this
 ·intro h;obtain⟨d,hd⟩:=zx h;have hz:∀ k,k<c→d k=0:=by
   intro k
   induction k using Nat.strongRecOn with
   | _ k ih=>
    intro hk;have hp:=h1 k hk;have ha:=F.form.at_pivot d k (by omega) (fun j hj=>ih j hj (by omega));have hb:(List.replicate f 0++v).getD (p k) 0=sumN ts.length (fun j=>d j *(ts.getD j []).getD (p k) 0):=hd (p k) (by omega);rw [zbZ _ _ _ (by simpa using hp),zaG] at hb;have hpos:=F.form.pos k (by omega);have h0:d k *(ts.getD k []).getD (p k) 0=0:=ha.symm.trans hb.symm;rcases Int.mul_eq_zero.1 h0 with h | h
    ·exact h
    ·omega
  apply zdI (fun r hr=>?_) hv
  ·refine⟨fun k=>d (c+k),fun b hb=>?_⟩;have hb':(List.replicate f 0++v).getD (f+b) 0=sumN ts.length (fun j=>d j *(ts.getD j []).getD (f+b) 0):=hd (f+b) (by omega);show v.getD b 0=sumN ((ts.drop c).map (·.drop f)).length (fun k=>d (c+k) *(((ts.drop c).map (·.drop f)).getD k []).getD b 0);have hr:=zb8 (List.replicate f 0) v b;rw [List.length_replicate] at hr;rw [hr] at hb';rw [hb'];have hl:((ts.drop c).map (·.drop f)).length=ts.length-c:=by rw [zM,List.length_drop]
   rw [hl];have hs:∀ m,c+m≤ts.length→sumN (c+m) (fun k=>d k *(ts.getD k []).getD (f+b) 0)=sumN m (fun k=>d (c+k) *(((ts.drop c).map (·.drop f)).getD k []).getD b 0):=by
    intro m
    induction m with
    | zero=>
     intro _;refine(zk (g:=fun _=>0) fun k hk=>?_).trans (zaA _);rw [hz k hk,Int.zero_mul]
    | succ m ih=>
     intro hm;have e1:sumN (c+(m+1)) (fun k=>d k *(ts.getD k []).getD (f+b) 0)=sumN (c+m) (fun k=>d k *(ts.getD k []).getD (f+b) 0)+d (c+m) *(ts.getD (c+m) []).getD (f+b) 0:=rfl;have e2:sumN (m+1) (fun k=>d (c+k) *(((ts.drop c).map (·.drop f)).getD k []).getD b 0)=sumN m (fun k=>d (c+k) *(((ts.drop c).map (·.drop f)).getD k []).getD b 0)+d (c+m) *(((ts.drop c).map (·.drop f)).getD m []).getD b 0:=rfl;rw [e1,e2,ih (by omega),zbO m b (by omega)]
   have:=hs (ts.length-c) (by omega);rw [show c+(ts.length-c)=ts.length by omega] at this;exact this
  ·obtain⟨s,hs,rfl⟩:=List.mem_map.1 hr;rw [List.length_drop,F.len s (List.mem_of_mem_drop hs)];omega
theorem zkv{hs ks ts:List (List Int)}(hl:∀ r∈hs,r.length=n)(kl:∀ r∈ks,r.length=n)(F:FormL (n+n) ts p)(a:Alikes (n+n) (InL ts) (InL (wideL n hs ks))){v:List Int}(hv:v.length=n):Gens n (InL (behindL n ts)) v↔Gens n (InL hs) v∧Gens n (InL ks) v:=
 (zeX F hv).trans ((a _).trans (zkx hl kl hv))
theorem VecN.drop{b off cap:Nat}{us:List Int}{nv:Nat}(h:VecN W (.slice (some ⟨b,off,none⟩) us.length cap) us nv)(hn:n+m=us.length)(hm:0<m):VecN W (.slice (some ⟨b,off+n*2,none⟩) m (cap-n)) (us.drop n) nv:=by
 have hc:us.length≤cap:=by
  obtain⟨_,_,e,h1,-⟩:=h;simp only [zV,true_and] at e;rw [e.2];exact h1
 have hl:(us.drop n).length=m:=by rw [List.length_drop];omega
 refine⟨_,_,by rw [hl],by rw [hl];omega,fun _=>⟨b,off+n*2,rfl,(h.at 0 (by omega)).1,fun i hi=>?_⟩⟩;rw [hl] at hi;obtain⟨-,neg,o,l,c,h1,h2,h3⟩:=h.at (n+i) (by omega);refine⟨neg,o,l,c,?_,?_,?_⟩
 ·rw [show off+n*2+i*2=off+(n+i)*2 by omega];exact h1
 ·rw [show off+n*2+i*2+1=off+(n+i)*2+1 by omega];exact h2
 ·rw [zbX];exact h3
theorem zeW (n:Nat)(ts:List (List Int))(k:Nat)(hk:k<ts.length):behindL n (ts.take (k+1))=behindL n (ts.take k) ++(if (n:Int)≤first ts[k] then [ts[k].drop n] else []):=by
 unfold behindL;rw [List.take_succ_eq_append_getElem hk,List.filter_append,List.map_append];by_cases h:(n:Int)≤first ts[k]
 ·rw [if_pos h,List.filter_cons_of_pos (by simpa using h)];rfl
 ·rw [if_neg h,List.filter_cons_of_neg (by simpa using h)];rfl
theorem zeV (n:Nat)(ts:List (List Int))(k:Nat):(behindL n (ts.take k)).length≤k:=by
 unfold behindL;rw [zM];exact Nat.le_trans (List.length_filter_le _ _) (by rw [List.length_take];omega)
end Go.Proofs.YtdedolkgcdlmeaaGreatDoor
