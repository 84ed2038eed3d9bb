import Derived.Test.YtdedolkgcdlmeaaGreatDoorLatR
import Derived.Test.YtdedolkgcdlmeaaGreatDoorLatQ
import Derived.Test.YtdedolkgcdlmeaaGreatDoorIdxL
import Derived.Test.YtdedolkgcdlmeaaGreatDoorFormB
import Derived.Test.YtdedolkgcdlmeaaGreatDoorGKA
import Derived.Test.YtdedolkgcdlmeaaGreatDoorAddSub
namespace Go.Proofs.YtdedolkgcdlmeaaGreatDoor
open Go.RowKit Limbs
theorem zkO (w:World)(v x:Value)(n nv nx:Nat)(hs:List (List Int))(p:Nat→Nat)(zs:List Int)(hv:∃ u,v=.agg #[.int .i64 (n:Int),u]∧MatN w u hs nv)(hF:FormL n hs p)(hx:VecN w x zs nx)(hz:zs.length=n)(h1:1≤n)(h4:n≤4)(hN:nx+n *(nv+2)≤90000)(hg:Gens n (InL hs) zs):
  Calls Tryz.prog 89 #[v,x] w fun e w'=>∃ P,e=.returned (.tuple #[.slice (some ⟨P,0,none⟩) hs.length hs.length,.bool true])∧VecO w w' P (muchL hs p zs) (nx+hs.length *(nv+2)+1):=
 (zgE w v x n nv nx hs p zs hv hF hx hz h1 h4 hN).mono fun _ _ ⟨_,hc⟩=>hc.elim (fun h=>h.2) (fun h=>absurd ((zdA hF.len hz).2 hg) h.1)
theorem zkN (w:World)(v x:Value)(n nv nx:Nat)(hs:List (List Int))(p:Nat→Nat)(zs:List Int)(hv:∃ u,v=.agg #[.int .i64 (n:Int),u]∧MatN w u hs nv)(hF:FormL n hs p)(hx:VecN w x zs nx)(hz:zs.length=n)(h1:1≤n)(h4:n≤4)(hN:nx+n *(nv+2)≤90000)(hg:¬ Gens n (InL hs) zs):
  Calls Tryz.prog 89 #[v,x] w fun e w'=>e=.returned (.tuple #[.slice none 0 0,.bool false])∧Below w.heap.size w w':=
 (zgE w v x n nv nx hs p zs hv hF hx hz h1 h4 hN).mono fun _ _ ⟨hb,hc⟩=>hc.elim (fun h=>absurd ((zdA hF.len hz).1 h.1) hg) (fun h=>⟨h.2,hb⟩)
def MemberPost (w:World)(n nv nx:Nat)(hs:List (List Int))(p:Nat→Nat)(zs:List Int)(e:Ending)(w':World):Prop:=
 Below w.heap.size w w'∧((Gens n (InL hs) zs∧∃ P,e=.returned (.tuple #[.slice (some ⟨P,0,none⟩) hs.length hs.length,.bool true,.nilIface])∧VecO w w' P (muchL hs p zs) (nx+hs.length *(nv+2)+1)) ∨
  (¬ Gens n (InL hs) zs∧e=.returned (.tuple #[.slice none 0 0,.bool false,.nilIface])))
structure AllI (w W:World)(n:Nat)(u v:Value)(m:Nat)(rows:List (List Int))(k N:Nat):Prop where
 low:Below w.heap.size w W
 lt:w.heap.size+2 < W.heap.size
 blk:∃ cs t,W.heap[w.heap.size+2]?=some (.cells cs t)
 box:Box W w.heap.size (.int .i64 (n:Int)) u
 box2:Box W (w.heap.size+1) (.int .i64 (n:Int)) v
 nil:∀ i,k≤i→i < m→W.cell? ⟨w.heap.size+2,i,none⟩=some (.slice none 0 0)
 row:∀ i,i < k→∃ Q,W.cell? ⟨w.heap.size+2,i,none⟩=some (.slice (some ⟨Q,0,none⟩) (rows.getD i []).length (rows.getD i []).length)∧VecN W (.slice (some ⟨Q,0,none⟩) (rows.getD i []).length (rows.getD i []).length) (rows.getD i []) N∧Q < W.heap.size∧Q≠w.heap.size+2
theorem AllI.start {w W0:World}(hsz:W0.heap.size=w.heap.size+2)(hb:Below w.heap.size w W0){n:Nat}{u v:Value}(hx:Box W0 w.heap.size (.int .i64 (n:Int)) u)(hy:Box W0 (w.heap.size+1) (.int .i64 (n:Int)) v)(m:Nat)(rows:List (List Int))(N:Nat):AllI w (W0.alloc (.cells (madeCells #[.slice none 0 0] m) 72)) n u v m rows 0 N:=by
 have hbb:=(Below.refl W0.heap.size W0).alloc zL (.cells (madeCells #[.slice none 0 0] m) 72)
 refine⟨hb.alloc hb.size _,by simp;omega,⟨_,_,by have:=heap_alloc_new W0 (.cells (madeCells #[.slice none 0 0] m) 72);rw [hsz] at this;exact this⟩,hx.later hbb (by omega),hy.later hbb (by omega),fun i _ hi=>?_,fun i hi=>absurd hi (by omega)⟩
 rw [← hsz,World.cell?_alloc_new]
 exact zfG m i hi
theorem AllI.later {w W W':World}{n:Nat}{u v:Value}{m:Nat}{rows:List (List Int)}{k N:Nat}(h:AllI w W n u v m rows k N)(hb:Below W.heap.size W W'):AllI w W' n u v m rows k N where
 low:=h.low.trans (hb.mono h.low.size)
 lt:=zT h.lt hb.size
 blk:=by obtain⟨cs,t,e⟩:=h.blk;exact⟨cs,t,(hb.block _ (zw e)).trans e⟩
 box:=h.box.later hb (by have:=h.lt;omega)
 box2:=h.box2.later hb (by have:=h.lt;omega)
 nil:=fun i h1 h2=>(hb.cell (p:=⟨w.heap.size+2,i,none⟩) h.lt).trans (h.nil i h1 h2)
 row:=fun i hi=>by
  obtain⟨Q,e,hv,hq,hne⟩:=h.row i hi
  exact⟨Q,(hb.cell (p:=⟨w.heap.size+2,i,none⟩) h.lt).trans e,hv.below hb zL,zT hq hb.size,hne⟩
theorem AllI.thaw {w W:World}{n:Nat}{u v:Value}{m:Nat}{rows:List (List Int)}{k N:Nat}(h:AllI w W n u v m rows k N)(i:Nat):W.frozen? ⟨w.heap.size+2,i,none⟩=false:=by
 obtain⟨cs,t,e⟩:=h.blk
 simp [World.frozen?,e]
theorem AllI.step {w W:World}{n:Nat}{u v:Value}{m:Nat}{rows:List (List Int)}{k N:Nat}(h:AllI w W n u v m rows k N)(hk:k < m){Q:Nat}(hv:VecN W (.slice (some ⟨Q,0,none⟩) (rows.getD k []).length (rows.getD k []).length) (rows.getD k []) N)(hq:Q < W.heap.size)(hne:Q≠w.heap.size+2):
  AllI w (W.setCell ⟨w.heap.size+2,k,none⟩ (.slice (some ⟨Q,0,none⟩) (rows.getD k []).length (rows.getD k []).length)) n u v m rows (k+1) N:=by
 have hnil:=h.nil k zL hk
 have hu:∀ z,(Value.slice none 0 0)≠.int .u32 z:=fun z e=>by cases e
 refine⟨h.low.setCell (by simp) _,by simpa using h.lt,?_,h.box.other (by omega) _ _,h.box2.other (by omega) _ _,fun i h1 h2=>?_,fun i hi=>?_⟩
 ·obtain⟨cs,t,e⟩:=h.blk
  exact⟨_,t,heap_setCell_same W (w.heap.size+2) k _ _ _ e⟩
 ·exact(World.cell?_setCell_other (h:=fun e=>by simp at e <;> omega) ..).trans (h.nil i (by omega) h2)
 ·by_cases e:i=k
  ·subst e
   exact⟨Q,World.cell?_setCell_same (h:=hnil) ..,hv.other hne hnil hu,by simpa using hq,hne⟩
  ·obtain⟨Q',e',hv',hq',hne'⟩:=h.row i (by omega)
   exact⟨Q',(World.cell?_setCell_other (h:=fun e=>by simp at e <;> omega) ..).trans e',hv'.other hne' hnil hu,by simpa using hq',hne'⟩
theorem AllI.mat {w W:World}{n:Nat}{u v:Value}{m:Nat}{rows:List (List Int)}{N:Nat}(h:AllI w W n u v m rows m N)(hm:rows.length=m):MatN W (.slice (some ⟨w.heap.size+2,0,none⟩) m m) rows N:=by
 subst hm
 refine⟨_,_,rfl,Nat.le_refl _,fun h0=>⟨_,_,rfl,h.lt,fun i zs hi=>?_⟩⟩
 obtain⟨hi',e⟩:=List.getElem?_eq_some_iff.1 hi
 obtain⟨Q,e1,hv,-,-⟩:=h.row i hi'
 rw [zp hi',e] at e1 hv
 exact⟨_,by rw [Nat.zero_add];exact e1,hv⟩
theorem zdV (m:Nat)(hm:m≤1000)(W:World):(Instr.makeSlice 23 (.int .i64 (m:Int)) (.int .i64 (m:Int))).run Tryz.prog W=.ok (.slice (some ⟨W.heap.size,0,none⟩) m m) (W.alloc (.cells (madeCells #[.slice none 0 0] m) 72)):=by
 obtain⟨i0,hi,hz0,hz1,hz2⟩:=info_parts Tryz.infoVec
 have h:=run_make (P:=Tryz.prog) W 23 72 i0 (.slice none 0 0) (by kernel_rfl) hi hz0 .i64 .i64 m m (by omega) (by omega) (by rw [hz2];omega) (by omega)
 rw [hz1,Int.toNat_natCast,Nat.mul_one] at h
 exact h
def AllPost (w:World)(n nv mv:Nat)(hs ks:List (List Int))(p:Nat→Nat)(e:Ending)(w':World):Prop:=
 Below w.heap.size w w'∧(((∀ us∈hs,Gens n (InL ks) us)∧∃ m,e=.returned (.tuple #[m,.bool true])∧MatN w' m (hs.map (muchL ks p)) (nv+ks.length *(mv+2)+1)) ∨
  ((¬ ∀ us∈hs,Gens n (InL ks) us)∧e=.returned (.tuple #[.slice none 0 0,.bool false])))
set_option linter.unusedSimpArgs false in
set_option maxRecDepth 100000 in
set_option maxHeartbeats 4000000 in
theorem zhj (w:World)(va vb:Value)(n nv mv:Nat)(hs ks:List (List Int))(p:Nat→Nat)(ha:LatN w va n hs nv)(hb:∃ u,vb=.agg #[.int .i64 (n:Int),u]∧MatN w u ks mv)(hF:FormL n ks p)(h1:1≤n)(h4:n≤4)(hN:nv+n *(mv+2)≤90000):
  Calls Tryz.prog 84 #[va,vb] w fun e w'=>AllPost w n nv mv hs ks p e w':=by
 have HF:=hide hF
 obtain⟨⟨u,rfl,hu⟩,q,hG⟩:=ha
 obtain⟨v,rfl,hv⟩:=hb
 have HU:=hide hu;have HV:=hide hv;have HG:=hide hG
 have hsh:=hG.short
 have HML:Hid ((hs.map (muchL ks p)).length=hs.length):=List.length_map ..
 obtain⟨uo,ucap,rfl,-,-⟩:=hu
 obtain⟨vo,vcap,rfl,-,-⟩:=hv
 clear hF hG
 have hmk:=zdV hs.length (by omega)
 have HX:=hide (zaH w (.int .i64 (n:Int)) (.slice uo hs.length ucap) (.int .i64 (n:Int)) (.slice vo ks.length vcap) 55 55)
 have HBB:=hide ((Below.refl (w.heap.size+2) ((w.alloc (.cells #[.int .i64 (n:Int),.slice uo hs.length ucap] 55)).alloc (.cells #[.int .i64 (n:Int),.slice vo ks.length vcap] 55))).alloc (by simp) (.cells (madeCells #[.slice none 0 0] hs.length) 72))
 have HS:Hid (AllI w (((w.alloc (.cells #[.int .i64 (n:Int),.slice uo hs.length ucap] 55)).alloc (.cells #[.int .i64 (n:Int),.slice vo ks.length vcap] 55)).alloc (.cells (madeCells #[.slice none 0 0] hs.length) 72)) n (.slice uo hs.length ucap) (.slice vo ks.length vcap) hs.length (hs.map (muchL ks p)) 0 (nv+ks.length *(mv+2)+1)):=by
  exact hide (AllI.start (by simp) HX.out.2.2.1 HX.out.1 HX.out.2.1 _ _ _)
 obtain⟨⟨c0,c1,z0,z1⟩,⟨d0,d1,y0,y1⟩,-,-⟩:=HX.out
 obtain⟨e0,e1,-,-⟩:=HS.out.box
 go_enter Tryz.func84,Tryz.ntmps84
 go_wp2
 clear hmk c0 c1 z0 z1 d0 d1 y0 y1 e0 e1 HX HBB
 go_loopw [17] (fun i wr=>∃ k:Nat,k≤hs.length∧i=.int .i64 k∧Hid (AllI w wr n (.slice uo hs.length ucap) (.slice vo ks.length vcap) hs.length (hs.map (muchL ks p)) k (nv+ks.length *(mv+2)+1))∧Hid (∀ us∈hs.take k,Gens n (InL ks) us)) (fun i _=>hs.length - (intOf i).toNat)
 case atStart=>exact⟨0,Nat.zero_le _,rfl,HS,fun us h=>by simp at h⟩
 case round=>
  clear HS
  obtain⟨k,hk,rfl,HI,HALL⟩:=hrel
  by_cases hkl:k < hs.length
  ·have hmat:=HU.out.below HI.out.low zL
   obtain⟨rb,roff,_,e,lr,ru,cu,hru⟩:=hmat.at k hkl
   simp only [Value.slice.injEq,true_and] at e
   obtain⟨rfl,rfl⟩:=e
   clear hmat
   have HR:=hide hru
   have HM:=hide (HV.out.below HI.out.low zL)
   have HUL:Hid (hs[k].length=n):=HG.out.len _ (List.getElem_mem hkl)
   have HIN:=hide (List.getElem_mem hkl)
   have HTK:Hid (hs.take (k+1)=hs.take k ++ [hs[k]]):=List.take_succ_eq_append_getElem hkl
   have HGD:Hid ((hs.map (muchL ks p)).getD k []=muchL ks p hs[k]):=by
    show _=_
    rw [zp (by rw [List.length_map];exact hkl),List.getElem_map]
   have HLG:=hide (zdA (v:=hs[k]) HF.out.len HUL.out)
   generalize hs[k]=us at *
   obtain⟨ruo,rucap,rfl,-,-⟩:=hru
   obtain⟨c0,c1,z0,z1⟩:=HI.out.box
   obtain⟨d0,d1,y0,y1⟩:=HI.out.box2
   by_cases hgn:Gens n (InL ks) us
   ·have HGN:=hide hgn
    clear hgn
    go_wp2_with fail
    go_region_held3 (fun w'=>w'.cell? ⟨w.heap.size,0,none⟩=some (.int .i64 (n:Int))∧w'.cell? ⟨w.heap.size,1,none⟩=some (.slice (some ⟨rb,roff,none⟩) hs.length ucap)∧w'.cell? ⟨w.heap.size+1,0,none⟩=some (.int .i64 (n:Int))∧w'.cell? ⟨w.heap.size+1,1,none⟩=some (.slice vo ks.length vcap)∧w'.cell? ⟨rb,roff+k,none⟩=some (.slice ruo us.length rucap)) (go_keep)
     (first
      |(go_at_call 89;refine(zkO _ _ _ n mv nv ks p us (by exact⟨_,rfl,HM.out.below (Below.refl _ _).drew zL⟩) HF.out (by exact HR.out.below (Below.refl _ _).drew zL) HUL.out h1 h4 hN HGN.out).mono ?_;rintro e w2 ⟨P,rfl,ho⟩;have hb2:=ho.below;have HB2:=hide (show Below wr.heap.size wr w2 from(Below.refl _ _).drew.trans (hb2.mono (by simp)));have HO2:=hide ho;have HI2:=hide (HI.out.later HB2.out);obtain⟨p0,p1,-,-⟩:=HI2.out.box;obtain⟨p2,p3,-,-⟩:=HI2.out.box2;have p4:=(HB2.out.cell (p:=⟨rb,roff+k,none⟩) lr).trans cu;clear hb2 ho))
    have HN:Hid (AllI w (w2.setCell ⟨w.heap.size+2,k,none⟩ (.slice (some ⟨P,0,none⟩) ks.length ks.length)) n (.slice (some ⟨rb,roff,none⟩) hs.length ucap) (.slice vo ks.length vcap) hs.length (hs.map (muchL ks p)) (k+1) (nv+ks.length *(mv+2)+1)):=by
     have hst:=HI2.out.step hkl (Q:=P) (by rw [HGD.out];exact HO2.out.vec) HO2.out.lt (by have:=HO2.out.low;have:=HI.out.lt;simp at *;omega)
     rw [HGD.out,zaZ] at hst
     exact hide hst
    have HAL:Hid (∀ us∈hs.take (k+1),Gens n (InL ks) us):=by
     intro us' h
     rw [HTK.out] at h
     rcases List.mem_append.1 h with h | h
     ·exact HALL.out us' h
     ·rw [List.mem_singleton.1 h];exact HGN.out
    have k0:=HI2.out.nil k zL hkl
    have t0:=HI2.out.thaw k
    clear HI HI2 HO2 HB2 HALL HTK HR HM p0 p1 p2 p3 p4 c0 c1 z0 z1 d0 d1 y0 y1 cu
    go_wp2
    go_roundw
    case rel=>exact⟨k+1,by omega,by go_num,HN,HAL⟩
    case measure=>simp [intOf];omega
   ·have HGN:=hide hgn
    clear hgn
    go_wp2_with fail
    go_region_held3 (fun w'=>w'.cell? ⟨w.heap.size,0,none⟩=some (.int .i64 (n:Int))∧w'.cell? ⟨w.heap.size,1,none⟩=some (.slice (some ⟨rb,roff,none⟩) hs.length ucap)∧w'.cell? ⟨w.heap.size+1,0,none⟩=some (.int .i64 (n:Int))∧w'.cell? ⟨w.heap.size+1,1,none⟩=some (.slice vo ks.length vcap)∧w'.cell? ⟨rb,roff+k,none⟩=some (.slice ruo us.length rucap)) (go_keep)
     (first
      |(go_at_call 89;refine(zkN _ _ _ n mv nv ks p us (by exact⟨_,rfl,HM.out.below (Below.refl _ _).drew zL⟩) HF.out (by exact HR.out.below (Below.refl _ _).drew zL) HUL.out h1 h4 hN HGN.out).mono ?_;rintro e w2 ⟨rfl,hb2⟩;have HB2:=hide (show Below wr.heap.size wr w2 from(Below.refl _ _).drew.trans (hb2.mono (by simp)));have HI2:=hide (HI.out.later HB2.out);obtain⟨p0,p1,-,-⟩:=HI2.out.box;obtain⟨p2,p3,-,-⟩:=HI2.out.box2;have p4:=(HB2.out.cell (p:=⟨rb,roff+k,none⟩) lr).trans cu;clear hb2))
    have HBL:=hide HI2.out.low
    have HNO:=hide (fun h:∀ us∈hs,Gens n (InL ks) us=>HGN.out (h us HIN.out))
    clear HI HI2 HB2 HALL HTK HR HM p0 p1 p2 p3 p4 c0 c1 z0 z1 d0 d1 y0 y1 cu
    go_wp2
    exact bodyPost_ret (v:=.tuple #[.slice none 0 0,.bool false]) (by simp [results,Tryz.results84,go_sem]) rfl ⟨HBL.out,.inr ⟨HNO.out,rfl⟩⟩
  ·obtain rfl:k=hs.length:=by omega
   have HFI:Hid (∀ us∈hs,Gens n (InL ks) us):=by
    have:=HALL.out
    rw [List.take_length] at this
    exact this
   have HMT:=hide (HI.out.mat HML.out)
   have HBL:=hide HI.out.low
   clear HI
   go_wp2
   exact bodyPost_ret (v:=.tuple #[.slice (some ⟨w.heap.size+2,0,none⟩) hs.length hs.length,.bool true]) (by simp [results,Tryz.results84,go_sem]) rfl ⟨HBL.out,.inl ⟨HFI.out,_,rfl,HMT.out⟩⟩
def InvQ (hs ks:List (List Int))(pk:Nat→Nat)(zs:List Int):Prop:=
 ∃(ys:List Int) (fa fs:List (List Int)) (pa:Nat→Nat) (D:Int),zs=overOne ys∧FormL ks.length fa pa∧Alikes ks.length (InL fa) (InL (muchM hs ks pk))∧fa.length=hs.length∧TurnF ks.length fa fs∧ChI fa.length ys D (ent fs) fa.length (fa.length+1)
theorem InvQ.none {hs ks:List (List Int)}{pk:Nat→Nat}(h:hs.length=0):InvQ hs ks pk []:=by
 have e:hs=[]:=List.length_eq_zero_iff.1 h
 subst e
 have h2:∀ i:Nat,¬ i < ([]:List (List Int)).length:=fun i h=>absurd h (Nat.not_lt_zero i)
 refine⟨[],[],[],fun k=>k,1,rfl,⟨fun r hr=>absurd hr (by simp),⟨fun i k _ h=>absurd h (h2 k),fun i h=>absurd h (h2 i),fun i b h _=>absurd h (h2 i),fun i h=>absurd h (h2 i),fun i k _ h=>absurd h (h2 k)⟩⟩,fun x=>Iff.rfl,rfl,⟨rfl,fun u hu=>absurd hu (by simp),fun x _ k h=>absurd h (h2 k),?_⟩,⟨rfl,fun j h=>absurd h (h2 j),rfl,fun i h=>absurd h (h2 i),fun j _ h=>?_,.of fun i j h _=>absurd h (h2 i)⟩⟩
 ·refine Alikes.of (fun v hv _=>absurd hv (by simp [InL])) fun v hv hl=>?_
  have:v=[]:=List.length_eq_zero_iff.1 hl
  rw [this]
  exact .zero
 ·have h3:j < 0+1:=h
  omega
def QuoLPost (w:World)(hs ks:List (List Int))(pk:Nat→Nat)(e:Ending)(w':World):Prop:=
 ∃(u:Value) (M:Nat) (zs:List Int),e=.returned (.tuple #[.agg #[u,.int .i64 ((ks.length:Int) - (hs.length:Int))],.nilIface])∧VecN w' u zs M∧M≤100000∧zs.length≤4∧(∀ z∈zs,0 < z)∧prodL zs < bp M∧hs.length≤ks.length∧(hs.length=ks.length→prodL zs=absI (det ks.length (ent (muchM hs ks pk))))∧Below w.heap.size w w'∧InvQ hs ks pk zs
theorem VecN.setTwo {W:World}{u:Value}{zs:List Int}{M B:Nat}{u0 u1 y z:Value}(h:VecN W u zs M)(hfr:∀ a l c,u=.slice (some a) l c→B < a.block)(d0:W.cell? ⟨B,0,none⟩=some u0)(d1:W.cell? ⟨B,1,none⟩=some u1)(h0:∀ x,u0≠.int .u32 x)(h1:∀ x,u1≠.int .u32 x):VecN ((W.setCell ⟨B,0,none⟩ y).setCell ⟨B,1,none⟩ z) u zs M:=by
 by_cases hz:0 < zs.length
 ·obtain⟨b,off,cap,rfl⟩:=h.form hz
  have hb:=hfr _ _ _ rfl
  have hne:b≠B:=fun e=>by
   have:B < b:=hb
   omega
  exact(h.other hne d0 h0).other hne ((World.cell?_setCell_other (h:=fun e=>by simp at e) ..).trans d1) h1
 ·obtain⟨ao,cap,e,hc,-⟩:=h
  exact⟨ao,cap,e,hc,fun h=>absurd h hz⟩
theorem zjh {n:Nat}{hs ks:List (List Int)}{ph pk:Nat→Nat}(F:FormL n hs ph)(G:FormL n ks pk)(hin:∀ r∈hs,Gens n (InL ks) r):hs.length≤ks.length:=
 zbx hs.length ks.length n (ent hs) (ent ks) (ent (muchM hs ks pk)) ph F.form.lt (fun i k hi hki=>F.form.zero i (ph k) hi (F.form.inc k i hki hi)) (fun i hi=>F.form.pos i hi) (fun i b hi hb=>zdK G F.len hin i b hi hb)
theorem zeC {k nv:Nat}(hk:k < 4){x:Int}(h:absI x≤2 ^ k * bp nv):ab x < bp (nv+1):=by
 have e:bp (nv+1)=4294967296 * bp nv:=rfl
 have hp:=zD nv
 have h8:(2:Int) ^ k≤8:=(by decide:∀ k,k < 4→(2:Int) ^ k≤8) k hk
 have h9:=Int.mul_le_mul_of_nonneg_right h8 (show 0≤bp nv by omega)
 have h10:ab x≤2 ^ k * bp nv:=h
 rw [e]
 omega
theorem zjT {w w':World}{u m:Value}{n nv N:Nat}{hs ks:List (List Int)}{pk:Nat→Nat}(hu:MatN w u hs nv)(hl:∀ r∈hs,r.length=n)(G:FormL n ks pk)(h4:n≤4)(hin:∀ r∈hs,Gens n (InL ks) r)(hm:MatN w' m (muchM hs ks pk) N):MatN w' m (muchM hs ks pk) (nv+1):=
 hm.tight fun zs hz j hj=>by
  obtain⟨r,hr,rfl⟩:=List.mem_map.1 hz
  rw [zaZ] at hj
  have hs':=G.short
  exact zeC (show j < 4 by omega) (zfK G (hl r hr) (hin r hr) (fun b hb=>Int.le_of_lt (hu.abs r hr b (by rw [hl r hr];exact hb))) j hj)
set_option linter.unusedSimpArgs false in
set_option maxRecDepth 100000 in
set_option maxHeartbeats 3200000 in
theorem zgg (w:World)(va vb:Value)(n nv mv:Nat)(hs ks:List (List Int))(pk:Nat→Nat)(ha:LatN w va n hs nv)(hb:LatN w vb n ks mv)(G:FormL n ks pk)(h1:1≤n)(h4:n≤4)(hN:nv+n *(mv+2)≤90000)(hin:∀ r∈hs,Gens n (InL ks) r)(hR:∀ m,1≤m→m≤4→RoomS m (nv+1)):
  Calls Tryz.prog 39 #[va,vb] w fun e w'=>QuoLPost w hs ks pk e w':=by
 have HA:=hide ha;have HB:=hide hb;have HG:=hide G;have HIN:=hide hin;have HR:=hide hR
 obtain⟨⟨u,rfl,hu⟩,ph,hF⟩:=ha
 obtain⟨⟨v,rfl,hv⟩,-⟩:=hb
 have HU:=hide hu;have HF:=hide hF
 have hsh:=zjh hF G hin
 have hks:=G.short
 obtain⟨uo,ucap,rfl,-,-⟩:=hu
 obtain⟨vo,vcap,rfl,-,-⟩:=hv
 clear hF G hin hR
 have HX:=hide (zaH w (.int .i64 (n:Int)) (.slice uo hs.length ucap) (.int .i64 (n:Int)) (.slice vo ks.length vcap) 55 55)
 have HY:=hide (zj ((w.alloc (.cells #[.int .i64 (n:Int),.slice uo hs.length ucap] 55)).alloc (.cells #[.int .i64 (n:Int),.slice vo ks.length vcap] 55)) (.slice none 0 0) (.int .i64 0) 77 (w.heap.size+1+1) (by simp))
 have HZ:=hide ((Below.refl (w.heap.size+2) ((w.alloc (.cells #[.int .i64 (n:Int),.slice uo hs.length ucap] 55)).alloc (.cells #[.int .i64 (n:Int),.slice vo ks.length vcap] 55))).alloc (by simp) (.cells #[.slice none 0 0,.int .i64 0] 77))
 have HC:=hide (HX.out.1.later HZ.out (by omega))
 have HD:=hide (HX.out.2.1.later HZ.out (by omega))
 have HB0:=hide (HX.out.2.2.1.trans (HZ.out.mono (by omega)))
 have HSZ:Hid (w.heap.size+1+1 < (((w.alloc (.cells #[.int .i64 (n:Int),.slice uo hs.length ucap] 55)).alloc (.cells #[.int .i64 (n:Int),.slice vo ks.length vcap] 55)).alloc (.cells #[.slice none 0 0,.int .i64 0] 77)).heap.size):=by show _ < _;simp
 obtain⟨c0,c1,z0,z1⟩:=HC.out
 obtain⟨d0,d1,y0,y1⟩:=HD.out
 go_enter Tryz.func39,Tryz.ntmps39
 go_wp2_with fail
 clear c0 c1 z0 z1 d0 d1 y0 y1 HX HZ
 generalize (((w.alloc (.cells #[.int .i64 (n:Int),.slice uo hs.length ucap] 55)).alloc (.cells #[.int .i64 (n:Int),.slice vo ks.length vcap] 55)).alloc (.cells #[.slice none 0 0,.int .i64 0] 77))=W0 at *
 refine(zcX W0 _ _ n nv mv hs ks (by exact HA.out.below HB0.out) (by exact HB.out.below HB0.out) h1 h4).mono ?_
 rintro e w1 ⟨rfl,hb1⟩
 have HB1:=hide (HB0.out.trans (hb1.mono HB0.out.size))
 have HC1:=hide (HC.out.later hb1 (by have:=HSZ.out;omega))
 have HD1:=hide (HD.out.later hb1 (by have:=HSZ.out;omega))
 have HE1:=hide (HY.out.later hb1 HSZ.out)
 have HS1:=hide (zT HSZ.out hb1.size)
 clear hb1 HC HD HY HSZ HB0
 obtain⟨c0,c1,-,-⟩:=HC1.out
 obtain⟨d0,d1,-,-⟩:=HD1.out
 go_wp2_with fail
 refine(zhj w1 _ _ n nv mv hs ks pk (by exact HA.out.below HB1.out) (by obtain⟨⟨u,e,h⟩,-⟩:=HB.out;exact⟨u,e,h.below HB1.out zL⟩) HG.out h1 h4 hN).mono ?_
 rintro e w2 ⟨hb2,hcase⟩
 have HB2:=hide (HB1.out.trans (hb2.mono HB1.out.size))
 have HD2:=hide (HD1.out.later hb2 (by have:=HS1.out;omega))
 have HE2:=hide (HE1.out.later hb2 HS1.out)
 have HS2:=hide (zT HS1.out hb2.size)
 clear hb2 c0 c1 d0 d1 HC1 HD1 HE1 HS1 HB1
 rcases hcase with⟨-,m,rfl,hm⟩ |⟨hl,-⟩
 ·have HM:=hide (zjT HU.out HF.out.len HG.out h4 HIN.out (show MatN w2 m (muchM hs ks pk) _ from hm))
  obtain⟨mo,mcap,rfl,-,-⟩:=hm
  rw [show(hs.map (muchL ks pk)).length=hs.length from List.length_map ..]
  have HM':=HM.out
  rw [show(hs.map (muchL ks pk)).length=hs.length from List.length_map ..] at HM'
  have HM2:=hide HM'
  clear HM HM'
  obtain⟨d0,d1,-,-⟩:=HD2.out
  by_cases h0:hs.length=0
  ·obtain⟨e0,e1,f0,f1⟩:=HE2.out
   have g1:((hs.length:Int) == 0)=true:=by rw [h0];rfl
   have g2:(hs.length:Int)=0:=by omega
   have HP:Hid (QuoLPost w hs ks pk (.returned (.tuple #[.agg #[.slice none 0 0,.int .i64 (ks.length:Int)],.nilIface])) ((w2.setCell ⟨w.heap.size+1+1,0,none⟩ (.slice none 0 0)).setCell ⟨w.heap.size+1+1,1,none⟩ (.int .i64 (ks.length:Int)))):=
    ⟨.slice none 0 0,1,[],by rw [show((ks.length:Int) - (hs.length:Int))=(ks.length:Int) by omega],⟨none,0,rfl,Nat.le_refl _,fun h=>absurd h (by simp)⟩,by decide,by decide,fun z hz=>by(cases hz),by decide,hsh,fun h=>by
     have hk0:ks.length=0:=by omega
     rw [hk0];exact(zad (x:=1) (by decide)).symm,(HB2.out.setCell (p:=⟨w.heap.size+1+1,0,none⟩) (by show w.heap.size≤w.heap.size+1+1;omega) _).setCell (p:=⟨w.heap.size+1+1,1,none⟩) (by show w.heap.size≤w.heap.size+1+1;omega) _,.none h0⟩
   clear h0
   go_wp2
   exact bodyPost_ret (v:=.tuple #[.agg #[.slice none 0 0,.int .i64 (ks.length:Int)],.nilIface]) (by simp [results,Tryz.results39,go_sem,e0,e1]) rfl HP.out
  ·have g1:((hs.length:Int) == 0)=false:=beq_eq_false_iff_ne.2 (by omega)
   have g2:¬((hs.length:Int)=0):=by omega
   go_wp2_with fail
   refine(zkV w2 _ (muchM hs ks pk) ks.length (nv+1) (by exact HM2.out) (za8 hs ks pk) (by omega) (by omega) (by rw [za9];omega) (HR.out ks.length (by omega) (by omega))).mono ?_
   rintro e w3 ⟨P,M,ys,fa,fs,pa,D,rfl,a1,a2,a3,a4,a8,a5,a6,a7⟩
   have hfa:fa.length=hs.length:=zjS HF.out HG.out HIN.out a1 a2
   have HDD:Hid (hs.length=ks.length→D=absI (det ks.length (ent (muchM hs ks pk)))):=fun h=>by
    have hf:fa.length=ks.length:=by omega
    rw [a6 hf]
    exact(zeT (by rw [za9];exact h) (za8 hs ks pk) (zbB a1 hf) a2).symm
   have HYL:=hide a4.len
   have HIQ:Hid (InvQ hs ks pk (overOne ys)):=⟨ys,fa,fs,pa,D,rfl,a1,a2,hfa,a8,a4⟩
   have HYP:Hid (∀ z∈ys,0 < z):=fun z hz=>by
    obtain⟨i,hi,e⟩:=List.getElem_of_mem hz
    have:=a4.pos i (by rw [← a4.len];exact hi)
    rw [List.getD_eq_getElem?_getD,List.getElem?_eq_getElem hi,Option.getD_some,e] at this
    exact this
   have HPR:Hid (prodL ys=D):=by
    have h1:=a4.prod
    rw [← a4.len,zkl ys ys.length zL,List.take_length] at h1
    exact h1
   have HB3:=hide (HB2.out.trans (a3.below.mono HB2.out.size))
   have HD3:=hide (HD2.out.later a3.below (by have:=HS2.out;omega))
   have HE3:=hide (HE2.out.later a3.below HS2.out)
   have HS3:=hide (zT HS2.out a3.below.size)
   have hyl:ys.length=hs.length:=by rw [a4.len,hfa]
   have HVY:Hid (VecN w3 (.slice (some ⟨P,0,none⟩) hs.length hs.length) ys M):=by
    have:=a3.vec
    rw [hyl] at this
    exact this
   have HA5:=hide a5
   rw [hfa]
   clear a1 a2 a3 a4 a5 a6 a8 HB2 HD2 HE2 HS2 d0 d1 g1 g2 h0
   obtain⟨d0,d1,-,-⟩:=HD3.out
   have HYL2:=hide hyl
   clear hyl hfa
   have hwr:IntKind.i64.wrap ((ks.length:Int) - (hs.length:Int))=(ks.length:Int) - (hs.length:Int):=by rw [IntKind.wrap_i64];omega
   go_wp2_with fail
   refine zgZ (A:=fun j=>decide (j=1∨j=3)) (S:=(fun w'=>w'.cell? ⟨w.heap.size+1,1,none⟩=some (.slice vo ks.length vcap))) (by kernel_rfl) (by exact d1) (fun hHeld=>?_)
   refine zE 0 43 ?_
   try simp only [zA]
   refine zE 2 45 ?_
   try simp only [zA]
   refine zE 5 48 ?_
   try simp only [zA]
   refine zE 6 49 ?_
   try simp only [zA]
   refine zea (v:=?_) 3 46 [4,7,8,9,10] rfl rfl (by kernel_rfl) (by kernel_rfl) (by kernel_rfl) (by kernel_rfl) (fun _ _ _ h=>h) (by rfl) ?_ (by assumption) ?_
   rotate_left
   ·(intro w hSw;(try dsimp only at hSw);go_simp;with_reducible rfl)
   try simp only [zA]
   refine zE 4 47 ?_
   try simp only [zA]
   refine zE 7 50 ?_
   try simp only [zA]
   refine zbF 1 (by kernel_rfl) rfl (fun K hK=>?_)
   go_simp
   refine(zha w3.drew _ ys M (by exact HVY.out.below (Below.refl w3.heap.size w3).drew zL) (by have:=HYL2.out;omega)).mono ?_
   rintro e w4 ⟨uu,rfl,hu4,hfr4,hb4⟩
   have hb4':Below w3.heap.size w3 w4:=(Below.refl _ _).drew.trans hb4
   have HD4:=hide (HD3.out.later hb4' (by have:=HS3.out;omega))
   have HE4:=hide (HE3.out.later hb4' HS3.out)
   have HB4:=hide (HB3.out.trans (hb4'.mono HB3.out.size))
   have d2:=HD4.out.2.1
   have HPF:=hide ((zki ys HYP.out).trans HPR.out)
   have HP:Hid (QuoLPost w hs ks pk (.returned (.tuple #[.agg #[uu,.int .i64 ((ks.length:Int) - (hs.length:Int))],.nilIface])) ((w4.setCell ⟨w.heap.size+1+1,0,none⟩ uu).setCell ⟨w.heap.size+1+1,1,none⟩ (.int .i64 ((ks.length:Int) - (hs.length:Int))))):=
    ⟨uu,M,overOne ys,rfl,hu4.setTwo (fun a l c e=>by have h1:=hfr4 a l c e;have h2:=HS3.out;have h3:w3.heap.size≤a.block:=h1;omega) HE4.out.1 HE4.out.2.1 (fun x e=>by cases e) (fun x e=>by cases e),a7,Nat.le_trans (List.length_filter_le _ _) (by have:=HYL2.out;omega),fun z hz=>HYP.out z (List.mem_filter.1 hz).1,by
     show prodL (overOne ys) < bp M
     unfold overOne
     rw [HPF.out];exact HA5.out,hsh,fun h=>by
     show prodL (overOne ys)=_
     unfold overOne
     rw [HPF.out];exact HDD.out h,(HB4.out.setCell (p:=⟨w.heap.size+1+1,0,none⟩) (by show w.heap.size≤w.heap.size+1+1;omega) _).setCell (p:=⟨w.heap.size+1+1,1,none⟩) (by show w.heap.size≤w.heap.size+1+1;omega) _,HIQ.out⟩
   obtain⟨zo,zcap,rfl,-,-⟩:=hu4
   clear hfr4 hb4 hb4' d0 d1
   go_wp2_with fail
   refine hK.out _ _ (fun _=>d2) ?_
   clear hK K hHeld
   try simp only [zA]
   refine zE 8 51 ?_
   try simp only [zA]
   obtain⟨e0,e1,f0,f1⟩:=HE4.out
   refine zbF 9 (by kernel_rfl) rfl (fun K hK=>?_)
   go_simp
   refine hK.out _ _ (fun h=>absurd h (by decide)) ?_
   clear hK K
   try simp only [zA]
   refine zE 10 5 ?_
   try simp only [zA]
   refine zgY (by kernel_rfl) ?_
   have x0:((w4.setCell ⟨w.heap.size+1+1,0,none⟩ (.slice zo (overOne ys).length zcap)).setCell ⟨w.heap.size+1+1,1,none⟩ (.int .i64 ((ks.length:Int) - (hs.length:Int)))).cell? ⟨w.heap.size+1+1,0,none⟩=some (.slice zo (overOne ys).length zcap):=(HE4.out.write _ _).1
   have x1:((w4.setCell ⟨w.heap.size+1+1,0,none⟩ (.slice zo (overOne ys).length zcap)).setCell ⟨w.heap.size+1+1,1,none⟩ (.int .i64 ((ks.length:Int) - (hs.length:Int)))).cell? ⟨w.heap.size+1+1,1,none⟩=some (.int .i64 ((ks.length:Int) - (hs.length:Int))):=(HE4.out.write _ _).2.1
   clear e0 e1 f0 f1 d2
   go_wp2
   exact bodyPost_ret (v:=.tuple #[.agg #[.slice zo (overOne ys).length zcap,.int .i64 ((ks.length:Int) - (hs.length:Int))],.nilIface]) (by simp [results,Tryz.results39,go_sem,x0,x1]) rfl HP.out
 ·exact absurd HIN.out hl
def IdxPost (w:World)(hs ks:List (List Int))(pk:Nat→Nat)(e:Ending)(w':World):Prop:=
 Below w.heap.size w w'∧((hs.length < ks.length∧e=.returned (.tuple #[.agg #[.bool false,.slice none 0 0],.iface 102 (.int .i64 13)])) ∨
  (hs.length=ks.length∧∃ v M,e=.returned (.tuple #[v,.nilIface])∧NumL w' v (absI (det ks.length (ent (muchM hs ks pk)))) M∧M≤100000))
def BoxL (W:World)(B:Nat)(u0 u1:Value):Prop:=Box W B u0 u1∧B < W.heap.size
theorem BoxL.later {W W':World}{B:Nat}{u0 u1:Value}(h:BoxL W B u0 u1)(hb:Below W.heap.size W W'):BoxL W' B u0 u1:=⟨h.1.later hb h.2,zT h.2 hb.size⟩
theorem BoxL.new (W:World)(u0 u1:Value)(t:TypeId):BoxL (W.alloc (.cells #[u0,u1] t)) W.heap.size u0 u1:=⟨zj W u0 u1 t _ rfl,by simp⟩
theorem zaP (W:World)(ob:Obj):Below W.heap.size W (W.alloc ob):=(Below.refl _ _).alloc zL _
end Go.Proofs.YtdedolkgcdlmeaaGreatDoor
/- Plain arithmetic of the reference's digits: numbers to the base 10000, the lowest first. No Go in it. -/
namespace Go.Proofs.YtdedolkgcdlmeaaGreatDoor.Digs
open Limbs
def dv:List Int→Int
 | []=>0
 | x :: xs=>x+10000 * dv xs
def DB (zs:List Int):Prop:=∀ i:Nat,0≤zs.getD i 0∧zs.getD i 0 < 10000
def dp:Nat→Int
 | 0=>1
 | n+1=>10000 * dp n
theorem zaL (n:Nat):0 < dp n:=by
 induction n with
 | zero=>simp [dp]
 | succ n ih=>simp only [dp];omega
theorem zeZ (m n:Nat):dp (m+n)=dp m * dp n:=by
 induction m with
 | zero=>simp [dp]
 | succ m ih=>rw [Nat.succ_add];simp only [dp];rw [ih,Int.mul_assoc]
theorem zbP {m n:Nat}(h:m≤n):dp m≤dp n:=by
 obtain⟨k,rfl⟩:=Nat.exists_eq_add_of_le h
 rw [zeZ]
 have h1:=zaL m
 have h2:=zaL k
 have:dp m * 1≤dp m * dp k:=Int.mul_le_mul_of_nonneg_left (by omega) (by omega)
 omega
theorem zbc:DB []:=by intro i;simp
theorem zef {x:Int}{xs:List Int}(h:DB (x :: xs)):DB xs:=fun i=>by simpa using h (i+1)
theorem zed {x:Int}{xs:List Int}(h:DB (x :: xs)):0≤x∧x < 10000:=by simpa using h 0
theorem zcj {x:Int}{xs:List Int}(hx:0≤x∧x < 10000)(h:DB xs):DB (x :: xs):=by
 intro i
 cases i with
 | zero=>simpa using hx
 | succ i=>simpa using h i
theorem zg3 {zs:List Int}(h:∀ z∈zs,0≤z∧z < 10000):DB zs:=by
 induction zs with
 | nil=>exact zbc
 | cons x xs ih=>exact zcj (h x (by simp)) (ih fun z hz=>h z (by simp [hz]))
theorem zbG {zs:List Int}(h:DB zs)(k:Nat):DB (zs.take k):=by
 intro i
 have:=h i
 by_cases hk:i < k
 ·simpa [List.getD_eq_getElem?_getD,List.getElem?_take,hk] using this
 ·simp [List.getD_eq_getElem?_getD,List.getElem?_take,hk]
theorem zaV {zs:List Int}(h:DB zs):0≤dv zs:=by
 induction zs with
 | nil=>simp [dv]
 | cons x xs ih=>have:=ih (zef h);have:=zed h;simp only [dv];omega
theorem zbR {zs:List Int}(h:DB zs):dv zs < dp zs.length:=by
 induction zs with
 | nil=>simp [dv,dp]
 | cons x xs ih=>have:=ih (zef h);have:=zed h;simp only [dv,List.length_cons,dp];omega
theorem zdj (xs ys:List Int):dv (xs ++ ys)=dv xs+dp xs.length * dv ys:=by
 induction xs with
 | nil=>simp [dv,dp]
 | cons x xs ih=>simp only [List.cons_append,dv,ih,List.length_cons,dp];rw [Int.mul_add,Int.mul_assoc];omega
theorem zaC (zs:List Int)(k:Nat):dv (zs.take (k+1))=dv (zs.take k)+dp k * zs.getD k 0:=by
 by_cases h:k < zs.length
 ·rw [List.take_succ_eq_append_getElem h,zdj]
  simp [dv,List.length_take,Nat.min_eq_left (Nat.le_of_lt h),List.getD_eq_getElem?_getD,h]
 ·rw [List.take_of_length_le (by omega),List.take_of_length_le (by omega)]
  simp [List.getD_eq_getElem?_getD,List.getElem?_eq_none (Nat.le_of_not_lt h)]
theorem zdk (zs:List Int)(k:Nat)(h:k≤zs.length):dv zs=dv (zs.take k)+dp k * dv (zs.drop k):=by
 have:=zdj (zs.take k) (zs.drop k)
 rw [List.take_append_drop,List.length_take,Nat.min_eq_left h] at this
 exact this
theorem zbj (zs:List Int){k:Nat}(h:zs.length≤k):dv (zs.take k)=dv zs:=by
 rw [List.take_of_length_le h]
theorem ziy {zs:List Int}(h:DB zs)(k:Nat):dv (zs.take k) < dp k:=by
 have h1:=zbR (zbG h k)
 have h2:dp (zs.take k).length≤dp k:=zbP (List.length_take_le k zs)
 omega
theorem ze6 {zs:List Int}(h:DB zs)(k:Nat):0≤dv (zs.take k):=zaV (zbG h k)
theorem ze4 {a b:List Int}(ha:DB a)(hb:DB b)(hl:a.length=b.length){k:Nat}(hk:k < a.length)(hd:a.drop (k+1)=b.drop (k+1))(hx:a.getD k 0 < b.getD k 0):dv a < dv b:=by
 have e1:=zdk a k (by omega)
 have e2:=zdk b k (by omega)
 rw [zB a k hk] at e1
 rw [zB b k (by omega),← hd] at e2
 simp only [dv] at e1 e2
 have h1:=ziy ha k
 have h2:=ze6 hb k
 generalize dv (a.drop (k+1))=t at e1 e2
 have hp:=zaL k
 have h3:dp k *(a.getD k 0+10000 * t+1)≤dp k *(b.getD k 0+10000 * t):=Int.mul_le_mul_of_nonneg_left (by omega) (by omega)
 rw [Int.mul_add,Int.mul_one] at h3
 omega
theorem zdM {zs:List Int}(h:DB zs)(hn:Nrm zs)(h0:0 < zs.length):dp (zs.length - 1)≤dv zs:=by
 have e:=zdk zs (zs.length - 1) (by omega)
 rw [zB zs (zs.length - 1) (by omega)] at e
 have hd:zs.drop (zs.length - 1+1)=[]:=List.drop_eq_nil_of_le (by omega)
 rw [hd] at e
 simp only [dv] at e
 have h1:=ze6 h (zs.length - 1)
 have h2:=h (zs.length - 1)
 have h3:zs.getD (zs.length - 1) 0≠0:=by rcases hn with hn | hn;omega;exact hn
 have hp:=zaL (zs.length - 1)
 have h4:dp (zs.length - 1) * 1≤dp (zs.length - 1) *(zs.getD (zs.length - 1) 0+10000 * 0):=Int.mul_le_mul_of_nonneg_left (by omega) (by omega)
 omega
theorem zcu {a b:List Int}(ha:DB a)(hb:DB b)(hn:Nrm b)(hl:a.length < b.length):dv a < dv b:=by
 have h1:=zbR ha
 have h2:=zdM hb hn (by omega)
 have h3:dp a.length≤dp (b.length - 1):=zbP (by omega)
 omega
theorem zdl {zs:List Int}(h:DB zs)(hn:Nrm zs):dv zs=0↔zs.length=0:=by
 constructor
 ·intro h0
  by_cases hl:zs.length=0
  ·exact hl
  ·have h1:=zdM h hn (by omega)
   have:=zaL (zs.length - 1)
   omega
 ·intro hl
  rw [List.eq_nil_of_length_eq_zero hl];rfl
theorem zfv {zs:List Int}(h:DB zs)(hn:Nrm zs){n:Nat}(hlt:dv zs < dp n):zs.length≤n:=by
 by_cases hl:zs.length≤n
 ·exact hl
 ·have h1:=zdM h hn (by omega)
  have h2:dp n≤dp (zs.length - 1):=zbP (by omega)
  omega
theorem zee {zs:List Int}(h:DB zs)(k:Nat){z:Int}(hz:0≤z∧z < 10000):DB (zs.set k z):=by
 intro i
 rw [List.getD_eq_getElem?_getD,List.getElem?_set]
 by_cases hk:k=i
 ·subst hk
  by_cases hl:k < zs.length <;> simp [hl,hz]
 ·have:=h i
  simpa [hk,List.getD_eq_getElem?_getD] using this
theorem zix (zs:List Int)(k:Nat)(z:Int)(h:k < zs.length):dv (zs.set k z)=dv zs+dp k *(z - zs.getD k 0):=by
 induction zs generalizing k with
 | nil=>simp at h
 | cons x xs ih=>
  cases k with
  | zero=>simp [dv,dp];omega
  | succ k=>
   have:=ih k (by simpa using h)
   simp only [List.set_cons_succ,dv,this,dp,List.getD_cons_succ]
   rw [Int.mul_add,Int.mul_assoc];omega
theorem ziw (n:Nat):dv (List.replicate n 0)=0:=by
 induction n with
 | zero=>rfl
 | succ n ih=>simp only [List.replicate_succ,dv,ih];rfl
theorem zg4 (n:Nat):DB (List.replicate n 0):=zg3 fun z hz=>by
 rw [List.eq_of_mem_replicate hz];decide
end Go.Proofs.YtdedolkgcdlmeaaGreatDoor.Digs
