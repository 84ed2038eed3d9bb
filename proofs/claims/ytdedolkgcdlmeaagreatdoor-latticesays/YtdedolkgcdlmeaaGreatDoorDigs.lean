import Derived.Test.YtdedolkgcdlmeaaGreatDoorLatG
set_option maxRecDepth 100000
set_option maxHeartbeats 4000000
set_option linter.unusedSimpArgs false
namespace Go.Proofs.YtdedolkgcdlmeaaGreatDoor
open Go.RowKit Limbs
variable{w W:World}{n m N k:Nat}{u v:Value}
theorem zcW (w:World)(va vb:Value)(n nv mv:Nat)(hs ks:List (List Int))(ha:LatN w va n hs nv)(hb:LatN w vb n ks mv)(h1:1≤n)(h4:n≤4):
  Calls Tryz.prog 80 #[va,vb] w fun e w'=>e=.returned .nilIface∧Below w.heap.size w w':=by
 have HA:=hide ha;have HB:=hide hb;obtain⟨⟨u,rfl,⟨uo,ucap,rfl,-,-⟩⟩,-⟩:=ha;obtain⟨⟨v,rfl,⟨vo,vcap,rfl,-,-⟩⟩,-⟩:=hb;have HX:=hide (z8 w (.int .i64 (n:Int)) (.slice uo hs.length ucap) (.int .i64 (n:Int)) (.slice vo ks.length vcap) 55 55);obtain⟨⟨c0,c1,z0,z1⟩,⟨d0,d1,y0,y1⟩,-,-⟩:=HX.out;go_enter Tryz.func80,Tryz.ntmps80;go_wp2_with fail;clear c0 c1 z0 z1 d0 d1 y0 y1;generalize ((w.alloc (.cells #[.int .i64 (n:Int),.slice uo hs.length ucap] 55)).alloc (.cells #[.int .i64 (n:Int),.slice vo ks.length vcap] 55))=W0 at *;refine(zaA W0 _ n nv hs (by exact HA.out.below HX.out.2.2.1) h1 h4).mono ?_;rintro e w1 ⟨rfl,hb1⟩;have HB1:=hide (HX.out.2.2.1.trans (hb1.mono HX.out.2.2.1.size));have HC1:=hide (HX.out.1.later hb1 (by have:=HX.out.2.2.2;omega));have HD1:=hide (HX.out.2.1.later hb1 HX.out.2.2.2);have HL1:=hide (zT HX.out.2.2.2 hb1.size);obtain⟨d0,d1,y0,y1⟩:=HD1.out;clear hb1 HX;go_wp2_with fail;refine(zaA w1 _ n mv ks (by exact HB.out.below HB1.out) h1 h4).mono ?_;rintro e w2 ⟨rfl,hb2⟩;have HB2:=hide (HB1.out.trans (hb2.mono HB1.out.size));clear d0 d1 y0 y1;obtain⟨c0,c1,z0,z1⟩:=HC1.out.later hb2 (by have:=HL1.out;omega);obtain⟨d0,d1,y0,y1⟩:=HD1.out.later hb2 HL1.out;clear hb2 HB1 HC1 HD1;go_wp2;go_ret;exact⟨rfl,HB2.out⟩
theorem zkz (w:World)(va vb:Value)(n nv:Nat)(hs ks:List (List Int))(ha:LatN w va n hs nv)(hb:LatN w vb n ks nv)(h1:1≤n)(h4:n≤4)(hN:nbK n (n*nv+2) nv n≤100000):
  Calls Tryz.prog 30 #[va,vb] w fun e w'=>InsPost w n nv (hs++ks) e w':=by
 have HA:=hide ha;have HB:=hide hb;have HN:=hide hN;obtain⟨⟨u,rfl,hu⟩,p,hF⟩:=ha;obtain⟨⟨v,rfl,hv⟩,p',hF'⟩:=hb;have HU:=hide hu;have HV:=hide hv;have hl1:=hF.short;have hl2:=hF'.short;have HR:Hid (∀ us∈hs++ks,us.length=n):=fun us hus=>by
  rcases List.mem_append.1 hus with hh | hh
  ·exact hF.len us hh
  ·exact hF'.len us hh
 obtain⟨uo,ucap,rfl,-,-⟩:=hu;obtain⟨vo,vcap,rfl,-,-⟩:=hv;clear hF hF' hN;have HX:=hide (z8 w (.int .i64 (n:Int)) (.slice uo hs.length ucap) (.int .i64 (n:Int)) (.slice vo ks.length vcap) 55 55);have HY:=hide (zf ((w.alloc (.cells #[.int .i64 (n:Int),.slice uo hs.length ucap] 55)).alloc (.cells #[.int .i64 (n:Int),.slice vo ks.length vcap] 55)) (.int .i64 0) (.slice none 0 0) 55 (w.heap.size+1+1) (by simp));have HZ:=hide ((zB (w.heap.size+2) ((w.alloc (.cells #[.int .i64 (n:Int),.slice uo hs.length ucap] 55)).alloc (.cells #[.int .i64 (n:Int),.slice vo ks.length vcap] 55))).alloc (by simp) (.cells #[.int .i64 0,.slice none 0 0] 55));have HC:=hide (HX.out.1.later HZ.out (by omega));have HD:=hide (HX.out.2.1.later HZ.out (by omega));have HB0:=hide (HX.out.2.2.1.trans (HZ.out.mono (by omega)));have HSZ:Hid (w.heap.size+1+1<(((w.alloc (.cells #[.int .i64 (n:Int),.slice uo hs.length ucap] 55)).alloc (.cells #[.int .i64 (n:Int),.slice vo ks.length vcap] 55)).alloc (.cells #[.int .i64 0,.slice none 0 0] 55)).heap.size):=by show _<_;simp
 obtain⟨c0,c1,z0,z1⟩:=HC.out;obtain⟨d0,d1,y0,y1⟩:=HD.out;go_enter Tryz.func30,Tryz.ntmps30;go_wp2_with fail;clear c0 c1 z0 z1 d0 d1 y0 y1 HX HZ;generalize (((w.alloc (.cells #[.int .i64 (n:Int),.slice uo hs.length ucap] 55)).alloc (.cells #[.int .i64 (n:Int),.slice vo ks.length vcap] 55)).alloc (.cells #[.int .i64 0,.slice none 0 0] 55))=W0 at *;refine(zcW W0 _ _ n nv nv hs ks (by exact HA.out.below HB0.out) (by exact HB.out.below HB0.out) h1 h4).mono ?_;rintro e w1 ⟨rfl,hb1⟩;have HB1:=hide (HB0.out.trans (hb1.mono HB0.out.size));obtain⟨c0,c1,z0,z1⟩:=HC.out.later hb1 (by have:=HSZ.out;omega);obtain⟨d0,d1,y0,y1⟩:=HD.out.later hb1 (by have:=HSZ.out;omega);have HE:=hide (HY.out.later hb1 HSZ.out);have HS1:=hide (zT HSZ.out hb1.size);clear hb1 HC HD HY HSZ HB0;have HBA:=hide ((zB w1.heap.size w1).alloc zL (.cells #[.slice uo hs.length ucap,.slice vo ks.length vcap] 23));have HT:Hid (TwoM (w1.alloc (.cells #[.slice uo hs.length ucap,.slice vo ks.length vcap] 23)) w1.heap.size (.slice uo hs.length ucap) (.slice vo ks.length vcap) hs ks nv):=
  ⟨by simp,by rw [World.cell?_alloc_new];rfl,by rw [World.cell?_alloc_new];rfl,(HU.out.below HB1.out zL).below HBA.out zL,(HV.out.below HB1.out zL).below HBA.out zL⟩
 have HB2:=hide (HB1.out.trans (HBA.out.mono HB1.out.size));have HE2:=hide (HE.out.later HBA.out HS1.out);have HS2:=hide (zT HS1.out HBA.out.size);clear HE HS1 HBA HU HV HA HB HB1;go_wp2_with fail;generalize w1.alloc (.cells #[.slice uo hs.length ucap,.slice vo ks.length vcap] 23)=W2 at *;refine(zdl W2 _ _ _ hs ks n nv (by exact HT.out) (by omega) h1 (by omega) HR.out HN.out).mono ?_;rintro e w3 ⟨u',hs',p',rfl,hu',hb3,hF',hA',hfr⟩;have hpos:∀ us∈hs',0<us.length:=fun us hz=>by rw [hF'.len us hz];omega
 have HB3:=hide (HB2.out.trans (hb3.mono HB2.out.size));clear c0 c1 z0 z1 d0 d1 y0 y1;obtain⟨d0,d1,y0,y1⟩:=HE2.out.later hb3 HS2.out;have HP:Hid (InsPost w n nv (hs++ks) (.returned (.tuple #[.agg #[.int .i64 (n:Int),u'],.nilIface])) ((w3.setCell ⟨w.heap.size+1+1,0,none⟩ (.int .i64 (n:Int))).setCell ⟨w.heap.size+1+1,1,none⟩ u')):=⟨_,hs',rfl,⟨⟨u',rfl,hu'.setBasis _ _ hpos d0 d1⟩,p',hF'⟩,(HB3.out.setCell (by simp;omega) _).setCell (by simp;omega) _,hA',fun x hx=>by simp at hx;rw [← hx];exact hfr.mono HB2.out.size⟩;obtain⟨ro,rcap,rfl,-,-⟩:=hu';clear hF' hA' hfr hpos hb3 HT HR HN HB2 HB3 HE2 HS2;go_wp2;exact bodyPost_ret (v:=.tuple #[.agg #[.int .i64 (n:Int),.slice ro hs'.length rcap],.nilIface]) (by simp [results,Tryz.results30,go_sem,d0,d1]) rfl HP.out
theorem zkn (w:World)(v x:Value)(n nv nx:Nat)(hs:List (List Int))(p:Nat→Nat)(zs:List Int)(hv:∃ u,v=.agg #[.int .i64 (n:Int),u]∧MatN w u hs nv)(hF:FormL n hs p)(hx:VecN w x zs nx)(hz:zs.length=n)(h1:1≤n)(h4:n≤4)(hN:nx+n *(nv+2)≤90000)(hg:Gens n (InL hs) zs):
  Calls Tryz.prog 89 #[v,x] w fun e w'=>∃ P,e=.returned (.tuple #[.slice (some ⟨P,0,none⟩) hs.length hs.length,.bool true])∧VecO w w' P (muchL hs p zs) (nx+hs.length *(nv+2)+1):=
 (zdU w v x n nv nx hs p zs hv hF hx hz h1 h4 hN).mono fun _ _ ⟨_,hc⟩=>hc.elim (fun h=>h.2) (fun h=>absurd ((zbn hF.len hz).2 hg) h.1)
theorem zkm (w:World)(v x:Value)(n nv nx:Nat)(hs:List (List Int))(p:Nat→Nat)(zs:List Int)(hv:∃ u,v=.agg #[.int .i64 (n:Int),u]∧MatN w u hs nv)(hF:FormL n hs p)(hx:VecN w x zs nx)(hz:zs.length=n)(h1:1≤n)(h4:n≤4)(hN:nx+n *(nv+2)≤90000)(hg:¬ Gens n (InL hs) zs):
  Calls Tryz.prog 89 #[v,x] w fun e w'=>e=.returned (.tuple #[.slice none 0 0,.bool false])∧Below w.heap.size w w':=
 (zdU w v x n nv nx hs p zs hv hF hx hz h1 h4 hN).mono fun _ _ ⟨hb,hc⟩=>hc.elim (fun h=>absurd ((zbn hF.len hz).1 h.1) hg) (fun h=>⟨h.2,hb⟩)
def MemberPost (w:World)(n nv nx:Nat)(hs:List (List Int))(p:Nat→Nat)(zs:List Int)(e:Ending)(w':World):Prop:=
 Below w.heap.size w w'∧((Gens n (InL hs) zs∧∃ P,e=.returned (.tuple #[.slice (some ⟨P,0,none⟩) hs.length hs.length,.bool true,.nilIface])∧VecO w w' P (muchL hs p zs) (nx+hs.length *(nv+2)+1)) ∨
  (¬ Gens n (InL hs) zs∧e=.returned (.tuple #[.slice none 0 0,.bool false,.nilIface])))
theorem zft (w:World)(v x:Value)(n nv nx:Nat)(hs:List (List Int))(p:Nat→Nat)(zs:List Int)(hv:∃ u,v=.agg #[.int .i64 (n:Int),u]∧MatN w u hs nv)(hF:FormL n hs p)(hx:VecN w x zs nx)(hz:zs.length=n)(h1:1≤n)(h4:n≤4)(hN:nx+n *(nv+2)≤90000):
  Calls Tryz.prog 41 #[v,x] w fun e w'=>MemberPost w n nv nx hs p zs e w':=by
 have HV:=hide hv;have HX:=hide hx;have HF:=hide hF;have HG:=hide (zbn hF.len hz);obtain⟨u,rfl,hu⟩:=hv;obtain⟨uo,ucap,rfl,-,-⟩:=hu;clear hx hF;have HB0:=hide ((zB w.heap.size w).alloc zL (.cells #[.int .i64 (n:Int),.slice uo hs.length ucap] 55));have HC:=hide (zf w (.int .i64 (n:Int)) (.slice uo hs.length ucap) 55 _ rfl);have HSZ:Hid (w.heap.size<(w.alloc (.cells #[.int .i64 (n:Int),.slice uo hs.length ucap] 55)).heap.size):=by show _<_;simp
 obtain⟨c0,c1,z0,z1⟩:=HC.out;go_enter Tryz.func41,Tryz.ntmps41;go_wp2_with fail;clear c0 c1 z0 z1;generalize w.alloc (.cells #[.int .i64 (n:Int),.slice uo hs.length ucap] 55)=W0 at *;refine(zeB W0 _ _ n nv nx hs zs (by obtain⟨u,e,h⟩:=HV.out;exact⟨⟨u,e,h.below HB0.out zL⟩,_,HF.out⟩) (by exact HX.out.below HB0.out zL) hz h1 h4).mono ?_;rintro e w1 ⟨rfl,hb1⟩;have HB1:=hide (HB0.out.trans (hb1.mono HB0.out.size));obtain⟨c0,c1,z0,z1⟩:=HC.out.later hb1 HSZ.out;clear hb1 HC HSZ HB0;go_wp2_with fail;refine(zdU w1 _ _ n nv nx hs p zs (by obtain⟨u,e,h⟩:=HV.out;exact⟨u,e,h.below HB1.out zL⟩) HF.out (by exact HX.out.below HB1.out zL) hz h1 h4 hN).mono ?_;rintro e w2 ⟨hb2,hcase⟩;have HB2:=hide (HB1.out.trans (hb2.mono HB1.out.size));clear hb2 c0 c1 z0 z1;rcases hcase with⟨hl,P,rfl,ho⟩ |⟨hl,rfl⟩
 ·have HL:=hide (HG.out.1 hl);have HO:=hide (ho.since HB1.out);clear hl ho;go_wp2;exact bodyPost_ret (v:=.tuple #[.slice (some ⟨P,0,none⟩) hs.length hs.length,.bool true,.nilIface]) (by simp [results,Tryz.results41,go_sem]) rfl ⟨HB2.out,.inl ⟨HL.out,_,rfl,HO.out⟩⟩
 ·have HL:=hide (fun h=>hl (HG.out.2 h));clear hl;go_wp2;exact bodyPost_ret (v:=.tuple #[.slice none 0 0,.bool false,.nilIface]) (by simp [results,Tryz.results41,go_sem]) rfl ⟨HB2.out,.inr ⟨HL.out,rfl⟩⟩
structure AllI (w W:World)(n:Nat)(u v:Value)(m:Nat)(rows:List (List Int))(k N:Nat):Prop where
 low:Below w.heap.size w W
 lt:w.heap.size+2<W.heap.size
 blk:∃ cs t,W.heap[w.heap.size+2]?=some (.cells cs t)
 box:Box W w.heap.size (.int .i64 (n:Int)) u
 box2:Box W (w.heap.size+1) (.int .i64 (n:Int)) v
 nil:∀ i,k≤i→i<m→W.cell? ⟨w.heap.size+2,i,none⟩=some (.slice none 0 0)
 row:∀ i,i<k→∃ Q,W.cell? ⟨w.heap.size+2,i,none⟩=some (.slice (some ⟨Q,0,none⟩) (rows.getD i []).length (rows.getD i []).length)∧VecN W (.slice (some ⟨Q,0,none⟩) (rows.getD i []).length (rows.getD i []).length) (rows.getD i []) N∧Q<W.heap.size∧Q≠w.heap.size+2
theorem AllI.start{W0:World}(hsz:W0.heap.size=w.heap.size+2)(hb:Below w.heap.size w W0)(hx:Box W0 w.heap.size (.int .i64 (n:Int)) u)(hy:Box W0 (w.heap.size+1) (.int .i64 (n:Int)) v)(m:Nat)(rows:List (List Int))(N:Nat):AllI w (W0.alloc (.cells (madeCells #[.slice none 0 0] m) 72)) n u v m rows 0 N:=by
 have hbb:=(zB W0.heap.size W0).alloc zL (.cells (madeCells #[.slice none 0 0] m) 72);refine⟨hb.alloc hb.size _,by simp;omega,⟨_,_,by have:=heap_alloc_new W0 (.cells (madeCells #[.slice none 0 0] m) 72);rw [hsz] at this;exact this⟩,hx.later hbb (by omega),hy.later hbb (by omega),fun i _ hi=>?_,fun i hi=>absurd hi (by omega)⟩;rw [← hsz,World.cell?_alloc_new];exact zfl m i hi
theorem AllI.later{W':World}{rows:List (List Int)}(h:AllI w W n u v m rows k N)(hb:Below W.heap.size W W'):AllI w W' n u v m rows k N where
 low:=h.low.trans (hb.mono h.low.size)
 lt:=zT h.lt hb.size
 blk:=by obtain⟨cs,t,e⟩:=h.blk;exact⟨cs,t,(hb.block _ (zj e)).trans e⟩
 box:=h.box.later hb (by have:=h.lt;omega)
 box2:=h.box2.later hb (by have:=h.lt;omega)
 nil:=fun i h1 h2=>(hb.cell (p:=⟨w.heap.size+2,i,none⟩) h.lt).trans (h.nil i h1 h2)
 row:=fun i hi=>by
  obtain⟨Q,e,hv,hq,hne⟩:=h.row i hi;exact⟨Q,(hb.cell (p:=⟨w.heap.size+2,i,none⟩) h.lt).trans e,hv.below hb zL,zT hq hb.size,hne⟩
theorem AllI.thaw{rows:List (List Int)}(h:AllI w W n u v m rows k N)(i:Nat):W.frozen? ⟨w.heap.size+2,i,none⟩=false:=by
 obtain⟨cs,t,e⟩:=h.blk;simp [World.frozen?,e]
theorem AllI.step{rows:List (List Int)}(h:AllI w W n u v m rows k N)(hk:k<m){Q:Nat}(hv:VecN W (.slice (some ⟨Q,0,none⟩) (rows.getD k []).length (rows.getD k []).length) (rows.getD k []) N)(hq:Q<W.heap.size)(hne:Q≠w.heap.size+2):
  AllI w (W.setCell ⟨w.heap.size+2,k,none⟩ (.slice (some ⟨Q,0,none⟩) (rows.getD k []).length (rows.getD k []).length)) n u v m rows (k+1) N:=by
 have hnil:=h.nil k zL hk;have hu:∀ z,(Value.slice none 0 0)≠.int .u32 z:=fun z e=>by cases e
 refine⟨h.low.setCell (by simp) _,by simpa using h.lt,?_,h.box.other (by omega) _ _,h.box2.other (by omega) _ _,fun i h1 h2=>?_,fun i hi=>?_⟩
 ·obtain⟨cs,t,e⟩:=h.blk;exact⟨_,t,heap_setCell_same W (w.heap.size+2) k _ _ _ e⟩
 ·exact(World.cell?_setCell_other (h:=fun e=>by simp at e <;> omega) ..).trans (h.nil i (by omega) h2)
 ·by_cases e:i=k
  ·subst e;exact⟨Q,World.cell?_setCell_same (h:=hnil) ..,hv.other hne hnil hu,by simpa using hq,hne⟩
  ·obtain⟨Q',e',hv',hq',hne'⟩:=h.row i (by omega);exact⟨Q',(World.cell?_setCell_other (h:=fun e=>by simp at e <;> omega) ..).trans e',hv'.other hne' hnil hu,by simpa using hq',hne'⟩
theorem AllI.mat{rows:List (List Int)}(h:AllI w W n u v m rows m N)(hm:rows.length=m):MatN W (.slice (some ⟨w.heap.size+2,0,none⟩) m m) rows N:=by
 subst hm;refine⟨_,_,rfl,Nat.le_refl _,fun h0=>⟨_,_,rfl,h.lt,fun i zs hi=>?_⟩⟩;obtain⟨hi',e⟩:=List.getElem?_eq_some_iff.1 hi;obtain⟨Q,e1,hv,-,-⟩:=h.row i hi';rw [zl hi',e] at e1 hv;exact⟨_,by rw [Nat.zero_add];exact e1,hv⟩
theorem zcN (m:Nat)(hm:m≤1000)(W:World):(Instr.makeSlice 23 (.int .i64 (m:Int)) (.int .i64 (m:Int))).run Tryz.prog W=.ok (.slice (some ⟨W.heap.size,0,none⟩) m m) (W.alloc (.cells (madeCells #[.slice none 0 0] m) 72)):=by
 obtain⟨i0,hi,hz0,hz1,hz2⟩:=info_parts Tryz.infoVec;have h:=run_make (P:=Tryz.prog) W 23 72 i0 (.slice none 0 0) (by kernel_rfl) hi hz0 .i64 .i64 m m (by omega) (by omega) (by rw [hz2];omega) (by omega);rw [hz1,Int.toNat_natCast,Nat.mul_one] at h;exact h
def AllPost (w:World)(n nv mv:Nat)(hs ks:List (List Int))(p:Nat→Nat)(e:Ending)(w':World):Prop:=
 Below w.heap.size w w'∧(((∀ us∈hs,Gens n (InL ks) us)∧∃ m,e=.returned (.tuple #[m,.bool true])∧MatN w' m (hs.map (muchL ks p)) (nv+ks.length *(mv+2)+1)) ∨
  ((¬ ∀ us∈hs,Gens n (InL ks) us)∧e=.returned (.tuple #[.slice none 0 0,.bool false])))
theorem zgO (w:World)(va vb:Value)(n nv mv:Nat)(hs ks:List (List Int))(p:Nat→Nat)(ha:LatN w va n hs nv)(hb:∃ u,vb=.agg #[.int .i64 (n:Int),u]∧MatN w u ks mv)(hF:FormL n ks p)(h1:1≤n)(h4:n≤4)(hN:nv+n *(mv+2)≤90000):
  Calls Tryz.prog 84 #[va,vb] w fun e w'=>AllPost w n nv mv hs ks p e w':=by
 have HF:=hide hF;obtain⟨⟨u,rfl,hu⟩,q,hG⟩:=ha;obtain⟨v,rfl,hv⟩:=hb;have HU:=hide hu;have HV:=hide hv;have HG:=hide hG;have hsh:=hG.short;have HML:Hid ((hs.map (muchL ks p)).length=hs.length):=zM ..;obtain⟨uo,ucap,rfl,-,-⟩:=hu;obtain⟨vo,vcap,rfl,-,-⟩:=hv;clear hF hG;have hmk:=zcN hs.length (by omega);have HX:=hide (z8 w (.int .i64 (n:Int)) (.slice uo hs.length ucap) (.int .i64 (n:Int)) (.slice vo ks.length vcap) 55 55);have HBB:=hide ((zB (w.heap.size+2) ((w.alloc (.cells #[.int .i64 (n:Int),.slice uo hs.length ucap] 55)).alloc (.cells #[.int .i64 (n:Int),.slice vo ks.length vcap] 55))).alloc (by simp) (.cells (madeCells #[.slice none 0 0] hs.length) 72));have HS:Hid (AllI w (((w.alloc (.cells #[.int .i64 (n:Int),.slice uo hs.length ucap] 55)).alloc (.cells #[.int .i64 (n:Int),.slice vo ks.length vcap] 55)).alloc (.cells (madeCells #[.slice none 0 0] hs.length) 72)) n (.slice uo hs.length ucap) (.slice vo ks.length vcap) hs.length (hs.map (muchL ks p)) 0 (nv+ks.length *(mv+2)+1)):=by
  exact hide (AllI.start (by simp) HX.out.2.2.1 HX.out.1 HX.out.2.1 _ _ _)
 obtain⟨⟨c0,c1,z0,z1⟩,⟨d0,d1,y0,y1⟩,-,-⟩:=HX.out;obtain⟨e0,e1,-,-⟩:=HS.out.box;go_enter Tryz.func84,Tryz.ntmps84;go_wp2;clear hmk c0 c1 z0 z1 d0 d1 y0 y1 e0 e1 HX HBB;go_loopw [17] (fun i wr=>∃ k:Nat,k≤hs.length∧i=.int .i64 k∧Hid (AllI w wr n (.slice uo hs.length ucap) (.slice vo ks.length vcap) hs.length (hs.map (muchL ks p)) k (nv+ks.length *(mv+2)+1))∧Hid (∀ us∈hs.take k,Gens n (InL ks) us)) (fun i _=>hs.length-(intOf i).toNat)
 case atStart=>exact⟨0,Nat.zero_le _,rfl,HS,fun us h=>by simp at h⟩
 case round=>
  clear HS;obtain⟨k,hk,rfl,HI,HALL⟩:=hrel;by_cases hkl:k<hs.length
  ·have hmat:=HU.out.below HI.out.low zL;obtain⟨rb,roff,_,e,lr,ru,cu,hru⟩:=hmat.at k hkl;simp only [zV,true_and] at e;obtain⟨rfl,rfl⟩:=e;clear hmat;have HR:=hide hru;have HM:=hide (HV.out.below HI.out.low zL);have HUL:Hid (hs[k].length=n):=HG.out.len _ (List.getElem_mem hkl);have HIN:=hide (List.getElem_mem hkl);have HTK:Hid (hs.take (k+1)=hs.take k++[hs[k]]):=List.take_succ_eq_append_getElem hkl;have HGD:Hid ((hs.map (muchL ks p)).getD k []=muchL ks p hs[k]):=by
    show _=_;rw [zl (by rw [zM];exact hkl),List.getElem_map]
   have HLG:=hide (zbn (v:=hs[k]) HF.out.len HUL.out);generalize hs[k]=us at *;obtain⟨ruo,rucap,rfl,-,-⟩:=hru;obtain⟨c0,c1,z0,z1⟩:=HI.out.box;obtain⟨d0,d1,y0,y1⟩:=HI.out.box2;by_cases hgn:Gens n (InL ks) us
   ·have HGN:=hide hgn;clear hgn;go_wp2_with fail
    go_region_held3 (fun w'=>w'.cell? ⟨w.heap.size,0,none⟩=some (.int .i64 (n:Int))∧w'.cell? ⟨w.heap.size,1,none⟩=some (.slice (some ⟨rb,roff,none⟩) hs.length ucap)∧w'.cell? ⟨w.heap.size+1,0,none⟩=some (.int .i64 (n:Int))∧w'.cell? ⟨w.heap.size+1,1,none⟩=some (.slice vo ks.length vcap)∧w'.cell? ⟨rb,roff+k,none⟩=some (.slice ruo us.length rucap)) (go_keep)
     (first
      |(go_at_call 89;refine(zkn _ _ _ n mv nv ks p us (by exact⟨_,rfl,HM.out.below (zB _ _).drew zL⟩) HF.out (by exact HR.out.below (zB _ _).drew zL) HUL.out h1 h4 hN HGN.out).mono ?_;rintro e w2 ⟨P,rfl,ho⟩;have hb2:=ho.below;have HB2:=hide (show Below wr.heap.size wr w2 from(zB _ _).drew.trans (hb2.mono (by simp)));have HO2:=hide ho;have HI2:=hide (HI.out.later HB2.out);obtain⟨p0,p1,-,-⟩:=HI2.out.box;obtain⟨p2,p3,-,-⟩:=HI2.out.box2;have p4:=(HB2.out.cell (p:=⟨rb,roff+k,none⟩) lr).trans cu;clear hb2 ho))
    have HN:Hid (AllI w (w2.setCell ⟨w.heap.size+2,k,none⟩ (.slice (some ⟨P,0,none⟩) ks.length ks.length)) n (.slice (some ⟨rb,roff,none⟩) hs.length ucap) (.slice vo ks.length vcap) hs.length (hs.map (muchL ks p)) (k+1) (nv+ks.length *(mv+2)+1)):=by
     have hst:=HI2.out.step hkl (Q:=P) (by rw [HGD.out];exact HO2.out.vec) HO2.out.lt (by have:=HO2.out.low;have:=HI.out.lt;simp at *;omega);rw [HGD.out,zat] at hst;exact hide hst
    have HAL:Hid (∀ us∈hs.take (k+1),Gens n (InL ks) us):=by
     intro us' h;rw [HTK.out] at h;rcases List.mem_append.1 h with h | h
     ·exact HALL.out us' h
     ·rw [List.mem_singleton.1 h];exact HGN.out
    have k0:=HI2.out.nil k zL hkl;have t0:=HI2.out.thaw k;clear HI HI2 HO2 HB2 HALL HTK HR HM p0 p1 p2 p3 p4 c0 c1 z0 z1 d0 d1 y0 y1 cu;go_wp2;go_roundw
    case rel=>exact⟨k+1,by omega,by go_num,HN,HAL⟩
    case measure=>simp [intOf];omega
   ·have HGN:=hide hgn;clear hgn;go_wp2_with fail
    go_region_held3 (fun w'=>w'.cell? ⟨w.heap.size,0,none⟩=some (.int .i64 (n:Int))∧w'.cell? ⟨w.heap.size,1,none⟩=some (.slice (some ⟨rb,roff,none⟩) hs.length ucap)∧w'.cell? ⟨w.heap.size+1,0,none⟩=some (.int .i64 (n:Int))∧w'.cell? ⟨w.heap.size+1,1,none⟩=some (.slice vo ks.length vcap)∧w'.cell? ⟨rb,roff+k,none⟩=some (.slice ruo us.length rucap)) (go_keep)
     (first
      |(go_at_call 89;refine(zkm _ _ _ n mv nv ks p us (by exact⟨_,rfl,HM.out.below (zB _ _).drew zL⟩) HF.out (by exact HR.out.below (zB _ _).drew zL) HUL.out h1 h4 hN HGN.out).mono ?_;rintro e w2 ⟨rfl,hb2⟩;have HB2:=hide (show Below wr.heap.size wr w2 from(zB _ _).drew.trans (hb2.mono (by simp)));have HI2:=hide (HI.out.later HB2.out);obtain⟨p0,p1,-,-⟩:=HI2.out.box;obtain⟨p2,p3,-,-⟩:=HI2.out.box2;have p4:=(HB2.out.cell (p:=⟨rb,roff+k,none⟩) lr).trans cu;clear hb2))
    have HBL:=hide HI2.out.low;have HNO:=hide (fun h:∀ us∈hs,Gens n (InL ks) us=>HGN.out (h us HIN.out));clear HI HI2 HB2 HALL HTK HR HM p0 p1 p2 p3 p4 c0 c1 z0 z1 d0 d1 y0 y1 cu;go_wp2;exact bodyPost_ret (v:=.tuple #[.slice none 0 0,.bool false]) (by simp [results,Tryz.results84,go_sem]) rfl ⟨HBL.out,.inr ⟨HNO.out,rfl⟩⟩
  ·obtain rfl:k=hs.length:=by omega
   have HFI:Hid (∀ us∈hs,Gens n (InL ks) us):=by
    have:=HALL.out;rw [List.take_length] at this;exact this
   have HMT:=hide (HI.out.mat HML.out);have HBL:=hide HI.out.low;clear HI;go_wp2;exact bodyPost_ret (v:=.tuple #[.slice (some ⟨w.heap.size+2,0,none⟩) hs.length hs.length,.bool true]) (by simp [results,Tryz.results84,go_sem]) rfl ⟨HBL.out,.inl ⟨HFI.out,_,rfl,HMT.out⟩⟩
theorem zis (w:World)(va vb:Value)(n nv mv:Nat)(hs ks:List (List Int))(ha:LatN w va n hs nv)(hb:LatN w vb n ks mv)(h1:1≤n)(h4:n≤4)(hN:nv+n *(mv+2)≤90000)(r:Bool)(hr:r=true↔∀ us∈hs,Gens n (InL ks) us):
  Calls Tryz.prog 32 #[va,vb] w fun e w'=>e=.returned (.tuple #[.bool r,.nilIface])∧Below w.heap.size w w':=by
 have HA:=hide ha;have HB:=hide hb;have HRR:=hide hr;obtain⟨⟨u,rfl,⟨uo,ucap,rfl,-,-⟩⟩,-⟩:=ha;obtain⟨⟨v,rfl,⟨vo,vcap,rfl,-,-⟩⟩,p,hF⟩:=hb;have HF:=hide hF;clear hF hr;have HX:=hide (z8 w (.int .i64 (n:Int)) (.slice uo hs.length ucap) (.int .i64 (n:Int)) (.slice vo ks.length vcap) 55 55);obtain⟨⟨c0,c1,z0,z1⟩,⟨d0,d1,y0,y1⟩,-,-⟩:=HX.out;go_enter Tryz.func32,Tryz.ntmps32;go_wp2_with fail;clear c0 c1 z0 z1 d0 d1 y0 y1;generalize ((w.alloc (.cells #[.int .i64 (n:Int),.slice uo hs.length ucap] 55)).alloc (.cells #[.int .i64 (n:Int),.slice vo ks.length vcap] 55))=W0 at *;refine(zcW W0 _ _ n nv mv hs ks (by exact HA.out.below HX.out.2.2.1) (by exact HB.out.below HX.out.2.2.1) h1 h4).mono ?_;rintro e w1 ⟨rfl,hb1⟩;have HB1:=hide (HX.out.2.2.1.trans (hb1.mono HX.out.2.2.1.size));obtain⟨c0,c1,z0,z1⟩:=HX.out.1.later hb1 (by have:=HX.out.2.2.2;omega);obtain⟨d0,d1,y0,y1⟩:=HX.out.2.1.later hb1 HX.out.2.2.2;clear hb1 HX;go_wp2_with fail;refine(zgO w1 _ _ n nv mv hs ks p (by exact HA.out.below HB1.out) (by obtain⟨⟨u,e,h⟩,-⟩:=HB.out;exact⟨u,e,h.below HB1.out zL⟩) HF.out h1 h4 hN).mono ?_;rintro e w2 ⟨hb2,hcase⟩;have HB2:=hide (HB1.out.trans (hb2.mono HB1.out.size));clear hb2 c0 c1 z0 z1 d0 d1 y0 y1;rcases hcase with⟨hl,m,rfl,-⟩ |⟨hl,rfl⟩
 ·have HL:Hid (r=true):=HRR.out.2 hl;clear hl;go_wp2;exact bodyPost_ret (v:=.tuple #[.bool true,.nilIface]) (by simp [results,Tryz.results32,go_sem]) rfl ⟨by rw [HL.out],HB2.out⟩
 ·have HL:Hid (r=false):=by
   have h:=HRR.out;cases r
   ·rfl
   ·exact absurd (h.1 rfl) hl
  clear hl;go_wp2;exact bodyPost_ret (v:=.tuple #[.bool false,.nilIface]) (by simp [results,Tryz.results32,go_sem]) rfl ⟨by rw [HL.out],HB2.out⟩
def unitsL (n:Nat):List (List Int):=(List.range n).map (unitL n)
theorem zbb (n:Nat):(unitsL n).length=n:=by unfold unitsL;rw [zM,List.length_range]
theorem zd4 (n i:Nat)(hi:i<n):(unitsL n).getD i []=unitL n i:=by
 unfold unitsL;rw [zG,List.getElem?_map,List.getElem?_range hi];rfl
theorem zcd (n:Nat):FormL n (unitsL n) (fun k=>k):=by
 have at_:∀ i b,i<(unitsL n).length→b<n→((unitsL n).getD i []).getD b 0=if b=i then 1 else 0:=fun i b hi hb=>by
  rw [zbb] at hi;rw [zd4 n i hi,zax n i b hb]
 refine⟨fun r hr=>?_,⟨fun i k h _=>h,fun i hi=>by rw [zbb] at hi;exact hi,fun i b hi hb=>?_,fun i hi=>?_,fun i k hik hk=>?_⟩⟩
 ·obtain⟨i,-,rfl⟩:=List.mem_map.1 hr;exact zx n i
 ·have hi':=hi;rw [zbb] at hi';have hb':b<i:=hb;show((unitsL n).getD i []).getD b 0=0;rw [at_ i b hi (by omega),if_neg (by omega)]
 ·have hi':=hi;rw [zbb] at hi';show 0<((unitsL n).getD i []).getD i 0;rw [at_ i i hi hi',if_pos rfl];decide
 ·have hk':=hk;rw [zbb] at hk';show 0≤((unitsL n).getD i []).getD k 0∧((unitsL n).getD i []).getD k 0<((unitsL n).getD k []).getD k 0;rw [at_ i k (by omega) hk',at_ k k hk hk',if_neg (by omega),if_pos rfl];decide
theorem RowsI.put{B:Nat}{rows:List (List Int)}{P L:Nat}{r:List Int}(h:RowsI w W B m rows k N)(hk:k<m)(hr:rows.getD k []=r)(hL:r.length=L)(hP:P<W.heap.size)(hne:P≠B)(hv:VecN W (.slice (some ⟨P,0,none⟩) r.length r.length) r N):RowsI w (W.setCell ⟨B,k,none⟩ (.slice (some ⟨P,0,none⟩) L L)) B m rows (k+1) N:=by
 subst hL hr;have hnil:=h.nil k zL hk;have hu:∀ z,(Value.slice none 0 0)≠.int .u32 z:=fun z e=>by cases e
 refine⟨h.low.setCell (p:=⟨B,k,none⟩) h.high _,h.high,by simpa using h.lt,?_,fun i h1 h2=>?_,fun i hi=>?_⟩
 ·obtain⟨cs,t,e⟩:=h.blk;exact⟨_,t,heap_setCell_same W B k _ _ _ e⟩
 ·exact(World.cell?_setCell_other (h:=fun e=>by simp at e <;> omega) ..).trans (h.nil i (by omega) h2)
 ·by_cases e:i=k
  ·subst e;exact⟨P,World.cell?_setCell_same (h:=hnil) ..,hv.other hne hnil hu,by simpa using hP,hne⟩
  ·obtain⟨Q',e',hv',hq',hne'⟩:=h.row i (by omega);exact⟨Q',(World.cell?_setCell_other (h:=fun e=>by simp at e <;> omega) ..).trans e',hv'.other hne' hnil hu,by simpa using hq',hne'⟩
theorem zlh (w:World)(n:Nat)(h1:1≤n)(h4:n≤4):
  Calls Tryz.prog 26 #[.int .i64 (n:Int)] w fun e w'=>∃ o c,e=.returned (.tuple #[.agg #[.int .i64 (n:Int),.slice o n c],.nilIface])∧LatN w' (.agg #[.int .i64 (n:Int),.slice o n c]) n (unitsL n) 2∧Below w.heap.size w w':=by
 have HB0:=hide (zQ w (.cells #[.int .i64 0,.slice none 0 0] 55));have HX0:=hide (BoxL.new w (.int .i64 0) (.slice none 0 0) 55);have hmk:=zfZ n (by omega);have hmm:=zcN n (by omega);go_enter Tryz.func26,Tryz.ntmps26;go_wp2_with fail;generalize w.alloc (.cells #[.int .i64 0,.slice none 0 0] 55)=W0 at *;refine(zdV W0 (n:Int)).mono ?_;rintro e w1 ⟨rfl,hb1⟩;have e:decide (1≤(n:Int)∧(n:Int)≤4)=true:=decide_eq_true ⟨by omega,by omega⟩;rw [e];clear e;have HX1:=hide (HX0.out.later hb1);have HB1:=hide (HB0.out.trans (hb1.mono HB0.out.size));have HS:Hid (RowsI w1 (w1.alloc (.cells (madeCells #[.slice none 0 0] n) 72)) w1.heap.size n (unitsL n) 0 2):=RowsI.start (zB _ _) _ _ _;clear hb1 HX0 HB0;go_wp2;go_loopw [15] (fun x wr=>∃ k:Nat,k≤n∧x=.int .i64 k∧Hid (RowsI w1 wr w1.heap.size n (unitsL n) k 2)) (fun x _=>n-(intOf x).toNat)
 case atStart=>exact⟨0,Nat.zero_le _,rfl,HS⟩
 case round=>
  clear HS;obtain⟨k,hk,rfl,HR⟩:=hrel;by_cases hkl:k<n
  ·have hbu:Below wr.heap.size wr (wr.alloc (.cells ((madeCells #[.int .i64 0] n).setIfInBounds k (.int .i64 1)) 3)):=(zB _ _).alloc zL _;have hun:k<(madeCells #[Value.int .i64 0] n).size:=by simp [madeCells,hkl]
   have HR1:=hide (HR.out.later hbu);have HUS0:Hid (RowS (wr.alloc (.cells ((madeCells #[.int .i64 0] n).setIfInBounds k (.int .i64 1)) 3)) (.slice (some ⟨wr.heap.size,0,none⟩) n n) (unitL n k)):=by
    refine⟨_,_,by rw [zx],by rw [zx];exact Nat.le_refl _,fun i=>?_,fun _=>⟨_,_,rfl,by simp,fun i hi=>?_⟩⟩
    ·by_cases h:i<n
     ·rw [zax n k i h];split <;> decide
     ·rw [zG,List.getElem?_eq_none (by rw [zx];omega)];decide
    ·rw [zx] at hi;rw [Nat.zero_add,World.cell?_alloc_new];exact zgs n k hkl i hi
   clear hbu HR;go_wp2_with fail;generalize hWX:wr.alloc (.cells ((madeCells #[.int .i64 0] n).setIfInBounds k (.int .i64 1)) 3)=wx at *;clear hWX;refine(zaW wx _ (unitL n k) (by exact HUS0.out) (by rw [zx];omega)).mono ?_;rintro e w2 ⟨P,rfl,ho⟩;have HR2:=hide (HR1.out.later ho.below);have HPN:Hid (P<w2.heap.size∧w1.heap.size≠P):=⟨ho.lt,by have h1:=ho.low;have h2:=HR1.out.lt;omega⟩;have HV2:=hide ho.vec;have HN:=hide (HR2.out.put (P:=P) (L:=n) hkl (zd4 n k hkl) (zx n k) HPN.out.1 (fun e=>HPN.out.2 e.symm) HV2.out);have c0:=HR2.out.nil k zL hkl;have f0:=HR2.out.thaw k;have hpl:=zx n k;rw [hpl];clear ho HR1 HR2 HV2 HPN HUS0 hun hpl;go_wp2;go_roundw
   case rel=>exact⟨k+1,by omega,by go_num,HN⟩
   case measure=>simp [intOf];omega
  ·obtain rfl:k=n:=by omega
   have HM:=hide (HR.out.mat (zbb k));have HX2:=hide (HX1.out.later HR.out.low);have HB2:=hide (HB1.out.trans (HR.out.low.mono HB1.out.size));have HB3:=hide ((HB2.out.setCell (p:=⟨w.heap.size,0,none⟩) zL (.int .i64 (k:Int))).setCell (p:=⟨w.heap.size,1,none⟩) zL (.slice (some ⟨w1.heap.size,0,none⟩) k k));have Z:=hide (HX2.out.1.write (.int .i64 (k:Int)) (.slice (some ⟨w1.heap.size,0,none⟩) k k));obtain⟨x0,x1,x2,x3⟩:=HX2.out.1;obtain⟨z0,z1,-,-⟩:=Z.out;have HM2:=hide (HM.out.setBasis (.int .i64 (k:Int)) (.slice (some ⟨w1.heap.size,0,none⟩) k k) (fun zs hz=>by rw [(zcd k).len zs hz];omega) x0 x1);clear HR HM;go_wp2;exact bodyPost_ret (v:=.tuple #[.agg #[.int .i64 (k:Int),.slice (some ⟨w1.heap.size,0,none⟩) k k],.nilIface]) (by simp [results,Tryz.results26,go_sem,z0,z1]) rfl ⟨_,_,rfl,⟨⟨_,rfl,HM2.out⟩,_,zcd k⟩,HB3.out⟩
end Go.Proofs.YtdedolkgcdlmeaaGreatDoor
/- Plain arithmetic of the reference's digits: numbers to the base 10000, the lowest first. No Go in it. -/
namespace Go.Proofs.YtdedolkgcdlmeaaGreatDoor.Digs
open Limbs
variable{zs xs a b:List Int}{x:Int}{n k:Nat}
def dv:List Int→Int
 | []=>0
 | x::xs=>x+10000*dv xs
def DB (zs:List Int):Prop:=∀ i:Nat,0≤zs.getD i 0∧zs.getD i 0<10000
def dp:Nat→Int
 | 0=>1
 | n+1=>10000*dp n
theorem zaq (n:Nat):0<dp n:=by
 induction n with
 | zero=>simp [dp]
 | succ n ih=>simp only [dp];omega
theorem zeO (m n:Nat):dp (m+n)=dp m*dp n:=by
 induction m with
 | zero=>simp [dp]
 | succ m ih=>rw [Nat.succ_add];simp only [dp];rw [ih,Int.mul_assoc]
theorem zaB{m:Nat}(h:m≤n):dp m≤dp n:=by
 obtain⟨k,rfl⟩:=Nat.exists_eq_add_of_le h;rw [zeO];have h1:=zaq m;have h2:=zaq k;have:dp m*1≤dp m*dp k:=Int.mul_le_mul_of_nonneg_left (by omega) (by omega);omega
theorem zbc:DB []:=by intro i;simp
theorem zea(h:DB (x::xs)):DB xs:=fun i=>by simpa using h (i+1)
theorem zd9(h:DB (x::xs)):0≤x∧x<10000:=by simpa using h 0
theorem zce(hx:0≤x∧x<10000)(h:DB xs):DB (x::xs):=by
 intro i;cases i with
 | zero=>simpa using hx
 | succ i=>simpa using h i
theorem zgy(h:∀ z∈zs,0≤z∧z<10000):DB zs:=by
 induction zs with
 | nil=>exact zbc
 | cons x xs ih=>exact zce (h x (by simp)) (ih fun z hz=>h z (by simp [hz]))
theorem zbD(h:DB zs)(k:Nat):DB (zs.take k):=by
 intro i;have:=h i;by_cases hk:i<k
 ·simpa [List.getD_eq_getElem?_getD,List.getElem?_take,hk] using this
 ·simp [List.getD_eq_getElem?_getD,List.getElem?_take,hk]
theorem zaP(h:DB zs):0≤dv zs:=by
 induction zs with
 | nil=>simp [dv]
 | cons x xs ih=>have:=ih (zea h);have:=zd9 h;simp only [dv];omega
theorem zbi(h:DB zs):dv zs<dp zs.length:=by
 induction zs with
 | nil=>simp [dv,dp]
 | cons x xs ih=>have:=ih (zea h);have:=zd9 h;simp only [dv,List.length_cons,dp];omega
theorem zde (xs ys:List Int):dv (xs++ys)=dv xs+dp xs.length*dv ys:=by
 induction xs with
 | nil=>simp [dv,dp]
 | cons x xs ih=>simp only [List.cons_append,dv,ih,List.length_cons,dp];rw [Int.mul_add,Int.mul_assoc];omega
theorem zaQ (zs:List Int)(k:Nat):dv (zs.take (k+1))=dv (zs.take k)+dp k*zs.getD k 0:=by
 by_cases h:k<zs.length
 ·rw [List.take_succ_eq_append_getElem h,zde];simp [dv,List.length_take,Nat.min_eq_left (Nat.le_of_lt h),List.getD_eq_getElem?_getD,h]
 ·rw [List.take_of_length_le (by omega),List.take_of_length_le (by omega)];simp [List.getD_eq_getElem?_getD,List.getElem?_eq_none (Nat.le_of_not_lt h)]
theorem zdg (zs:List Int)(k:Nat)(h:k≤zs.length):dv zs=dv (zs.take k)+dp k*dv (zs.drop k):=by
 have:=zde (zs.take k) (zs.drop k);rw [List.take_append_drop,List.length_take,Nat.min_eq_left h] at this;exact this
theorem zbM (zs:List Int)(h:zs.length≤k):dv (zs.take k)=dv zs:=by
 rw [List.take_of_length_le h]
theorem zhR(h:DB zs)(k:Nat):dv (zs.take k)<dp k:=by
 have h1:=zbi (zbD h k);have h2:dp (zs.take k).length≤dp k:=zaB (List.length_take_le k zs);omega
theorem zeR(h:DB zs)(k:Nat):0≤dv (zs.take k):=zaP (zbD h k)
theorem zeQ(ha:DB a)(hb:DB b)(hl:a.length=b.length)(hk:k<a.length)(hd:a.drop (k+1)=b.drop (k+1))(hx:a.getD k 0<b.getD k 0):dv a<dv b:=by
 have e1:=zdg a k (by omega);have e2:=zdg b k (by omega);rw [zz a k hk] at e1;rw [zz b k (by omega),← hd] at e2;simp only [dv] at e1 e2;have h1:=zhR ha k;have h2:=zeR hb k;generalize dv (a.drop (k+1))=t at e1 e2;have hp:=zaq k;have h3:dp k *(a.getD k 0+10000*t+1)≤dp k *(b.getD k 0+10000*t):=Int.mul_le_mul_of_nonneg_left (by omega) (by omega);rw [Int.mul_add,Int.mul_one] at h3;omega
theorem zdE(h:DB zs)(hn:Nrm zs)(h0:0<zs.length):dp (zs.length-1)≤dv zs:=by
 have e:=zdg zs (zs.length-1) (by omega);rw [zz zs (zs.length-1) (by omega)] at e;have hd:zs.drop (zs.length-1+1)=[]:=List.drop_eq_nil_of_le (by omega);rw [hd] at e;simp only [dv] at e;have h1:=zeR h (zs.length-1);have h2:=h (zs.length-1);have h3:zs.getD (zs.length-1) 0≠0:=by rcases hn with hn | hn;omega;exact hn
 have hp:=zaq (zs.length-1);have h4:dp (zs.length-1)*1≤dp (zs.length-1) *(zs.getD (zs.length-1) 0+10000*0):=Int.mul_le_mul_of_nonneg_left (by omega) (by omega);omega
theorem zcp(ha:DB a)(hb:DB b)(hn:Nrm b)(hl:a.length<b.length):dv a<dv b:=by
 have h1:=zbi ha;have h2:=zdE hb hn (by omega);have h3:dp a.length≤dp (b.length-1):=zaB (by omega);omega
theorem zcr(h:DB zs)(hn:Nrm zs):dv zs=0↔zs.length=0:=by
 constructor
 ·intro h0;by_cases hl:zs.length=0
  ·exact hl
  ·have h1:=zdE h hn (by omega);have:=zaq (zs.length-1);omega
 ·intro hl;rw [List.eq_nil_of_length_eq_zero hl];rfl
theorem zfd(h:DB zs)(hn:Nrm zs)(hlt:dv zs<dp n):zs.length≤n:=by
 by_cases hl:zs.length≤n
 ·exact hl
 ·have h1:=zdE h hn (by omega);have h2:dp n≤dp (zs.length-1):=zaB (by omega);omega
theorem zgA(h:DB zs)(k:Nat){z:Int}(hz:0≤z∧z<10000):DB (zs.set k z):=by
 intro i;rw [zG,List.getElem?_set];by_cases hk:k=i
 ·subst hk;by_cases hl:k<zs.length <;> simp [hl,hz]
 ·have:=h i;simpa [hk,List.getD_eq_getElem?_getD] using this
theorem zhQ (zs:List Int)(k:Nat)(z:Int)(h:k<zs.length):dv (zs.set k z)=dv zs+dp k *(z-zs.getD k 0):=by
 induction zs generalizing k with
 | nil=>simp at h
 | cons x xs ih=>
  cases k with
  | zero=>simp [dv,dp];omega
  | succ k=>
   have:=ih k (by simpa using h);simp only [List.set_cons_succ,dv,this,dp,List.getD_cons_succ];rw [Int.mul_add,Int.mul_assoc];omega
theorem zhP (n:Nat):dv (List.replicate n 0)=0:=by
 induction n with
 | zero=>rfl
 | succ n ih=>simp only [List.replicate_succ,dv,ih];rfl
theorem zgz (n:Nat):DB (List.replicate n 0):=zgy fun z hz=>by
 rw [List.eq_of_mem_replicate hz];decide
end Go.Proofs.YtdedolkgcdlmeaaGreatDoor.Digs
