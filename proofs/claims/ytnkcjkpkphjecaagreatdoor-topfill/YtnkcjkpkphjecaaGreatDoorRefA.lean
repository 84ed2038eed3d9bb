import Derived.Test.YtnkcjkpkphjecaaGreatDoorLatQ
import Derived.Test.YtnkcjkpkphjecaaGreatDoorLatS
import Derived.Test.YtnkcjkpkphjecaaGreatDoorTags
import Derived.Test.YtnkcjkpkphjecaaGreatDoorMul
import Derived.Test.YtnkcjkpkphjecaaGreatDoorShift
namespace Go.Proofs.YtnkcjkpkphjecaaGreatDoor
open Go.RowKit Limbs
def InvQ (hs ks:List (List Int))(pk:Nat→Nat)(zs:List Int):Prop:=
 ∃(ys:List Int) (fa fs:List (List Int)) (pa:Nat→Nat) (D:Int),zs=overOne ys∧FormL ks.length fa pa∧Alikes ks.length (InL fa) (InL (muchM hs ks pk))∧fa.length=hs.length∧TurnF ks.length fa fs∧ChI fa.length ys D (ent fs) fa.length (fa.length+1)
theorem InvQ.none {hs ks:List (List Int)}{pk:Nat→Nat}(h:hs.length=0):InvQ hs ks pk []:=by
 have e:hs=[]:=List.length_eq_zero_iff.1 h
 subst e
 have h2:∀ i:Nat,¬ i < ([]:List (List Int)).length:=fun i h=>absurd h (Nat.not_lt_zero i)
 refine⟨[],[],[],fun k=>k,1,rfl,⟨fun r hr=>absurd hr (by simp),⟨fun i k _ h=>absurd h (h2 k),fun i h=>absurd h (h2 i),fun i b h _=>absurd h (h2 i),fun i h=>absurd h (h2 i),fun i k _ h=>absurd h (h2 k)⟩⟩,fun x=>Iff.rfl,rfl,⟨rfl,fun u hu=>absurd hu (by simp),fun x _ k h=>absurd h (h2 k),?_⟩,⟨rfl,fun j h=>absurd h (h2 j),rfl,fun i h=>absurd h (h2 i),fun j _ h=>?_,.of fun i j h _=>absurd h (h2 i)⟩⟩
 ·refine Alikes.of (fun v hv _=>absurd hv (by simp [InL])) fun v hv hl=>?_
  have:v=[]:=List.length_eq_zero_iff.1 hl
  rw [this]
  exact .zero
 ·have h3:j < 0+1:=h
  omega
def QuoLPost (w:World)(hs ks:List (List Int))(pk:Nat→Nat)(e:Ending)(w':World):Prop:=
 ∃(u:Value) (M:Nat) (zs:List Int),e=.returned (.tuple #[.agg #[u,.int .i64 ((ks.length:Int) - (hs.length:Int))],.nilIface])∧VecN w' u zs M∧M≤100000∧zs.length≤4∧(∀ z∈zs,0 < z)∧prodL zs < bp M∧hs.length≤ks.length∧(hs.length=ks.length→prodL zs=absI (det ks.length (ent (muchM hs ks pk))))∧Below w.heap.size w w'∧InvQ hs ks pk zs
theorem VecN.setTwo {W:World}{u:Value}{zs:List Int}{M B:Nat}{u0 u1 y z:Value}(h:VecN W u zs M)(hfr:∀ a l c,u=.slice (some a) l c→B < a.block)(d0:W.cell? ⟨B,0,none⟩=some u0)(d1:W.cell? ⟨B,1,none⟩=some u1)(h0:∀ x,u0≠.int .u32 x)(h1:∀ x,u1≠.int .u32 x):VecN ((W.setCell ⟨B,0,none⟩ y).setCell ⟨B,1,none⟩ z) u zs M:=by
 by_cases hz:0 < zs.length
 ·obtain⟨b,off,cap,rfl⟩:=h.form hz
  have hb:=hfr _ _ _ rfl
  have hne:b≠B:=fun e=>by
   have:B < b:=hb
   omega
  exact(h.other hne d0 h0).other hne ((World.cell?_setCell_other (h:=fun e=>by simp at e) ..).trans d1) h1
 ·obtain⟨ao,cap,e,hc,-⟩:=h
  exact⟨ao,cap,e,hc,fun h=>absurd h hz⟩
theorem zdB {n:Nat}{hs ks:List (List Int)}{ph pk:Nat→Nat}(F:FormL n hs ph)(G:FormL n ks pk)(hin:∀ r∈hs,Gens n (InL ks) r):hs.length≤ks.length:=
 zaI hs.length ks.length n (ent hs) (ent ks) (ent (muchM hs ks pk)) ph F.form.lt (fun i k hi hki=>F.form.zero i (ph k) hi (F.form.inc k i hki hi)) (fun i hi=>F.form.pos i hi) (fun i b hi hb=>zcz G F.len hin i b hi hb)
theorem zhf {k nv:Nat}(hk:k < 4){x:Int}(h:absI x≤2 ^ k * bp nv):ab x < bp (nv+1):=by
 have e:bp (nv+1)=4294967296 * bp nv:=rfl
 have hp:=zC nv
 have h8:(2:Int) ^ k≤8:=(by decide:∀ k,k < 4→(2:Int) ^ k≤8) k hk
 have h9:=Int.mul_le_mul_of_nonneg_right h8 (show 0≤bp nv by omega)
 have h10:ab x≤2 ^ k * bp nv:=h
 rw [e]
 omega
theorem zjm {w w':World}{u m:Value}{n nv N:Nat}{hs ks:List (List Int)}{pk:Nat→Nat}(hu:MatN w u hs nv)(hl:∀ r∈hs,r.length=n)(G:FormL n ks pk)(h4:n≤4)(hin:∀ r∈hs,Gens n (InL ks) r)(hm:MatN w' m (muchM hs ks pk) N):MatN w' m (muchM hs ks pk) (nv+1):=
 hm.tight fun zs hz j hj=>by
  obtain⟨r,hr,rfl⟩:=List.mem_map.1 hz
  rw [zaT] at hj
  have hs':=G.short
  exact zhf (show j < 4 by omega) (zji G (hl r hr) (hin r hr) (fun b hb=>Int.le_of_lt (hu.abs r hr b (by rw [hl r hr];exact hb))) j hj)
set_option linter.unusedSimpArgs false in
set_option maxRecDepth 100000 in
set_option maxHeartbeats 3200000 in
theorem zjR (w:World)(va vb:Value)(n nv mv:Nat)(hs ks:List (List Int))(pk:Nat→Nat)(ha:LatN w va n hs nv)(hb:LatN w vb n ks mv)(G:FormL n ks pk)(h1:1≤n)(h4:n≤4)(hN:nv+n *(mv+2)≤90000)(hin:∀ r∈hs,Gens n (InL ks) r)(hR:∀ m,1≤m→m≤4→RoomS m (nv+1)):
  Calls Tryz.prog 20 #[va,vb] w fun e w'=>QuoLPost w hs ks pk e w':=by
 have HA:=hide ha;have HB:=hide hb;have HG:=hide G;have HIN:=hide hin;have HR:=hide hR
 obtain⟨⟨u,rfl,hu⟩,ph,hF⟩:=ha
 obtain⟨⟨v,rfl,hv⟩,-⟩:=hb
 have HU:=hide hu;have HF:=hide hF
 have hsh:=zdB hF G hin
 have hks:=G.short
 obtain⟨uo,ucap,rfl,-,-⟩:=hu
 obtain⟨vo,vcap,rfl,-,-⟩:=hv
 clear hF G hin hR
 have HX:=hide (zah w (.int .i64 (n:Int)) (.slice uo hs.length ucap) (.int .i64 (n:Int)) (.slice vo ks.length vcap) 29 29)
 have HY:=hide (zg ((w.alloc (.cells #[.int .i64 (n:Int),.slice uo hs.length ucap] 29)).alloc (.cells #[.int .i64 (n:Int),.slice vo ks.length vcap] 29)) (.slice none 0 0) (.int .i64 0) 61 (w.heap.size+1+1) (by simp))
 have HZ:=hide ((Below.refl (w.heap.size+2) ((w.alloc (.cells #[.int .i64 (n:Int),.slice uo hs.length ucap] 29)).alloc (.cells #[.int .i64 (n:Int),.slice vo ks.length vcap] 29))).alloc (by simp) (.cells #[.slice none 0 0,.int .i64 0] 61))
 have HC:=hide (HX.out.1.later HZ.out (by omega))
 have HD:=hide (HX.out.2.1.later HZ.out (by omega))
 have HB0:=hide (HX.out.2.2.1.trans (HZ.out.mono (by omega)))
 have HSZ:Hid (w.heap.size+1+1 < (((w.alloc (.cells #[.int .i64 (n:Int),.slice uo hs.length ucap] 29)).alloc (.cells #[.int .i64 (n:Int),.slice vo ks.length vcap] 29)).alloc (.cells #[.slice none 0 0,.int .i64 0] 61)).heap.size):=by show _ < _;simp
 obtain⟨c0,c1,z0,z1⟩:=HC.out
 obtain⟨d0,d1,y0,y1⟩:=HD.out
 go_enter Tryz.func20,Tryz.ntmps20
 go_wp2_with fail
 clear c0 c1 z0 z1 d0 d1 y0 y1 HX HZ
 generalize (((w.alloc (.cells #[.int .i64 (n:Int),.slice uo hs.length ucap] 29)).alloc (.cells #[.int .i64 (n:Int),.slice vo ks.length vcap] 29)).alloc (.cells #[.slice none 0 0,.int .i64 0] 61))=W0 at *
 refine(zeA W0 _ _ n nv mv hs ks (by exact HA.out.below HB0.out) (by exact HB.out.below HB0.out) h1 h4).mono ?_
 rintro e w1 ⟨rfl,hb1⟩
 have HB1:=hide (HB0.out.trans (hb1.mono HB0.out.size))
 have HC1:=hide (HC.out.later hb1 (by have:=HSZ.out;omega))
 have HD1:=hide (HD.out.later hb1 (by have:=HSZ.out;omega))
 have HE1:=hide (HY.out.later hb1 HSZ.out)
 have HS1:=hide (zT HSZ.out hb1.size)
 clear hb1 HC HD HY HSZ HB0
 obtain⟨c0,c1,-,-⟩:=HC1.out
 obtain⟨d0,d1,-,-⟩:=HD1.out
 go_wp2_with fail
 refine(zg0 w1 _ _ n nv mv hs ks pk (by exact HA.out.below HB1.out) (by obtain⟨⟨u,e,h⟩,-⟩:=HB.out;exact⟨u,e,h.below HB1.out zL⟩) HG.out h1 h4 hN).mono ?_
 rintro e w2 ⟨hb2,hcase⟩
 have HB2:=hide (HB1.out.trans (hb2.mono HB1.out.size))
 have HD2:=hide (HD1.out.later hb2 (by have:=HS1.out;omega))
 have HE2:=hide (HE1.out.later hb2 HS1.out)
 have HS2:=hide (zT HS1.out hb2.size)
 clear hb2 c0 c1 d0 d1 HC1 HD1 HE1 HS1 HB1
 rcases hcase with⟨-,m,rfl,hm⟩ |⟨hl,-⟩
 ·have HM:=hide (zjm HU.out HF.out.len HG.out h4 HIN.out (show MatN w2 m (muchM hs ks pk) _ from hm))
  obtain⟨mo,mcap,rfl,-,-⟩:=hm
  rw [show(hs.map (muchL ks pk)).length=hs.length from List.length_map ..]
  have HM':=HM.out
  rw [show(hs.map (muchL ks pk)).length=hs.length from List.length_map ..] at HM'
  have HM2:=hide HM'
  clear HM HM'
  obtain⟨d0,d1,-,-⟩:=HD2.out
  by_cases h0:hs.length=0
  ·obtain⟨e0,e1,f0,f1⟩:=HE2.out
   have g1:((hs.length:Int) == 0)=true:=by rw [h0];rfl
   have g2:(hs.length:Int)=0:=by omega
   have HP:Hid (QuoLPost w hs ks pk (.returned (.tuple #[.agg #[.slice none 0 0,.int .i64 (ks.length:Int)],.nilIface])) ((w2.setCell ⟨w.heap.size+1+1,0,none⟩ (.slice none 0 0)).setCell ⟨w.heap.size+1+1,1,none⟩ (.int .i64 (ks.length:Int)))):=
    ⟨.slice none 0 0,1,[],by rw [show((ks.length:Int) - (hs.length:Int))=(ks.length:Int) by omega],⟨none,0,rfl,Nat.le_refl _,fun h=>absurd h (by simp)⟩,by decide,by decide,fun z hz=>by(cases hz),by decide,hsh,fun h=>by
     have hk0:ks.length=0:=by omega
     rw [hk0];exact(zab (x:=1) (by decide)).symm,(HB2.out.setCell (p:=⟨w.heap.size+1+1,0,none⟩) (by show w.heap.size≤w.heap.size+1+1;omega) _).setCell (p:=⟨w.heap.size+1+1,1,none⟩) (by show w.heap.size≤w.heap.size+1+1;omega) _,.none h0⟩
   clear h0
   go_wp2
   exact bodyPost_ret (v:=.tuple #[.agg #[.slice none 0 0,.int .i64 (ks.length:Int)],.nilIface]) (by simp [results,Tryz.results20,go_sem,e0,e1]) rfl HP.out
  ·have g1:((hs.length:Int) == 0)=false:=beq_eq_false_iff_ne.2 (by omega)
   have g2:¬((hs.length:Int)=0):=by omega
   go_wp2_with fail
   refine(zko w2 _ (muchM hs ks pk) ks.length (nv+1) (by exact HM2.out) (zdL hs ks pk) (by omega) (by omega) (by rw [zbR];omega) (HR.out ks.length (by omega) (by omega))).mono ?_
   rintro e w3 ⟨P,M,ys,fa,fs,pa,D,rfl,a1,a2,a3,a4,a8,a5,a6,a7⟩
   have hfa:fa.length=hs.length:=zjl HF.out HG.out HIN.out a1 a2
   have HDD:Hid (hs.length=ks.length→D=absI (det ks.length (ent (muchM hs ks pk)))):=fun h=>by
    have hf:fa.length=ks.length:=by omega
    rw [a6 hf]
    exact(zhL (by rw [zbR];exact h) (zdL hs ks pk) (zbY a1 hf) a2).symm
   have HYL:=hide a4.len
   have HIQ:Hid (InvQ hs ks pk (overOne ys)):=⟨ys,fa,fs,pa,D,rfl,a1,a2,hfa,a8,a4⟩
   have HYP:Hid (∀ z∈ys,0 < z):=fun z hz=>by
    obtain⟨i,hi,e⟩:=List.getElem_of_mem hz
    have:=a4.pos i (by rw [← a4.len];exact hi)
    rw [List.getD_eq_getElem?_getD,List.getElem?_eq_getElem hi,Option.getD_some,e] at this
    exact this
   have HPR:Hid (prodL ys=D):=by
    have h1:=a4.prod
    rw [← a4.len,zjM ys ys.length zL,List.take_length] at h1
    exact h1
   have HB3:=hide (HB2.out.trans (a3.below.mono HB2.out.size))
   have HD3:=hide (HD2.out.later a3.below (by have:=HS2.out;omega))
   have HE3:=hide (HE2.out.later a3.below HS2.out)
   have HS3:=hide (zT HS2.out a3.below.size)
   have hyl:ys.length=hs.length:=by rw [a4.len,hfa]
   have HVY:Hid (VecN w3 (.slice (some ⟨P,0,none⟩) hs.length hs.length) ys M):=by
    have:=a3.vec
    rw [hyl] at this
    exact this
   have HA5:=hide a5
   rw [hfa]
   clear a1 a2 a3 a4 a5 a6 a8 HB2 HD2 HE2 HS2 d0 d1 g1 g2 h0
   obtain⟨d0,d1,-,-⟩:=HD3.out
   have HYL2:=hide hyl
   clear hyl hfa
   have hwr:IntKind.i64.wrap ((ks.length:Int) - (hs.length:Int))=(ks.length:Int) - (hs.length:Int):=by rw [IntKind.wrap_i64];omega
   go_wp2_with fail
   refine zgF (A:=fun j=>decide (j=1∨j=3)) (S:=(fun w'=>w'.cell? ⟨w.heap.size+1,1,none⟩=some (.slice vo ks.length vcap))) (by kernel_rfl) (by exact d1) (fun hHeld=>?_)
   refine zB (v:=?_) 0 43 rfl rfl (by kernel_rfl) (by kernel_rfl) (by kernel_rfl) (by kernel_rfl) (fun _ _ _ h=>h) (by rfl) ?_ ?_
   rotate_left
   ·(intro w;go_simp;with_reducible rfl)
   try simp only [zA]
   refine zB (v:=?_) 2 45 rfl rfl (by kernel_rfl) (by kernel_rfl) (by kernel_rfl) (by kernel_rfl) (fun _ _ _ h=>h) (by rfl) ?_ ?_
   rotate_left
   ·(intro w;go_simp;with_reducible rfl)
   try simp only [zA]
   refine zB (v:=?_) 5 48 rfl rfl (by kernel_rfl) (by kernel_rfl) (by kernel_rfl) (by kernel_rfl) (fun _ _ _ h=>h) (by rfl) ?_ ?_
   rotate_left
   ·(intro w;go_simp;with_reducible rfl)
   try simp only [zA]
   refine zB (v:=?_) 6 49 rfl rfl (by kernel_rfl) (by kernel_rfl) (by kernel_rfl) (by kernel_rfl) (fun _ _ _ h=>h) (by rfl) ?_ ?_
   rotate_left
   ·(intro w;go_simp;with_reducible rfl)
   try simp only [zA]
   refine zeb (v:=?_) 3 46 [4,7,8,9,10] rfl rfl (by kernel_rfl) (by kernel_rfl) (by kernel_rfl) (by kernel_rfl) (fun _ _ _ h=>h) (by rfl) ?_ (by assumption) ?_
   rotate_left
   ·(intro w hSw;(try dsimp only at hSw);go_simp;with_reducible rfl)
   try simp only [zA]
   refine zB (v:=?_) 4 47 rfl rfl (by kernel_rfl) (by kernel_rfl) (by kernel_rfl) (by kernel_rfl) (fun _ _ _ h=>h) (by rfl) ?_ ?_
   rotate_left
   ·(intro w;go_simp;with_reducible rfl)
   try simp only [zA]
   refine zB (v:=?_) 7 50 rfl rfl (by kernel_rfl) (by kernel_rfl) (by kernel_rfl) (by kernel_rfl) (fun _ _ _ h=>h) (by rfl) ?_ ?_
   rotate_left
   ·(intro w;go_simp;with_reducible rfl)
   try simp only [zA]
   refine zbv 1 (by kernel_rfl) rfl (fun K hK=>?_)
   go_simp
   refine(zgQ w3.drew _ ys M (by exact HVY.out.below (Below.refl w3.heap.size w3).drew zL) (by have:=HYL2.out;omega)).mono ?_
   rintro e w4 ⟨uu,rfl,hu4,hfr4,hb4⟩
   have hb4':Below w3.heap.size w3 w4:=(Below.refl _ _).drew.trans hb4
   have HD4:=hide (HD3.out.later hb4' (by have:=HS3.out;omega))
   have HE4:=hide (HE3.out.later hb4' HS3.out)
   have HB4:=hide (HB3.out.trans (hb4'.mono HB3.out.size))
   have d2:=HD4.out.2.1
   have HPF:=hide ((zjL ys HYP.out).trans HPR.out)
   have HP:Hid (QuoLPost w hs ks pk (.returned (.tuple #[.agg #[uu,.int .i64 ((ks.length:Int) - (hs.length:Int))],.nilIface])) ((w4.setCell ⟨w.heap.size+1+1,0,none⟩ uu).setCell ⟨w.heap.size+1+1,1,none⟩ (.int .i64 ((ks.length:Int) - (hs.length:Int))))):=
    ⟨uu,M,overOne ys,rfl,hu4.setTwo (fun a l c e=>by have h1:=hfr4 a l c e;have h2:=HS3.out;have h3:w3.heap.size≤a.block:=h1;omega) HE4.out.1 HE4.out.2.1 (fun x e=>by cases e) (fun x e=>by cases e),a7,Nat.le_trans (List.length_filter_le _ _) (by have:=HYL2.out;omega),fun z hz=>HYP.out z (List.mem_filter.1 hz).1,by
     show prodL (overOne ys) < bp M
     unfold overOne
     rw [HPF.out];exact HA5.out,hsh,fun h=>by
     show prodL (overOne ys)=_
     unfold overOne
     rw [HPF.out];exact HDD.out h,(HB4.out.setCell (p:=⟨w.heap.size+1+1,0,none⟩) (by show w.heap.size≤w.heap.size+1+1;omega) _).setCell (p:=⟨w.heap.size+1+1,1,none⟩) (by show w.heap.size≤w.heap.size+1+1;omega) _,HIQ.out⟩
   obtain⟨zo,zcap,rfl,-,-⟩:=hu4
   clear hfr4 hb4 hb4' d0 d1
   go_wp2_with fail
   refine hK.out _ _ (fun _=>d2) ?_
   clear hK K hHeld
   try simp only [zA]
   refine zB (v:=?_) 8 51 rfl rfl (by kernel_rfl) (by kernel_rfl) (by kernel_rfl) (by kernel_rfl) (fun _ _ _ h=>h) (by rfl) ?_ ?_
   rotate_left
   ·(intro w;go_simp;with_reducible rfl)
   try simp only [zA]
   obtain⟨e0,e1,f0,f1⟩:=HE4.out
   refine zbv 9 (by kernel_rfl) rfl (fun K hK=>?_)
   go_simp
   refine hK.out _ _ (fun h=>absurd h (by decide)) ?_
   clear hK K
   try simp only [zA]
   refine zB (v:=?_) 10 5 rfl rfl (by kernel_rfl) (by kernel_rfl) (by kernel_rfl) (by kernel_rfl) (fun _ _ _ h=>h) (by rfl) ?_ ?_
   rotate_left
   ·(intro w;go_simp;with_reducible rfl)
   try simp only [zA]
   refine zgE (by kernel_rfl) ?_
   have x0:((w4.setCell ⟨w.heap.size+1+1,0,none⟩ (.slice zo (overOne ys).length zcap)).setCell ⟨w.heap.size+1+1,1,none⟩ (.int .i64 ((ks.length:Int) - (hs.length:Int)))).cell? ⟨w.heap.size+1+1,0,none⟩=some (.slice zo (overOne ys).length zcap):=(HE4.out.write _ _).1
   have x1:((w4.setCell ⟨w.heap.size+1+1,0,none⟩ (.slice zo (overOne ys).length zcap)).setCell ⟨w.heap.size+1+1,1,none⟩ (.int .i64 ((ks.length:Int) - (hs.length:Int)))).cell? ⟨w.heap.size+1+1,1,none⟩=some (.int .i64 ((ks.length:Int) - (hs.length:Int))):=(HE4.out.write _ _).2.1
   clear e0 e1 f0 f1 d2
   go_wp2
   exact bodyPost_ret (v:=.tuple #[.agg #[.slice zo (overOne ys).length zcap,.int .i64 ((ks.length:Int) - (hs.length:Int))],.nilIface]) (by simp [results,Tryz.results20,go_sem,x0,x1]) rfl HP.out
 ·exact absurd HIN.out hl
end Go.Proofs.YtnkcjkpkphjecaaGreatDoor
/- lattice.Index: of a lattice in one in which it lies. -/
namespace Go.Proofs.YtnkcjkpkphjecaaGreatDoor
open Go.RowKit Limbs
def IdxPost (w:World)(hs ks:List (List Int))(pk:Nat→Nat)(e:Ending)(w':World):Prop:=
 Below w.heap.size w w'∧((hs.length < ks.length∧e=.returned (.tuple #[.agg #[.bool false,.slice none 0 0],.iface 80 (.int .i64 13)])) ∨
  (hs.length=ks.length∧∃ v M,e=.returned (.tuple #[v,.nilIface])∧NumL w' v (absI (det ks.length (ent (muchM hs ks pk)))) M∧M≤100000))
theorem zf0 {zs:List Int}(h:∀ z∈zs,0 < z)(k:Nat)(_:k≤zs.length):0 < prodL (zs.take k)∧prodL (zs.take k)≤prodL zs:=by
 have hp:∀ l:List Int,(∀ z∈l,0 < z)→0 < prodL l:=fun l=>by
  induction l with
  | nil=>exact fun _=>Int.zero_lt_one
  | cons x t ih=>exact fun h=>Int.mul_pos (h x (by simp)) (ih fun z hz=>h z (by simp [hz]))
 have hap:∀ a b:List Int,prodL (a ++ b)=prodL a * prodL b:=fun a b=>by
  induction a with
  | nil=>show prodL b=1 * prodL b;rw [Int.one_mul]
  | cons x t ih=>show x * prodL (t ++ b)=x * prodL t * prodL b;rw [ih,Int.mul_assoc]
 have h1:=hp (zs.take k) fun z hz=>h z (List.mem_of_mem_take hz)
 have h2:=hp (zs.drop k) fun z hz=>h z (List.mem_of_mem_drop hz)
 refine⟨h1,?_⟩
 have e:prodL zs=prodL (zs.take k) * prodL (zs.drop k):=by rw [← hap,List.take_append_drop]
 have:=Int.mul_le_mul_of_nonneg_left (show 1≤prodL (zs.drop k) by omega) (show 0≤prodL (zs.take k) by omega)
 omega
set_option linter.unusedSimpArgs false in
set_option maxRecDepth 100000 in
set_option maxHeartbeats 3200000 in
theorem zY (w:World)(va vb:Value)(n nv mv:Nat)(hs ks:List (List Int))(pk:Nat→Nat)(ha:LatN w va n hs nv)(hb:LatN w vb n ks mv)(G:FormL n ks pk)(h1:1≤n)(h4:n≤4)(hN:nv+n *(mv+2)≤90000)(hin:∀ r∈hs,Gens n (InL ks) r)(hR:∀ m,1≤m→m≤4→RoomS m (nv+1)):
  Calls Tryz.prog 10 #[va,vb] w fun e w'=>IdxPost w hs ks pk e w':=by
 have HQ:=hide (fun(W:World) (hbw:Below w.heap.size w W)=>zjR W va vb n nv mv hs ks pk (ha.below hbw) (hb.below hbw) G h1 h4 hN hin hR)
 obtain⟨⟨u,rfl,⟨uo,ucap,rfl,-,-⟩⟩,-⟩:=ha
 obtain⟨⟨v,rfl,⟨vo,vcap,rfl,-,-⟩⟩,-⟩:=hb
 clear hin hR
 have hks:=G.short
 clear G
 have HX:=hide (zah w (.int .i64 (n:Int)) (.slice uo hs.length ucap) (.int .i64 (n:Int)) (.slice vo ks.length vcap) 29 29)
 have HY:=hide (zg ((w.alloc (.cells #[.int .i64 (n:Int),.slice uo hs.length ucap] 29)).alloc (.cells #[.int .i64 (n:Int),.slice vo ks.length vcap] 29)) (.bool false) (.slice none 0 0) 42 (w.heap.size+1+1) (by simp))
 have HZ:=hide ((Below.refl (w.heap.size+2) ((w.alloc (.cells #[.int .i64 (n:Int),.slice uo hs.length ucap] 29)).alloc (.cells #[.int .i64 (n:Int),.slice vo ks.length vcap] 29))).alloc (by simp) (.cells #[.bool false,.slice none 0 0] 42))
 have HC:=hide (HX.out.1.later HZ.out (by omega))
 have HD:=hide (HX.out.2.1.later HZ.out (by omega))
 have HB0:=hide (HX.out.2.2.1.trans (HZ.out.mono (by omega)))
 have HSZ:Hid (w.heap.size+1+1 < (((w.alloc (.cells #[.int .i64 (n:Int),.slice uo hs.length ucap] 29)).alloc (.cells #[.int .i64 (n:Int),.slice vo ks.length vcap] 29)).alloc (.cells #[.bool false,.slice none 0 0] 42)).heap.size):=by show _ < _;simp
 obtain⟨c0,c1,z0,z1⟩:=HC.out
 obtain⟨d0,d1,y0,y1⟩:=HD.out
 go_enter Tryz.func10,Tryz.ntmps10
 go_wp2_with fail
 clear c0 c1 z0 z1 d0 d1 y0 y1 HX HZ HC HD
 generalize (((w.alloc (.cells #[.int .i64 (n:Int),.slice uo hs.length ucap] 29)).alloc (.cells #[.int .i64 (n:Int),.slice vo ks.length vcap] 29)).alloc (.cells #[.bool false,.slice none 0 0] 42))=W0 at *
 refine(HQ.out W0 HB0.out).mono ?_
 rintro e w1 ⟨uq,M,zs,rfl,q1,q2,q3,q4,q6,q7,q8,hb1,-⟩
 have HV1:=hide q1;have HZP:=hide q4;have HPM:=hide q6;have HDE:=hide q8
 have HB1:=hide (HB0.out.trans (hb1.mono HB0.out.size))
 have HE1:=hide (HY.out.later hb1 HSZ.out)
 have HS1:=hide (zT HSZ.out hb1.size)
 obtain⟨zo,zcap,rfl,-,-⟩:=q1
 clear q4 q6 q8 hb1 HB0 HY HSZ HQ
 have HX2:Hid (Box (w1.alloc (.cells #[.slice zo zs.length zcap,.int .i64 ((ks.length:Int) - (hs.length:Int))] 61)) w1.heap.size (.slice zo zs.length zcap) (.int .i64 ((ks.length:Int) - (hs.length:Int)))):=zg w1 _ _ _ _ rfl
 have HB2:=hide (HB1.out.trans (((Below.refl w1.heap.size w1).alloc zL (.cells #[.slice zo zs.length zcap,.int .i64 ((ks.length:Int) - (hs.length:Int))] 61)).mono HB1.out.size))
 have HE2:=hide (HE1.out.later ((Below.refl w1.heap.size w1).alloc zL (.cells #[.slice zo zs.length zcap,.int .i64 ((ks.length:Int) - (hs.length:Int))] 61)) HS1.out)
 have HV2:=hide (HV1.out.below ((Below.refl w1.heap.size w1).alloc zL (.cells #[.slice zo zs.length zcap,.int .i64 ((ks.length:Int) - (hs.length:Int))] 61)) zL)
 have HS2:Hid (w1.heap.size < (w1.alloc (.cells #[.slice zo zs.length zcap,.int .i64 ((ks.length:Int) - (hs.length:Int))] 61)).heap.size):=by show _ < _;simp
 obtain⟨e0,e1,f0,f1⟩:=HE2.out
 by_cases hlt:hs.length < ks.length
 ·have g1:(0:Int) < (ks.length:Int) - (hs.length:Int):=by omega
  have g2:decide ((0:Int) < (ks.length:Int) - (hs.length:Int))=true:=decide_eq_true g1
  have HFE:=hide ((HB2.out.setCell (p:=⟨w.heap.size+1+1,0,none⟩) (by show w.heap.size≤w.heap.size+1+1;omega) (.bool false)).setCell (p:=⟨w.heap.size+1+1,1,none⟩) (by show w.heap.size≤w.heap.size+1+1;omega) (.slice none 0 0))
  have x0:=(HE2.out.write (.bool false) (.slice none 0 0)).1
  have x1:=(HE2.out.write (.bool false) (.slice none 0 0)).2.1
  go_wp2
  exact bodyPost_ret (v:=.tuple #[.agg #[.bool false,.slice none 0 0],.iface 80 (.int .i64 13)]) (by simp [results,Tryz.results10,go_sem,x0,x1]) rfl ⟨HFE.out,.inl ⟨hlt,rfl⟩⟩
 ·have heq:hs.length=ks.length:=by omega
  have g1:¬((0:Int) < (ks.length:Int) - (hs.length:Int)):=by omega
  have g2:decide ((0:Int) < (ks.length:Int) - (hs.length:Int))=false:=decide_eq_false g1
  have HEQ:=hide heq
  obtain⟨v0,v1,-,-⟩:=HX2.out
  clear heq hlt e0 e1 f0 f1
  go_wp2_with fail
  clear g1 g2 v0 v1
  generalize w1.alloc (.cells #[.slice zo zs.length zcap,.int .i64 ((ks.length:Int) - (hs.length:Int))] 61)=W2 at *
  refine(zal W2 1 (by decide) (by decide)).mono ?_
  rintro e w3 ⟨vo1,rfl,no,hb3⟩
  obtain⟨⟨on,oo,ol,oc⟩,rfl⟩:=no.nm
  have HB3:=hide (HB2.out.trans (hb3.mono HB2.out.size))
  have HX3:=hide (HX2.out.later hb3 HS2.out)
  have HE3:=hide (HE2.out.later hb3 (by have h1:=HS1.out;have h2:=HS2.out;omega))
  have HV3:=hide (HV2.out.below hb3 zL)
  have HS3:=hide (zT HS2.out hb3.size)
  have HBX:Hid (Box (w3.alloc (.cells #[.bool on,.slice oo ol oc] 42)) w3.heap.size (.bool on) (.slice oo ol oc)):=zg w3 _ _ _ _ rfl
  have HN0:Hid (NumL (w3.alloc (.cells #[.bool on,.slice oo ol oc] 42)) (.agg #[.bool on,.slice oo ol oc]) (prodL (zs.take 0)) M):=by
   have h1:=zf0 HZP.out 0 (Nat.zero_le _)
   have h2:=HPM.out
   have e:prodL (zs.take 0)=1:=rfl
   rw [e] at h1 ⊢
   exact(no.below ((Below.refl _ _).alloc zL _) zL).tight (by unfold ab;rw [if_neg (by decide)];omega)
  have HE0:Hid (Below w3.heap.size w3 (w3.alloc (.cells #[.bool on,.slice oo ol oc] 42))):=(Below.refl _ _).alloc zL _
  have HL0:Hid (w3.heap.size < (w3.alloc (.cells #[.bool on,.slice oo ol oc] 42)).heap.size):=by show _ < _;simp
  obtain⟨v0,v1,-,-⟩:=HX3.out.later HE0.out HS3.out
  clear no hb3 HX2 HE2 HV2 HS2 HB2
  go_wp2
  clear v0 v1
  go_loopw [29] (fun x wr=>∃(i:Nat) (tn:Bool) (to:Option Addr) (tl tc:Nat),i≤zs.length∧x=.int .i64 i∧Hid (Box wr w3.heap.size (.bool tn) (.slice to tl tc))∧Hid (NumL wr (.agg #[.bool tn,.slice to tl tc]) (prodL (zs.take i)) M)∧Hid (Below w3.heap.size w3 wr)∧Hid (w3.heap.size < wr.heap.size)) (fun x _=>zs.length - (intOf x).toNat)
  case atStart=>exact⟨0,on,oo,ol,oc,Nat.zero_le _,rfl,HBX,HN0,HE0,HL0⟩
  case round=>
   clear HBX HN0 HE0 HL0
   obtain⟨i,tn,to,tl,tc,hi,rfl,HBX,HNS,HEW,HLW⟩:=hrel
   by_cases hil:i < zs.length
   ·obtain⟨zb,zoff,_,e⟩:=HV3.out.form (by omega)
    simp only [Value.slice.injEq,true_and] at e
    obtain⟨rfl,rfl⟩:=e
    obtain⟨la,an,ao,al,ac,a0,a1,na⟩:=HV3.out.at i hil
    have NA:=hide (na.below HEW.out zL)
    have c3:=(HEW.out.cell (p:=⟨zb,zoff+i * 2,none⟩) la).trans a0
    have c4:=(HEW.out.cell (p:=⟨zb,zoff+i * 2+1,none⟩) la).trans a1
    obtain⟨c2,-,-,-⟩:=HX3.out.later HEW.out HS3.out
    obtain⟨c0,c1,f0,f1⟩:=HBX.out
    have HTK:Hid (prodL (zs.take (i+1))=prodL (zs.take i) * zs.getD i 0):=by
     show _=_
     rw [List.take_succ_eq_append_getElem hil,zf1,List.getD_eq_getElem?_getD,List.getElem?_eq_getElem hil,Option.getD_some]
    have HPP:=hide (zf0 HZP.out (i+1) (by omega))
    have la2:=zT la HEW.out.size
    have lq2:=zT HS3.out HEW.out.size
    have lm2:=HLW.out
    clear na a0 a1
    generalize zs.getD i 0=z at *
    generalize ht1:prodL (zs.take i)=t1 at *
    go_wp2_with fail
    refine zp (S:=(fun w'=>w'.cell? ⟨w3.heap.size,0,none⟩=some (.bool tn)∧w'.cell? ⟨w3.heap.size,1,none⟩=some (.slice to tl tc)∧w'.cell? ⟨w1.heap.size,0,none⟩=some (.slice (some ⟨zb,zoff,none⟩) zs.length zcap)∧w'.cell? ⟨zb,zoff+i * 2,none⟩=some (.bool an)∧w'.cell? ⟨zb,zoff+i * 2+1,none⟩=some (.slice ao al ac))) (k:=7) (by kernel_rfl) (by exact⟨c0,c1,c2,c3,c4⟩) (fun hHeld=>?_)
    refine zc (v:=?_) 0 32 [7] rfl rfl (by kernel_rfl) (by kernel_rfl) (by kernel_rfl) (by kernel_rfl) (by kernel_rfl) (fun _ _ _ h=>h) (by rfl) ?_ (by assumption) ?_
    rotate_left
    ·(intro w hSw;(try dsimp only at hSw);obtain⟨hS1,hS2,hS3,hS4,hS5⟩:=hSw;go_simp;with_reducible rfl)
    try simp only [zA]
    refine zc (v:=?_) 1 33 [7] rfl rfl (by kernel_rfl) (by kernel_rfl) (by kernel_rfl) (by kernel_rfl) (by kernel_rfl) (fun _ _ _ h=>h) (by rfl) ?_ (by assumption) ?_
    rotate_left
    ·(intro w hSw;(try dsimp only at hSw);obtain⟨hS1,hS2,hS3,hS4,hS5⟩:=hSw;go_simp;with_reducible rfl)
    try simp only [zA]
    refine zc (v:=?_) 2 34 [7] rfl rfl (by kernel_rfl) (by kernel_rfl) (by kernel_rfl) (by kernel_rfl) (by kernel_rfl) (fun _ _ _ h=>h) (by rfl) ?_ (by assumption) ?_
    rotate_left
    ·(intro w hSw;(try dsimp only at hSw);obtain⟨hS1,hS2,hS3,hS4,hS5⟩:=hSw;go_simp;with_reducible rfl)
    try simp only [zA]
    refine zc (v:=?_) 3 35 [7] rfl rfl (by kernel_rfl) (by kernel_rfl) (by kernel_rfl) (by kernel_rfl) (by kernel_rfl) (fun _ _ _ h=>h) (by rfl) ?_ (by assumption) ?_
    rotate_left
    ·(intro w hSw;(try dsimp only at hSw);obtain⟨hS1,hS2,hS3,hS4,hS5⟩:=hSw;go_simp;with_reducible rfl)
    try simp only [zA]
    refine zc (v:=?_) 4 36 [7] rfl rfl (by kernel_rfl) (by kernel_rfl) (by kernel_rfl) (by kernel_rfl) (by kernel_rfl) (fun _ _ _ h=>h) (by rfl) ?_ (by assumption) ?_
    rotate_left
    ·(intro w hSw;(try dsimp only at hSw);obtain⟨hS1,hS2,hS3,hS4,hS5⟩:=hSw;go_simp;with_reducible rfl)
    try simp only [zA]
    refine zc (v:=?_) 5 37 [7] rfl rfl (by kernel_rfl) (by kernel_rfl) (by kernel_rfl) (by kernel_rfl) (by kernel_rfl) (fun _ _ _ h=>h) (by rfl) ?_ (by assumption) ?_
    rotate_left
    ·(intro w hSw;(try dsimp only at hSw);obtain⟨hS1,hS2,hS3,hS4,hS5⟩:=hSw;go_simp;with_reducible rfl)
    try simp only [zA]
    refine zf 6 (by kernel_rfl) rfl (fun K hK=>?_)
    go_simp
    refine(zaH wr.drew _ _ t1 z M M (by exact HNS.out.below (Below.refl wr.heap.size wr).drew zL) (by exact NA.out.below (Below.refl wr.heap.size wr).drew zL) (by omega) (by omega)).mono ?_
    rintro e w4 ⟨vp,rfl,np,hb4⟩
    have np2:NumL w4 vp (prodL (zs.take (i+1))) M:=by
     have h1:=HPP.out;have h2:=HPM.out
     have h3:NumL w4 vp (prodL (zs.take (i+1))) (M+M):=by rw [HTK.out];exact np
     exact h3.tight (by unfold ab;rw [if_neg (by omega)];omega)
    have hb4':Below wr.heap.size wr w4:=(Below.refl _ _).drew.trans hb4
    obtain⟨⟨pn,po,pl,pc⟩,rfl⟩:=np2.nm
    have s1:(fun w'=>w'.cell? ⟨w3.heap.size,0,none⟩=some (.bool tn)∧w'.cell? ⟨w3.heap.size,1,none⟩=some (.slice to tl tc)∧w'.cell? ⟨w1.heap.size,0,none⟩=some (.slice (some ⟨zb,zoff,none⟩) zs.length zcap)∧w'.cell? ⟨zb,zoff+i * 2,none⟩=some (.bool an)∧w'.cell? ⟨zb,zoff+i * 2+1,none⟩=some (.slice ao al ac)) w4:=⟨(hb4'.cell (p:=⟨w3.heap.size,0,none⟩) lm2).trans c0,(hb4'.cell (p:=⟨w3.heap.size,1,none⟩) lm2).trans c1,(hb4'.cell (p:=⟨w1.heap.size,0,none⟩) lq2).trans c2,(hb4'.cell (p:=⟨zb,zoff+i * 2,none⟩) la2).trans c3,(hb4'.cell (p:=⟨zb,zoff+i * 2+1,none⟩) la2).trans c4⟩
    have HS4:=hide s1
    have HBX2:=hide (HBX.out.later hb4' lm2)
    have HBX3:=hide (HBX2.out.write (.bool pn) (.slice po pl pc))
    have HN3:=hide ((np2.setCell HBX2.out.1 (x:=.bool pn) (fun z e=>by cases e)).setCell (p:=⟨w3.heap.size,1,none⟩) (x:=.slice po pl pc) ((World.cell?_setCell_other (h:=fun e=>by simp at e) ..).trans HBX2.out.2.1) (fun z e=>by cases e))
    have HE5:=hide (((HEW.out.trans (hb4'.mono HEW.out.size)).setCell (p:=⟨w3.heap.size,0,none⟩) zL (.bool pn)).setCell (p:=⟨w3.heap.size,1,none⟩) zL (.slice po pl pc))
    have HL5:Hid (w3.heap.size < ((w4.setCell ⟨w3.heap.size,0,none⟩ (.bool pn)).setCell ⟨w3.heap.size,1,none⟩ (.slice po pl pc)).heap.size):=by
     have:=hb4'.size
     show _ < _
     simp;omega
    obtain⟨k0,k1,l0,l1⟩:=HBX2.out
    clear np np2 hb4 hb4' s1 c0 c1 c2 c3 c4 f0 f1
    go_wp2_with fail
    refine hK.out _ _ (fun _=>HS4.out) ?_
    clear hK K hHeld
    try simp only [zA]
    refine zf 7 (by kernel_rfl) rfl (fun K hK=>?_)
    go_simp
    refine hK.out _ _ (fun h=>absurd h (by decide)) ?_
    clear hK K
    try simp only [zA]
    refine zl (by kernel_rfl) ?_
    clear k0 k1 l0 l1 HBX HBX2 HNS HEW HS4 NA
    go_wp2
    go_roundw
    case rel=>exact⟨i+1,pn,po,pl,pc,by omega,by go_num,HBX3,HN3,HE5,HL5⟩
    case measure=>simp [intOf];omega
   ·obtain rfl:i=zs.length:=by omega
    obtain⟨c0,c1,-,-⟩:=HBX.out
    have HE6:=hide (HE3.out.later HEW.out (by have h1:=HS1.out;have h2:=HS3.out;omega))
    obtain⟨e0,e1,f0,f1⟩:=HE6.out
    have HFE:=hide (((HB3.out.trans (HEW.out.mono HB3.out.size)).setCell (p:=⟨w.heap.size+1+1,0,none⟩) (by show w.heap.size≤w.heap.size+1+1;omega) (.bool tn)).setCell (p:=⟨w.heap.size+1+1,1,none⟩) (by show w.heap.size≤w.heap.size+1+1;omega) (.slice to tl tc))
    have HFN:Hid (NumL ((wr.setCell ⟨w.heap.size+1+1,0,none⟩ (.bool tn)).setCell ⟨w.heap.size+1+1,1,none⟩ (.slice to tl tc)) (.agg #[.bool tn,.slice to tl tc]) (absI (det ks.length (ent (muchM hs ks pk)))) M):=by
     have h1:=HNS.out
     rw [List.take_length,HDE.out HEQ.out] at h1
     exact(h1.setCell e0 (fun z e=>by cases e)).setCell (p:=⟨w.heap.size+1+1,1,none⟩) ((World.cell?_setCell_other (h:=fun e=>by simp at e) ..).trans e1) (fun z e=>by cases e)
    have x0:=(HE6.out.write (.bool tn) (.slice to tl tc)).1
    have x1:=(HE6.out.write (.bool tn) (.slice to tl tc)).2.1
    clear HNS HBX HEW
    go_wp2
    exact bodyPost_ret (v:=.tuple #[.agg #[.bool tn,.slice to tl tc],.nilIface]) (by simp [results,Tryz.results10,go_sem,x0,x1]) rfl ⟨HFE.out,.inr ⟨HEQ.out,_,M,rfl,HFN.out,q2⟩⟩
end Go.Proofs.YtnkcjkpkphjecaaGreatDoor
/- A variable that lies there. -/
namespace Go.Proofs.YtnkcjkpkphjecaaGreatDoor
open Go.RowKit Limbs
def BoxL (W:World)(B:Nat)(u0 u1:Value):Prop:=Box W B u0 u1∧B < W.heap.size
theorem BoxL.later {W W':World}{B:Nat}{u0 u1:Value}(h:BoxL W B u0 u1)(hb:Below W.heap.size W W'):BoxL W' B u0 u1:=⟨h.1.later hb h.2,zT h.2 hb.size⟩
theorem BoxL.new (W:World)(u0 u1:Value)(t:TypeId):BoxL (W.alloc (.cells #[u0,u1] t)) W.heap.size u0 u1:=⟨zg W u0 u1 t _ rfl,by simp⟩
theorem zy (W:World)(ob:Obj):Below W.heap.size W (W.alloc ob):=(Below.refl _ _).alloc zL _
end Go.Proofs.YtnkcjkpkphjecaaGreatDoor
/- Plain arithmetic of the reference's digits: numbers to the base 10000, the lowest first. No Go in it. -/
namespace Go.Proofs.YtnkcjkpkphjecaaGreatDoor.Digs
open Limbs
def dv:List Int→Int
 | []=>0
 | x :: xs=>x+10000 * dv xs
def DB (zs:List Int):Prop:=∀ i:Nat,0≤zs.getD i 0∧zs.getD i 0 < 10000
def dp:Nat→Int
 | 0=>1
 | n+1=>10000 * dp n
theorem zaD (n:Nat):0 < dp n:=by
 induction n with
 | zero=>simp [dp]
 | succ n ih=>simp only [dp];omega
theorem zeQ (m n:Nat):dp (m+n)=dp m * dp n:=by
 induction m with
 | zero=>simp [dp]
 | succ m ih=>rw [Nat.succ_add];simp only [dp];rw [ih,Int.mul_assoc]
theorem zbD {m n:Nat}(h:m≤n):dp m≤dp n:=by
 obtain⟨k,rfl⟩:=Nat.exists_eq_add_of_le h
 rw [zeQ]
 have h1:=zaD m
 have h2:=zaD k
 have:dp m * 1≤dp m * dp k:=Int.mul_le_mul_of_nonneg_left (by omega) (by omega)
 omega
theorem zaY:DB []:=by intro i;simp
theorem zeg {x:Int}{xs:List Int}(h:DB (x :: xs)):DB xs:=fun i=>by simpa using h (i+1)
theorem zee {x:Int}{xs:List Int}(h:DB (x :: xs)):0≤x∧x < 10000:=by simpa using h 0
theorem zcb {x:Int}{xs:List Int}(hx:0≤x∧x < 10000)(h:DB xs):DB (x :: xs):=by
 intro i
 cases i with
 | zero=>simpa using hx
 | succ i=>simpa using h i
theorem zgJ {zs:List Int}(h:∀ z∈zs,0≤z∧z < 10000):DB zs:=by
 induction zs with
 | nil=>exact zaY
 | cons x xs ih=>exact zcb (h x (by simp)) (ih fun z hz=>h z (by simp [hz]))
theorem zbw {zs:List Int}(h:DB zs)(k:Nat):DB (zs.take k):=by
 intro i
 have:=h i
 by_cases hk:i < k
 ·simpa [List.getD_eq_getElem?_getD,List.getElem?_take,hk] using this
 ·simp [List.getD_eq_getElem?_getD,List.getElem?_take,hk]
theorem zaP {zs:List Int}(h:DB zs):0≤dv zs:=by
 induction zs with
 | nil=>simp [dv]
 | cons x xs ih=>have:=ih (zeg h);have:=zee h;simp only [dv];omega
theorem zbF {zs:List Int}(h:DB zs):dv zs < dp zs.length:=by
 induction zs with
 | nil=>simp [dv,dp]
 | cons x xs ih=>have:=ih (zeg h);have:=zee h;simp only [dv,List.length_cons,dp];omega
theorem zdl (xs ys:List Int):dv (xs ++ ys)=dv xs+dp xs.length * dv ys:=by
 induction xs with
 | nil=>simp [dv,dp]
 | cons x xs ih=>simp only [List.cons_append,dv,ih,List.length_cons,dp];rw [Int.mul_add,Int.mul_assoc];omega
theorem zay (zs:List Int)(k:Nat):dv (zs.take (k+1))=dv (zs.take k)+dp k * zs.getD k 0:=by
 by_cases h:k < zs.length
 ·rw [List.take_succ_eq_append_getElem h,zdl]
  simp [dv,List.length_take,Nat.min_eq_left (Nat.le_of_lt h),List.getD_eq_getElem?_getD,h]
 ·rw [List.take_of_length_le (by omega),List.take_of_length_le (by omega)]
  simp [List.getD_eq_getElem?_getD,List.getElem?_eq_none (Nat.le_of_not_lt h)]
theorem zdm (zs:List Int)(k:Nat)(h:k≤zs.length):dv zs=dv (zs.take k)+dp k * dv (zs.drop k):=by
 have:=zdl (zs.take k) (zs.drop k)
 rw [List.take_append_drop,List.length_take,Nat.min_eq_left h] at this
 exact this
theorem zbf (zs:List Int){k:Nat}(h:zs.length≤k):dv (zs.take k)=dv zs:=by
 rw [List.take_of_length_le h]
theorem zh8 {zs:List Int}(h:DB zs)(k:Nat):dv (zs.take k) < dp k:=by
 have h1:=zbF (zbw h k)
 have h2:dp (zs.take k).length≤dp k:=zbD (List.length_take_le k zs)
 omega
theorem zeT {zs:List Int}(h:DB zs)(k:Nat):0≤dv (zs.take k):=zaP (zbw h k)
theorem zeS {a b:List Int}(ha:DB a)(hb:DB b)(hl:a.length=b.length){k:Nat}(hk:k < a.length)(hd:a.drop (k+1)=b.drop (k+1))(hx:a.getD k 0 < b.getD k 0):dv a < dv b:=by
 have e1:=zdm a k (by omega)
 have e2:=zdm b k (by omega)
 rw [zz a k hk] at e1
 rw [zz b k (by omega),← hd] at e2
 simp only [dv] at e1 e2
 have h1:=zh8 ha k
 have h2:=zeT hb k
 generalize dv (a.drop (k+1))=t at e1 e2
 have hp:=zaD k
 have h3:dp k *(a.getD k 0+10000 * t+1)≤dp k *(b.getD k 0+10000 * t):=Int.mul_le_mul_of_nonneg_left (by omega) (by omega)
 rw [Int.mul_add,Int.mul_one] at h3
 omega
theorem zdN {zs:List Int}(h:DB zs)(hn:Nrm zs)(h0:0 < zs.length):dp (zs.length - 1)≤dv zs:=by
 have e:=zdm zs (zs.length - 1) (by omega)
 rw [zz zs (zs.length - 1) (by omega)] at e
 have hd:zs.drop (zs.length - 1+1)=[]:=List.drop_eq_nil_of_le (by omega)
 rw [hd] at e
 simp only [dv] at e
 have h1:=zeT h (zs.length - 1)
 have h2:=h (zs.length - 1)
 have h3:zs.getD (zs.length - 1) 0≠0:=by rcases hn with hn | hn;omega;exact hn
 have hp:=zaD (zs.length - 1)
 have h4:dp (zs.length - 1) * 1≤dp (zs.length - 1) *(zs.getD (zs.length - 1) 0+10000 * 0):=Int.mul_le_mul_of_nonneg_left (by omega) (by omega)
 omega
theorem zcn {a b:List Int}(ha:DB a)(hb:DB b)(hn:Nrm b)(hl:a.length < b.length):dv a < dv b:=by
 have h1:=zbF ha
 have h2:=zdN hb hn (by omega)
 have h3:dp a.length≤dp (b.length - 1):=zbD (by omega)
 omega
theorem zdn {zs:List Int}(h:DB zs)(hn:Nrm zs):dv zs=0↔zs.length=0:=by
 constructor
 ·intro h0
  by_cases hl:zs.length=0
  ·exact hl
  ·have h1:=zdN h hn (by omega)
   have:=zaD (zs.length - 1)
   omega
 ·intro hl
  rw [List.eq_nil_of_length_eq_zero hl];rfl
theorem zfi {zs:List Int}(h:DB zs)(hn:Nrm zs){n:Nat}(hlt:dv zs < dp n):zs.length≤n:=by
 by_cases hl:zs.length≤n
 ·exact hl
 ·have h1:=zdN h hn (by omega)
  have h2:dp n≤dp (zs.length - 1):=zbD (by omega)
  omega
theorem zef {zs:List Int}(h:DB zs)(k:Nat){z:Int}(hz:0≤z∧z < 10000):DB (zs.set k z):=by
 intro i
 rw [List.getD_eq_getElem?_getD,List.getElem?_set]
 by_cases hk:k=i
 ·subst hk
  by_cases hl:k < zs.length <;> simp [hl,hz]
 ·have:=h i
  simpa [hk,List.getD_eq_getElem?_getD] using this
theorem zh7 (zs:List Int)(k:Nat)(z:Int)(h:k < zs.length):dv (zs.set k z)=dv zs+dp k *(z - zs.getD k 0):=by
 induction zs generalizing k with
 | nil=>simp at h
 | cons x xs ih=>
  cases k with
  | zero=>simp [dv,dp];omega
  | succ k=>
   have:=ih k (by simpa using h)
   simp only [List.set_cons_succ,dv,this,dp,List.getD_cons_succ]
   rw [Int.mul_add,Int.mul_assoc];omega
theorem zh6 (n:Nat):dv (List.replicate n 0)=0:=by
 induction n with
 | zero=>rfl
 | succ n ih=>simp only [List.replicate_succ,dv,ih];rfl
theorem zgK (n:Nat):DB (List.replicate n 0):=zgJ fun z hz=>by
 rw [List.eq_of_mem_replicate hz];decide
end Go.Proofs.YtnkcjkpkphjecaaGreatDoor.Digs
/- The reference's numbers: digits to the base 10000 in memory; noughts behind are taken off. -/
namespace Go.Proofs.YtnkcjkpkphjecaaGreatDoor
open Go.RowKit Limbs Digs
def Dig (w:World)(v:Value)(ds:List Int):Prop:=
 ∃ ao cap,v=.slice ao ds.length cap∧ds.length≤cap∧ds.length≤1000000000000∧DB ds ∧
  (0 < ds.length→∃ b off cur fz,ao=some ⟨b,off,none⟩∧w.heap[b]?=some (.cells cur 3 fz)∧∀ i,i < ds.length→w.cell? ⟨b,off+i,none⟩=some (.int .i64 (ds.getD i 0)))
theorem Dig.below {B:Nat}{w w':World}{v:Value}{ds:List Int}(h:Dig w v ds)(hb:Below B w w')(hB:w.heap.size≤B):Dig w' v ds:=by
 obtain⟨ao,cap,hv,h1,h2,h3,h4⟩:=h
 refine⟨ao,cap,hv,h1,h2,h3,fun h0=>?_⟩
 obtain⟨b,off,cur,fz,e,hlt,hc⟩:=h4 h0
 have hl:=zn hlt
 exact⟨b,off,cur,fz,e,(hb.block b (by omega)).trans hlt,fun i hi=>(hb.cell (p:=⟨b,off+i,none⟩) (zT hl hB)).trans (hc i hi)⟩
theorem Dig.nil (w:World):Dig w (.slice none 0 0) []:=⟨none,0,rfl,Nat.le_refl _,by simp,zaY,fun h=>absurd h (by simp)⟩
theorem Dig.take {w:World}{ao:Option Addr}{cap:Nat}{ds:List Int}(h:Dig w (.slice ao ds.length cap) ds)(n:Nat)(hn:n≤ds.length):Dig w (.slice ao n n) (ds.take n):=by
 obtain⟨ao',cap',hv,h1,h2,h3,h4⟩:=h
 simp only [Value.slice.injEq,true_and] at hv
 obtain⟨rfl,rfl⟩:=hv
 have hl:(ds.take n).length=n:=by rw [List.length_take];omega
 refine⟨ao,n,by rw [hl],by omega,by omega,zbw h3 n,fun h0=>?_⟩
 obtain⟨b,off,cur,fz,e,hlt,hc⟩:=h4 (by omega)
 refine⟨b,off,cur,fz,e,hlt,fun i hi=>?_⟩
 rw [hc i (by omega),zaF ds n i (by omega)]
theorem Dig.owns {w:World}{base n:Nat}{v:Value}{ds:List Int}(h:w.ownsRow base 3 1 v n (ds.map (Value.int .i64)))(hd:DB ds)(hl:ds.length≤1000000000000):Dig w v ds:=by
 have hn:n=ds.length:=by have:=h.1;rw [List.length_map] at this;omega
 subst hn
 rcases h.2 with⟨rfl,h0⟩ |⟨g,cap,cur,rfl,hb,hg,hc,hm,hs,ht⟩
 ·have:ds=[]:=List.eq_nil_of_length_eq_zero h0
  subst this
  exact Dig.nil w
 ·refine⟨_,cap,rfl,hc,hl,hd,fun h0=>⟨g,0,cur,(0,0),rfl,hg,fun i hi=>?_⟩⟩
  have:=h.cellAt i (by omega)
  rw [Nat.zero_add,this]
  simp [List.getD_eq_getElem?_getD,hi]
def NumR (w:World)(v:Value)(z:Int)(n:Nat):Prop:=
 ∃(s:Int) (sl:Value) (ds:List Int),v=.agg #[.int .i64 s,sl]∧Dig w sl ds∧Nrm ds∧z=s * dv ds∧((ds.length=0∧s=0∧sl=.slice none 0 0)∨(0 < ds.length∧(s=1∨s=-1)))∧ds.length≤n
theorem NumR.below {B:Nat}{w w':World}{v:Value}{z:Int}{n:Nat}(h:NumR w v z n)(hb:Below B w w')(hB:w.heap.size≤B):NumR w' v z n:=by
 obtain⟨s,sl,ds,h1,h2,h3⟩:=h
 exact⟨s,sl,ds,h1,h2.below hb hB,h3⟩
theorem NumR.mono {w:World}{v:Value}{z:Int}{n m:Nat}(h:NumR w v z n)(hm:n≤m):NumR w v z m:=by
 obtain⟨s,sl,ds,h1,h2,h3,h4,h5,h6⟩:=h
 exact⟨s,sl,ds,h1,h2,h3,h4,h5,by omega⟩
theorem NumR.zero (w:World)(n:Nat):NumR w (.agg #[.int .i64 0,.slice none 0 0]) 0 n:=
 ⟨0,_,[],rfl,Dig.nil w,.inl rfl,by simp,.inl ⟨rfl,rfl,rfl⟩,by simp⟩
def RefPost (w:World)(z:Int)(n:Nat)(e:Ending)(w':World):Prop:=
 ∃ v,e=.returned v∧NumR w' v z n∧Below w.heap.size w w'
theorem zh9 {ds:List Int}{n:Nat}(h0:0 < n)(h:ds.getD (n - 1) 0=0):dv (ds.take (n - 1))=dv (ds.take n):=by
 have:=zay ds (n - 1)
 rw [show n - 1+1=n by omega,h] at this
 omega
theorem zco {ds:List Int}(h:DB ds)(hn:Nrm ds)(h0:ds.length≠0):0 < dv ds:=by
 have h1:=zaP h
 have h2:=zdn h hn
 rcases(by omega:dv ds=0∨0 < dv ds) with e | e
 ·exact absurd (h2.1 e) h0
 ·exact e
set_option maxRecDepth 100000 in
set_option maxHeartbeats 800000 in
theorem zax (w:World)(s:Int)(v:Value)(ds:List Int)(h:Dig w v ds)(hs:s=1∨s=-1∨dv ds=0):
  Calls Tryz.prog 48 #[.int .i64 s,v] w fun e w'=>RefPost w (s * dv ds) ds.length e w':=by
 have HD:=hide h
 have HS:=hide hs
 obtain⟨ao,cap,rfl,hcap,hlen,hdb,hc⟩:=h
 have hW:Below w.heap.size w (w.alloc (.cells #[.int .i64 0,.slice none 0 0] 75)):=(Below.refl _ _).alloc zL _
 have HW:=hide hW
 have hc':0 < ds.length→∃ b off,ao=some ⟨b,off,none⟩∧∀ i,i < ds.length→(w.alloc (.cells #[.int .i64 0,.slice none 0 0] 75)).cell? ⟨b,off+i,none⟩=some (.int .i64 (ds.getD i 0)):=fun h0=>by
  obtain⟨b,off,cur,fz,e,hlt,hc⟩:=hc h0
  have hl:=zn hlt
  exact⟨b,off,e,fun i hi=>(hW.cell (p:=⟨b,off+i,none⟩) hl).trans (hc i hi)⟩
 clear hc hs hW
 go_enter Tryz.func48,Tryz.ntmps48
 go_wp2
 go_loop [5] (fun t=>∃ n:Nat,n≤ds.length∧t=.int .i64 n∧Hid (dv (ds.take n)=dv ds)) (fun t=>(intOf t).toNat)
 case atStart=>exact⟨ds.length,Nat.le_refl _,rfl,by show dv _=_;rw [List.take_length]⟩
 case round=>
  obtain⟨n,hn,rfl,HV⟩:=hrel
  by_cases h0:n=0
  ·subst h0
   have HF:Hid (RefPost w (s * dv ds) ds.length (.returned (.agg #[.int .i64 0,.slice none 0 0])) (w.alloc (.cells #[.int .i64 0,.slice none 0 0] 75))):=by
    refine⟨_,rfl,?_,HW.out⟩
    have e:s * dv ds=0:=by rw [← HV.out];simp [dv]
    rw [e]
    exact NumR.zero _ _
   clear HV
   go_wp2
   exact bodyPost_ret (v:=.agg #[.int .i64 0,.slice none 0 0]) (by simp [results,Tryz.results48,go_sem]) rfl HF.out
  ·obtain⟨b,off,rfl,hc⟩:=hc' (by omega)
   obtain⟨m,rfl⟩:∃ m,n=m+1:=⟨n - 1,by omega⟩
   have hcm:=hc m (by omega)
   clear hc
   have HG:Hid (ds.getD (m+1 - 1) 0=ds.getD m 0):=by show _=_;rw [Nat.add_sub_cancel]
   have hzb:=hdb m
   generalize hz:ds.getD m 0=z at *
   by_cases hz0:z=0
   ·subst hz0
    go_wp2
    go_round
    case rel=>exact⟨m,by omega,by go_num,by have:=zh9 (ds:=ds) (n:=m+1) (by omega) HG.out;rw [Nat.add_sub_cancel] at this;exact this.trans HV.out⟩
    case measure=>simp [intOf]
   ·have hz1:(z == 0)=false:=by simp [hz0]
    have HF:Hid (RefPost w (s * dv ds) ds.length (.returned (.agg #[.int .i64 s,.slice (some ⟨b,off,none⟩) (m+1) (m+1)])) (w.alloc (.cells #[.int .i64 s,.slice (some ⟨b,off,none⟩) (m+1) (m+1)] 75))):=by
     refine⟨_,rfl,⟨s,_,ds.take (m+1),rfl,(HD.out.take (m+1) hn).below ((Below.refl _ _).alloc zL _) zL,zcC hn (.inr (by rw [HG.out];exact hz0)),by rw [HV.out],.inr ⟨by rw [List.length_take];omega,?_⟩,by rw [List.length_take];omega⟩,(Below.refl _ _).alloc zL _⟩
     rcases HS.out with h | h | h
     ·exact .inl h
     ·exact .inr h
     ·exfalso
      have hp:=zco (zbw hdb (m+1)) (zcC hn (.inr (by rw [HG.out];exact hz0))) (by rw [List.length_take];omega)
      rw [HV.out] at hp
      omega
    clear HV HS HD HG
    go_wp2
    exact bodyPost_ret (v:=.agg #[.int .i64 s,.slice (some ⟨b,off,none⟩) (m+1) (m+1)]) (by simp [results,Tryz.results48,go_sem]) rfl HF.out
end Go.Proofs.YtnkcjkpkphjecaaGreatDoor
