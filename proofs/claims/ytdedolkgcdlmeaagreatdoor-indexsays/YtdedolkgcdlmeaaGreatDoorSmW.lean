import Derived.Test.YtdedolkgcdlmeaaGreatDoorIdxA
set_option maxRecDepth 100000
set_option maxHeartbeats 3200000
set_option linter.unusedSimpArgs false
namespace Go.Proofs.YtdedolkgcdlmeaaGreatDoor
open Go.RowKit Limbs
variable {n r k nv:Nat}{pk ph:Nat→Nat}{g x:Int}{u:Value}
def InvQ (hs ks:List (List Int))(pk:Nat→Nat)(zs:List Int):Prop:=
 ∃(ys:List Int) (fa fs:List (List Int)) (pa:Nat→Nat) (D:Int),zs=overOne ys∧FormL ks.length fa pa∧Alikes ks.length (InL fa) (InL (muchM hs ks pk))∧fa.length=hs.length∧TurnF ks.length fa fs∧ChI fa.length ys D (ent fs) fa.length (fa.length+1)
theorem InvQ.none {hs ks:List (List Int)}(h:hs.length=0):InvQ hs ks pk []:=by
 have e:hs=[]:=List.length_eq_zero_iff.1 h
 subst e
 have h2:∀ i:Nat,¬ i<([]:List (List Int)).length:=fun i h=>absurd h (Nat.not_lt_zero i)
 refine⟨[],[],[],fun k=>k,1,rfl,⟨fun r hr=>absurd hr (by simp),⟨fun i k _ h=>absurd h (h2 k),fun i h=>absurd h (h2 i),fun i b h _=>absurd h (h2 i),fun i h=>absurd h (h2 i),fun i k _ h=>absurd h (h2 k)⟩⟩,fun x=>Iff.rfl,rfl,⟨rfl,fun u hu=>absurd hu (by simp),fun x _ k h=>absurd h (h2 k),?_⟩,⟨rfl,fun j h=>absurd h (h2 j),rfl,fun i h=>absurd h (h2 i),fun j _ h=>?_,.of fun i j h _=>absurd h (h2 i)⟩⟩
 ·refine Alikes.of (fun v hv _=>absurd hv (by simp [InL])) fun v hv hl=>?_
  have:v=[]:=List.length_eq_zero_iff.1 hl
  rw [this]
  exact .zero
 ·have h3:j<0+1:=h
  omega
def QuoLPost (w:World)(hs ks:List (List Int))(pk:Nat→Nat)(e:Ending)(w':World):Prop:=
 ∃(u:Value) (M:Nat) (zs:List Int),e=.returned (.tuple #[.agg #[u,.int .i64 ((ks.length:Int)-(hs.length:Int))],.nilIface])∧VecN w' u zs M∧M≤100000∧zs.length≤4∧(∀ z∈zs,0<z)∧prodL zs<bp M∧hs.length≤ks.length∧(hs.length=ks.length→prodL zs=absI (det ks.length (ent (muchM hs ks pk))))∧Below w.heap.size w w'∧InvQ hs ks pk zs
theorem VecN.setTwo{W:World}{zs:List Int}{M B:Nat}{u0 u1 y z:Value}(h:VecN W u zs M)(hfr:∀ a l c,u=.slice (some a) l c→B<a.block)(d0:W.cell? ⟨B,0,none⟩=some u0)(d1:W.cell? ⟨B,1,none⟩=some u1)(h0:∀ x,u0≠.int .u32 x)(h1:∀ x,u1≠.int .u32 x):VecN ((W.setCell ⟨B,0,none⟩ y).setCell ⟨B,1,none⟩ z) u zs M:=by
 by_cases hz:0<zs.length
 ·obtain⟨b,off,cap,rfl⟩:=h.form hz
  have hb:=hfr _ _ _ rfl
  have hne:b≠B:=fun e=>by
   have:B<b:=hb
   omega
  exact(h.other hne d0 h0).other hne ((World.cell?_setCell_other (h:=fun e=>by simp at e) ..).trans d1) h1
 ·obtain⟨ao,cap,e,hc,-⟩:=h
  exact⟨ao,cap,e,hc,fun h=>absurd h hz⟩
theorem zff{hs ks:List (List Int)}(F:FormL n hs ph)(G:FormL n ks pk)(hin:∀ r∈hs,Gens n (InL ks) r):hs.length≤ks.length:=
 zbD hs.length ks.length n (ent hs) (ent ks) (ent (muchM hs ks pk)) ph F.form.lt (fun i k hi hki=>F.form.zero i (ph k) hi (F.form.inc k i hki hi)) (fun i hi=>F.form.pos i hi) (fun i b hi hb=>zdE G F.len hin i b hi hb)
theorem zep(hk:k<4)(h:absI x≤2 ^ k*bp nv):ab x<bp (nv+1):=by
 have e:bp (nv+1)=4294967296*bp nv:=rfl
 have hp:=zD nv
 have h8:(2:Int) ^ k≤8:=(by decide:∀ k,k<4→(2:Int) ^ k≤8) k hk
 have h9:=Int.mul_le_mul_of_nonneg_right h8 (show 0≤bp nv by omega)
 have h10:ab x≤2 ^ k*bp nv:=h
 rw [e]
 omega
theorem zjJ{w w':World}{m:Value}{N:Nat}{hs ks:List (List Int)}(hu:MatN w u hs nv)(hl:∀ r∈hs,r.length=n)(G:FormL n ks pk)(h4:n≤4)(hin:∀ r∈hs,Gens n (InL ks) r)(hm:MatN w' m (muchM hs ks pk) N):MatN w' m (muchM hs ks pk) (nv+1):=
 hm.tight fun zs hz j hj=>by
  obtain⟨r,hr,rfl⟩:=List.mem_map.1 hz
  rw [zaD] at hj
  have hs':=G.short
  exact zep (show j<4 by omega) (zfD G (hl r hr) (hin r hr) (fun b hb=>Int.le_of_lt (hu.abs r hr b (by rw [hl r hr];exact hb))) j hj)
theorem zf7 (w:World)(va vb:Value)(n nv mv:Nat)(hs ks:List (List Int))(pk:Nat→Nat)(ha:LatN w va n hs nv)(hb:LatN w vb n ks mv)(G:FormL n ks pk)(h1:1≤n)(h4:n≤4)(hN:nv+n *(mv+2)≤90000)(hin:∀ r∈hs,Gens n (InL ks) r)(hR:∀ m,1≤m→m≤4→RoomS m (nv+1)):
  Calls Tryz.prog 39 #[va,vb] w fun e w'=>QuoLPost w hs ks pk e w':=by
 have HA:=hide ha;have HB:=hide hb;have HG:=hide G;have HIN:=hide hin;have HR:=hide hR
 obtain⟨⟨u,rfl,hu⟩,ph,hF⟩:=ha
 obtain⟨⟨v,rfl,hv⟩,-⟩:=hb
 have HU:=hide hu;have HF:=hide hF
 have hsh:=zff hF G hin
 have hks:=G.short
 obtain⟨uo,ucap,rfl,-,-⟩:=hu
 obtain⟨vo,vcap,rfl,-,-⟩:=hv
 clear hF G hin hR
 have HX:=hide (zaR w (.int .i64 (n:Int)) (.slice uo hs.length ucap) (.int .i64 (n:Int)) (.slice vo ks.length vcap) 55 55)
 have HY:=hide (zj ((w.alloc (.cells #[.int .i64 (n:Int),.slice uo hs.length ucap] 55)).alloc (.cells #[.int .i64 (n:Int),.slice vo ks.length vcap] 55)) (.slice none 0 0) (.int .i64 0) 77 (w.heap.size+1+1) (by simp))
 have HZ:=hide ((Below.refl (w.heap.size+2) ((w.alloc (.cells #[.int .i64 (n:Int),.slice uo hs.length ucap] 55)).alloc (.cells #[.int .i64 (n:Int),.slice vo ks.length vcap] 55))).alloc (by simp) (.cells #[.slice none 0 0,.int .i64 0] 77))
 have HC:=hide (HX.out.1.later HZ.out (by omega))
 have HD:=hide (HX.out.2.1.later HZ.out (by omega))
 have HB0:=hide (HX.out.2.2.1.trans (HZ.out.mono (by omega)))
 have HSZ:Hid (w.heap.size+1+1<(((w.alloc (.cells #[.int .i64 (n:Int),.slice uo hs.length ucap] 55)).alloc (.cells #[.int .i64 (n:Int),.slice vo ks.length vcap] 55)).alloc (.cells #[.slice none 0 0,.int .i64 0] 77)).heap.size):=by show _<_;simp
 obtain⟨c0,c1,z0,z1⟩:=HC.out
 obtain⟨d0,d1,y0,y1⟩:=HD.out
 go_enter Tryz.func39,Tryz.ntmps39
 go_wp2_with fail
 clear c0 c1 z0 z1 d0 d1 y0 y1 HX HZ
 generalize (((w.alloc (.cells #[.int .i64 (n:Int),.slice uo hs.length ucap] 55)).alloc (.cells #[.int .i64 (n:Int),.slice vo ks.length vcap] 55)).alloc (.cells #[.slice none 0 0,.int .i64 0] 77))=W0 at *
 refine(zes W0 _ _ n nv mv hs ks (by exact HA.out.below HB0.out) (by exact HB.out.below HB0.out) h1 h4).mono ?_
 rintro e w1 ⟨rfl,hb1⟩
 have HB1:=hide (HB0.out.trans (hb1.mono HB0.out.size))
 have HC1:=hide (HC.out.later hb1 (by have:=HSZ.out;omega))
 have HD1:=hide (HD.out.later hb1 (by have:=HSZ.out;omega))
 have HE1:=hide (HY.out.later hb1 HSZ.out)
 have HS1:=hide (zT HSZ.out hb1.size)
 clear hb1 HC HD HY HSZ HB0
 obtain⟨c0,c1,-,-⟩:=HC1.out
 obtain⟨d0,d1,-,-⟩:=HD1.out
 go_wp2_with fail
 refine(zej w1 _ _ n nv mv hs ks pk (by exact HA.out.below HB1.out) (by obtain⟨⟨u,e,h⟩,-⟩:=HB.out;exact⟨u,e,h.below HB1.out zL⟩) HG.out h1 h4 hN).mono ?_
 rintro e w2 ⟨hb2,hcase⟩
 have HB2:=hide (HB1.out.trans (hb2.mono HB1.out.size))
 have HD2:=hide (HD1.out.later hb2 (by have:=HS1.out;omega))
 have HE2:=hide (HE1.out.later hb2 HS1.out)
 have HS2:=hide (zT HS1.out hb2.size)
 clear hb2 c0 c1 d0 d1 HC1 HD1 HE1 HS1 HB1
 rcases hcase with⟨-,m,rfl,hm⟩ |⟨hl,-⟩
 ·have HM:=hide (zjJ HU.out HF.out.len HG.out h4 HIN.out (show MatN w2 m (muchM hs ks pk) _ from hm))
  obtain⟨mo,mcap,rfl,-,-⟩:=hm
  rw [show(hs.map (muchL ks pk)).length=hs.length from List.length_map ..]
  have HM':=HM.out
  rw [show(hs.map (muchL ks pk)).length=hs.length from List.length_map ..] at HM'
  have HM2:=hide HM'
  clear HM HM'
  obtain⟨d0,d1,-,-⟩:=HD2.out
  by_cases h0:hs.length=0
  ·obtain⟨e0,e1,f0,f1⟩:=HE2.out
   have g1:((hs.length:Int)==0)=true:=by rw [h0];rfl
   have g2:(hs.length:Int)=0:=by omega
   have HP:Hid (QuoLPost w hs ks pk (.returned (.tuple #[.agg #[.slice none 0 0,.int .i64 (ks.length:Int)],.nilIface])) ((w2.setCell ⟨w.heap.size+1+1,0,none⟩ (.slice none 0 0)).setCell ⟨w.heap.size+1+1,1,none⟩ (.int .i64 (ks.length:Int)))):=
    ⟨.slice none 0 0,1,[],by rw [show((ks.length:Int)-(hs.length:Int))=(ks.length:Int) by omega],⟨none,0,rfl,Nat.le_refl _,fun h=>absurd h (by simp)⟩,by decide,by decide,fun z hz=>by(cases hz),by decide,hsh,fun h=>by
     have hk0:ks.length=0:=by omega
     rw [hk0];exact(zak (x:=1) (by decide)).symm,(HB2.out.setCell (p:=⟨w.heap.size+1+1,0,none⟩) (by show w.heap.size≤w.heap.size+1+1;omega) _).setCell (p:=⟨w.heap.size+1+1,1,none⟩) (by show w.heap.size≤w.heap.size+1+1;omega) _,.none h0⟩
   clear h0
   go_wp2
   exact bodyPost_ret (v:=.tuple #[.agg #[.slice none 0 0,.int .i64 (ks.length:Int)],.nilIface]) (by simp [results,Tryz.results39,go_sem,e0,e1]) rfl HP.out
  ·have g1:((hs.length:Int)==0)=false:=beq_eq_false_iff_ne.2 (by omega)
   have g2:¬((hs.length:Int)=0):=by omega
   go_wp2_with fail
   refine(zkU w2 _ (muchM hs ks pk) ks.length (nv+1) (by exact HM2.out) (zb9 hs ks pk) (by omega) (by omega) (by rw [zaO];omega) (HR.out ks.length (by omega) (by omega))).mono ?_
   rintro e w3 ⟨P,M,ys,fa,fs,pa,D,rfl,a1,a2,a3,a4,a8,a5,a6,a7⟩
   have hfa:fa.length=hs.length:=zjH HF.out HG.out HIN.out a1 a2
   have HDD:Hid (hs.length=ks.length→D=absI (det ks.length (ent (muchM hs ks pk)))):=fun h=>by
    have hf:fa.length=ks.length:=by omega
    rw [a6 hf]
    exact(zhP (by rw [zaO];exact h) (zb9 hs ks pk) (zcg a1 hf) a2).symm
   have HYL:=hide a4.len
   have HIQ:Hid (InvQ hs ks pk (overOne ys)):=⟨ys,fa,fs,pa,D,rfl,a1,a2,hfa,a8,a4⟩
   have HYP:Hid (∀ z∈ys,0<z):=fun z hz=>by
    obtain⟨i,hi,e⟩:=List.getElem_of_mem hz
    have:=a4.pos i (by rw [← a4.len];exact hi)
    rw [List.getD_eq_getElem?_getD,List.getElem?_eq_getElem hi,Option.getD_some,e] at this
    exact this
   have HPR:Hid (prodL ys=D):=by
    have h1:=a4.prod
    rw [← a4.len,zka ys ys.length zL,List.take_length] at h1
    exact h1
   have HB3:=hide (HB2.out.trans (a3.below.mono HB2.out.size))
   have HD3:=hide (HD2.out.later a3.below (by have:=HS2.out;omega))
   have HE3:=hide (HE2.out.later a3.below HS2.out)
   have HS3:=hide (zT HS2.out a3.below.size)
   have hyl:ys.length=hs.length:=by rw [a4.len,hfa]
   have HVY:Hid (VecN w3 (.slice (some ⟨P,0,none⟩) hs.length hs.length) ys M):=by
    have:=a3.vec
    rw [hyl] at this
    exact this
   have HA5:=hide a5
   rw [hfa]
   clear a1 a2 a3 a4 a5 a6 a8 HB2 HD2 HE2 HS2 d0 d1 g1 g2 h0
   obtain⟨d0,d1,-,-⟩:=HD3.out
   have HYL2:=hide hyl
   clear hyl hfa
   have hwr:IntKind.i64.wrap ((ks.length:Int)-(hs.length:Int))=(ks.length:Int)-(hs.length:Int):=by rw [IntKind.wrap_i64];omega
   go_wp2_with fail
   refine zbJ (A:=fun j=>decide (j=1∨j=3)) (S:=(fun w'=>w'.cell? ⟨w.heap.size+1,1,none⟩=some (.slice vo ks.length vcap))) (by kernel_rfl) (by exact d1) (fun hHeld=>?_)
   refine zx 0 43 ?_
   try simp only [zA]
   refine zx 2 45 ?_
   try simp only [zA]
   refine zx 5 48 ?_
   try simp only [zA]
   refine zx 6 49 ?_
   try simp only [zA]
   refine zi 3 46 [4,7,8,9,10] ?_
   try simp only [zA]
   refine zx 4 47 ?_
   try simp only [zA]
   refine zx 7 50 ?_
   try simp only [zA]
   refine zM 1 (by kernel_rfl) rfl (fun K hK=>?_)
   go_simp
   refine(zgU w3.drew _ ys M (by exact HVY.out.below (Below.refl w3.heap.size w3).drew zL) (by have:=HYL2.out;omega)).mono ?_
   rintro e w4 ⟨uu,rfl,hu4,hfr4,hb4⟩
   have hb4':Below w3.heap.size w3 w4:=(Below.refl _ _).drew.trans hb4
   have HD4:=hide (HD3.out.later hb4' (by have:=HS3.out;omega))
   have HE4:=hide (HE3.out.later hb4' HS3.out)
   have HB4:=hide (HB3.out.trans (hb4'.mono HB3.out.size))
   have d2:=HD4.out.2.1
   have HPF:=hide ((zj9 ys HYP.out).trans HPR.out)
   have HP:Hid (QuoLPost w hs ks pk (.returned (.tuple #[.agg #[uu,.int .i64 ((ks.length:Int)-(hs.length:Int))],.nilIface])) ((w4.setCell ⟨w.heap.size+1+1,0,none⟩ uu).setCell ⟨w.heap.size+1+1,1,none⟩ (.int .i64 ((ks.length:Int)-(hs.length:Int))))):=
    ⟨uu,M,overOne ys,rfl,hu4.setTwo (fun a l c e=>by have h1:=hfr4 a l c e;have h2:=HS3.out;have h3:w3.heap.size≤a.block:=h1;omega) HE4.out.1 HE4.out.2.1 (fun x e=>by cases e) (fun x e=>by cases e),a7,Nat.le_trans (List.length_filter_le _ _) (by have:=HYL2.out;omega),fun z hz=>HYP.out z (List.mem_filter.1 hz).1,by
     show prodL (overOne ys)<bp M
     unfold overOne
     rw [HPF.out];exact HA5.out,hsh,fun h=>by
     show prodL (overOne ys)=_
     unfold overOne
     rw [HPF.out];exact HDD.out h,(HB4.out.setCell (p:=⟨w.heap.size+1+1,0,none⟩) (by show w.heap.size≤w.heap.size+1+1;omega) _).setCell (p:=⟨w.heap.size+1+1,1,none⟩) (by show w.heap.size≤w.heap.size+1+1;omega) _,HIQ.out⟩
   obtain⟨zo,zcap,rfl,-,-⟩:=hu4
   clear hfr4 hb4 hb4' d0 d1
   go_wp2_with fail
   refine hK.out _ _ (fun _=>d2) ?_
   clear hK K hHeld
   try simp only [zA]
   refine zx 8 51 ?_
   try simp only [zA]
   obtain⟨e0,e1,f0,f1⟩:=HE4.out
   refine zM 9 (by kernel_rfl) rfl (fun K hK=>?_)
   go_simp
   refine hK.out _ _ (fun h=>absurd h (by decide)) ?_
   clear hK K
   try simp only [zA]
   refine zx 10 5 ?_
   try simp only [zA]
   refine zbI (by kernel_rfl) ?_
   have x0:((w4.setCell ⟨w.heap.size+1+1,0,none⟩ (.slice zo (overOne ys).length zcap)).setCell ⟨w.heap.size+1+1,1,none⟩ (.int .i64 ((ks.length:Int)-(hs.length:Int)))).cell? ⟨w.heap.size+1+1,0,none⟩=some (.slice zo (overOne ys).length zcap):=(HE4.out.write _ _).1
   have x1:((w4.setCell ⟨w.heap.size+1+1,0,none⟩ (.slice zo (overOne ys).length zcap)).setCell ⟨w.heap.size+1+1,1,none⟩ (.int .i64 ((ks.length:Int)-(hs.length:Int)))).cell? ⟨w.heap.size+1+1,1,none⟩=some (.int .i64 ((ks.length:Int)-(hs.length:Int))):=(HE4.out.write _ _).2.1
   clear e0 e1 f0 f1 d2
   go_wp2
   exact bodyPost_ret (v:=.tuple #[.agg #[.slice zo (overOne ys).length zcap,.int .i64 ((ks.length:Int)-(hs.length:Int))],.nilIface]) (by simp [results,Tryz.results39,go_sem,x0,x1]) rfl HP.out
 ·exact absurd HIN.out hl
theorem zit (f:Nat→Int):∀ r,(∀ k,k<r→f k=0)∨∃ k,k<r∧f k≠0∧∀ j,j<k→f j=0:=fun r=>by
 induction r with
 | zero=>exact .inl fun k hk=>absurd hk (Nat.not_lt_zero k)
 | succ r ih=>
  rcases ih with h |⟨k,h1,h2,h3⟩
  ·by_cases e:f r=0
   ·exact .inl fun k hk=>by
     by_cases e':k=r
     ·rw [e'];exact e
     ·exact h k (by omega)
   ·exact .inr ⟨r,by omega,e,h⟩
  ·exact .inr ⟨k,by omega,h2,h3⟩
theorem ziX{s:Nat→Nat}(h1:∀ i,i<r→s i<r)(h2:∀ i j,i<j→j<r→s i<s j):∀ i,i<r→s i=i:=by
 have lo:∀ i,i<r→i≤s i:=fun i=>by
  induction i with
  | zero=>exact fun _=>Nat.zero_le _
  | succ i ih=>
   intro hi
   have:=ih (by omega)
   have:=h2 i (i+1) (by omega) hi
   omega
 have up:∀ d i,i+d+1=r→s i+d+1≤r:=fun d=>by
  induction d with
  | zero=>intro i hi;have:=h1 i (by omega);omega
  | succ d ih=>
   intro i hi
   have a:=ih (i+1) (by omega)
   have b:=h2 i (i+1) (by omega) (by omega)
   omega
 intro i hi
 have a:=lo i hi
 have b:=up (r-1-i) i (by omega)
 omega
theorem zj7{hs ks:List (List Int)}(F:FormL n hs ph)(G:FormL n ks pk)(hin:∀ r∈hs,Gens n (InL ks) r)(i:Nat)(hi:i<hs.length):∃ s,s<ks.length∧ph i=pk s∧(∀ j,j<s→ent (muchM hs ks pk) i j=0)∧ent hs i (ph i)=ent (muchM hs ks pk) i s*ent ks s (pk s):=by
 have rows:=fun b (hb:b<n)=>zdE G F.len hin i b hi hb
 have hp:0<ent hs i (ph i):=F.form.pos i hi
 have hlt:=F.form.lt i hi
 rcases zit (fun k=>ent (muchM hs ks pk) i k) ks.length with h |⟨s,h1,h2,h3⟩
 ·exfalso
  have e:=rows (ph i) hlt
  have z:sumN ks.length (fun k=>ent (muchM hs ks pk) i k*ent ks k (ph i))=0:=by
   by_cases h0:0<ks.length
   ·rw [zQ ks.length 0 h0 _ fun j hj _=>by rw [h j hj,Int.zero_mul],h 0 h0,Int.zero_mul]
   ·rw [show ks.length=0 by omega];rfl
  rw [z] at e
  omega
 ·have at_:∀ b,b<n→(∀ k,s<k→k<ks.length→ent ks k b=0)→ent hs i b=ent (muchM hs ks pk) i s*ent ks s b:=fun b hb hz=>by
   rw [rows b hb,zQ ks.length s h1 _ fun j hj hne=>?_]
   by_cases hjs:j<s
   ·rw [h3 j hjs,Int.zero_mul]
   ·rw [hz j (by omega) hj,Int.mul_zero]
  have hks:0<ent ks s (pk s):=G.form.pos s h1
  have hpks:=G.form.lt s h1
  have e1:=at_ (pk s) hpks fun k h4 h5=>G.form.zero k (pk s) h5 (G.form.inc s k h4 h5)
  have eq:ph i=pk s:=by
   rcases Nat.lt_trichotomy (ph i) (pk s) with h | h | h
   ·exfalso
    have e2:=at_ (ph i) hlt fun k h4 h5=>G.form.zero k (ph i) h5 (by have:=G.form.inc s k h4 h5;omega)
    have e3:ent ks s (ph i)=0:=G.form.zero s (ph i) h1 h
    rw [e3,Int.mul_zero] at e2
    omega
   ·exact h
   ·exfalso
    have e2:ent hs i (pk s)=0:=F.form.zero i (pk s) hi h
    rw [e2] at e1
    rcases Int.mul_eq_zero.1 e1.symm with h6 | h6
    ·exact h2 h6
    ·omega
  exact⟨s,h1,eq,h3,by rw [eq];exact e1⟩
theorem zfZ{hs ks:List (List Int)}(F:FormL n hs ph)(G:FormL n ks pk)(hin:∀ r∈hs,Gens n (InL ks) r)(hl:hs.length=ks.length):∀ i,i<hs.length→ph i=pk i∧(∀ j,j<i→ent (muchM hs ks pk) i j=0)∧ent hs i (ph i)=ent (muchM hs ks pk) i i*ent ks i (pk i):=by
 have ch:∀ i,∃ s,i<hs.length→s<hs.length∧ph i=pk s∧(∀ j,j<s→ent (muchM hs ks pk) i j=0)∧ent hs i (ph i)=ent (muchM hs ks pk) i s*ent ks s (pk s):=fun i=>by
  by_cases hi:i<hs.length
  ·obtain⟨s,h1,h2⟩:=zj7 F G hin i hi
   exact⟨s,fun _=>⟨by omega,h2⟩⟩
  ·exact⟨0,fun h=>absurd h hi⟩
 obtain⟨s,hs'⟩:=Classical.axiomOfChoice ch
 have id_:=ziX (r:=hs.length) (s:=s) (fun i hi=>(hs' i hi).1) fun i j hij hj=>by
  have h1:=(hs' i (by omega)).2.1
  have h2:=(hs' j hj).2.1
  have h3:=F.form.inc i j hij hj
  by_cases h:s i<s j
  ·exact h
  ·exfalso
   have h5:=(hs' i (by omega)).1
   by_cases e:s i=s j
   ·rw [h1,h2,e] at h3;omega
   ·have:=G.form.inc (s j) (s i) (by omega) (by omega)
    omega
 intro i hi
 have h:=(hs' i hi).2
 rw [id_ i hi] at h
 exact h
theorem zi5{hs ks:List (List Int)}(F:FormL n hs ph)(G:FormL n ks pk)(hin:∀ r∈hs,Gens n (InL ks) r)(hl:hs.length=ks.length):absI (det ks.length (ent (muchM hs ks pk)))=prodN hs.length (fun i=>ent hs i (ph i)/ent ks i (ph i)):=by
 have P:=zfZ F G hin hl
 have e:det ks.length (ent (muchM hs ks pk))=prodN hs.length (fun i=>ent hs i (ph i)/ent ks i (ph i)):=by
  rw [← hl,zaY hs.length _ fun a b ha hb=>(P a ha).2.1 b hb]
  refine zbe fun i hi=>?_
  obtain⟨h1,-,h3⟩:=P i hi
  have hk:0<ent ks i (pk i):=G.form.pos i (by omega)
  rw [h3,h1,Int.mul_ediv_cancel _ (by omega)]
 have hp:0<prodN hs.length (fun i=>ent hs i (ph i)/ent ks i (ph i)):=zad _ _ fun i hi=>by
  obtain⟨h1,-,h3⟩:=P i hi
  have hk:0<ent ks i (pk i):=G.form.pos i (by omega)
  have hh:0<ent hs i (ph i):=F.form.pos i hi
  show 0<ent hs i (ph i)/ent ks i (ph i)
  rw [h3,h1,Int.mul_ediv_cancel _ (by omega)]
  rw [h3] at hh
  by_cases h0:0<ent (muchM hs ks pk) i i
  ·exact h0
  ·exfalso
   have:=Int.mul_le_mul_of_nonneg_right (show ent (muchM hs ks pk) i i≤0 by omega) (show 0≤ent ks i (pk i) by omega)
   rw [Int.zero_mul] at this
   omega
 rw [e]
 unfold absI
 rw [if_neg (by omega)]
def ix (k p a:Nat):Nat:=if a<k then a else p
def ix2 (k p q a:Nat):Nat:=if a<k then a else if a=k then p else q
def bord (k:Nat)(M:Nat→Nat→Int)(p r:Nat):Int:=det (k+1) (fun a b=>M (ix k p a) (ix k r b))
def bord2 (k:Nat)(M:Nat→Nat→Int)(p q r s:Nat):Int:=det (k+2) (fun a b=>M (ix2 k p q a) (ix2 k r s b))
section
variable {n k:Nat}{M R P:Nat→Nat→Int}{B t last:Int}
def sw (i k a:Nat):Nat:=if a=i then k else if a=k then i else a
theorem zdZ (M:Nat→Nat→Int)(i k a b:Nat):swapRows M i k a b=M (sw i k a) b:=by
 unfold swapRows sw
 split
 ·rfl
 ·split <;> rfl
end
theorem zkc{s t u v y d:Int}(h:s*t=u*v):s*x *(t*y*d)=u*y *(v*x*d):=by
 have e1:s*x *(t*y*d)=(s*t) *(x*y*d):=by ac_rfl
 have e2:u*y *(v*x*d)=(u*v) *(x*y*d):=by ac_rfl
 rw [e1,e2,h]
theorem zeG (m:Nat)(M:Nat→Nat→Int)(h0:∀ X,det m (trM X)=det m X)(h1:∀ X,det (m+1) (trM X)=det (m+1) X):
  det (m+2) M=sumN (m+1) (fun j=>sumN (m+1) (fun i=>sgnN (m+1+j)*M (m+1) j *(sgnN (m+i)*M i (m+1)*det m (fun a b=>M (sk i a) (sk j b)))))+M (m+1) (m+1)*det (m+1) M:=by
 rw [det,sumN]
 have e1:sgnN (m+1+(m+1))*M (m+1) (m+1)*det (m+1) (fun a b=>M a (sk (m+1) b))=M (m+1) (m+1)*det (m+1) M:=by
  rw [show sgnN (m+1+(m+1))=1 by unfold sgnN;rw [if_pos (by omega)],Int.one_mul]
  congr 1
  exact zn fun a b _ hb=>by rw [zaG hb]
 rw [e1]
 congr 1
 refine zm fun j hj=>?_
 rw [zaj]
 congr 1
 rw [← h1,det]
 refine zm fun i hi=>?_
 have e2:trM (fun a b=>M a (sk j b)) m i=M i (m+1):=by
  show M i (sk j m)=_
  rw [zcf (by omega)]
 rw [e2]
 congr 1
 exact h0 (fun a b=>M (sk i a) (sk j b))
theorem zeK:∀(n:Nat) (M:Nat→Nat→Int),det n (trM M)=det n M:=by
 have key:∀ n,(∀ M,det n (trM M)=det n M)∧∀ M,det (n+1) (trM M)=det (n+1) M:=fun n=>by
  induction n with
  | zero=>exact⟨fun _=>rfl,fun _=>rfl⟩
  | succ m ih=>
   refine⟨ih.2,fun M=>?_⟩
   rw [zeG m (trM M) ih.1 ih.2,zeG m M ih.1 ih.2,zcQ,ih.2 M]
   congr 1
   refine zm fun j hj=>zm fun i hi=>?_
   have e:det m (fun a b=>trM M (sk j a) (sk i b))=det m (fun a b=>M (sk i a) (sk j b)):=ih.1 (fun a b=>M (sk i a) (sk j b))
   rw [e]
   exact zkc (by rw [zdT,zdT];congr 1;omega)
 exact fun n=>(key n).1
def Dv (k m n:Nat)(A:Nat→Nat→Int)(g:Int):Prop:=∀ f c:Nat→Nat,(∀ i,i<k→f i<m)→(∀ i,i<k→c i<n)→g∣det k (fun a b=>A (f a) (c b))
theorem zdm(n:Nat)(f:Nat→Int)(h:∀ i,i<n→g∣f i):g∣sumN n f:=by
 induction n with
 | zero=>exact Int.dvd_zero g
 | succ n ih=>exact Int.dvd_add (ih fun i hi=>h i (by omega)) (h n (by omega))
section
variable {k m m' n n':Nat}{A B T V:Nat→Nat→Int}{g:Int}
theorem Dv.congr (h:Dv k m n A g)(e:∀ i j,i<m→j<n→B i j=A i j):Dv k m n B g:=fun f c hf hc=>by
 rw [zn fun a b ha hb=>e (f a) (c b) (hf a ha) (hc b hb)]
 exact h f c hf hc
theorem Dv.tr (h:Dv k m n A g):Dv k n m (trM A) g:=fun f c hf hc=>by
 have e:det k (fun a b=>trM A (f a) (c b))=det k (fun a b=>A (c a) (f b)):=zeK k (fun a b=>A (c a) (f b))
 rw [e]
 exact h c f hc hf
theorem Dv.left (h:Dv k m n A g)(e:∀ a b,a<m'→b<n→B a b=sumN m (fun l=>T a l*A l b)):Dv k m' n B g:=fun f c hf hc=>by
 have key:∀ q,q≤k→∀ φ:Nat→Nat,(∀ i,q≤i→i<k→φ i<m)→g∣det k (fun a b=>if a<q then sumN m (fun l=>T (f a) l*A l (c b)) else A (φ a) (c b)):=fun q=>by
  induction q with
  | zero=>
   intro _ φ hφ
   rw [zn (M':=fun a b=>A (φ a) (c b)) fun a b _ _=>if_neg (Nat.not_lt_zero a)]
   exact h φ c (fun i hi=>hφ i (Nat.zero_le i) hi) hc
  | succ q ih=>
   intro hq φ hφ
   have e1:det k (fun a b=>if a<q+1 then sumN m (fun l=>T (f a) l*A l (c b)) else A (φ a) (c b))=det k (setRow (fun a b=>if a<q then sumN m (fun l=>T (f a) l*A l (c b)) else A (φ a) (c b)) q (fun b=>sumN m (fun l=>T (f q) l*A l (c b)))):=zn fun a b _ _=>by
    by_cases ha:a=q
    ·subst ha
     rw [zac,if_pos (by omega)]
    ·rw [zaq _ _ _ ha]
     by_cases hl:a<q
     ·rw [if_pos (by omega),if_pos hl]
     ·rw [if_neg (by omega),if_neg hl]
   rw [e1,zcs k _ q (by omega) m (fun l=>T (f q) l) (fun l b=>A l (c b))]
   refine zdm m _ fun l hl=>?_
   have e2:det k (setRow (fun a b=>if a<q then sumN m (fun l=>T (f a) l*A l (c b)) else A (φ a) (c b)) q (fun b=>A l (c b)))=det k (fun a b=>if a<q then sumN m (fun l=>T (f a) l*A l (c b)) else A (if a=q then l else φ a) (c b)):=zn fun a b _ _=>by
    by_cases ha:a=q
    ·subst ha
     rw [zac,if_neg (by omega),if_pos rfl]
    ·rw [zaq _ _ _ ha,if_neg ha]
   obtain⟨x,hx⟩:=ih (by omega) (fun a=>if a=q then l else φ a) fun i h1 h2=>by
    show(if i=q then l else φ i)<m
    by_cases hi:i=q
    ·rw [if_pos hi];exact hl
    ·rw [if_neg hi];exact hφ i (by omega) h2
   exact⟨T (f q) l*x,by rw [e2,hx];ac_rfl⟩
 have h1:=key k (Nat.le_refl k) (fun _=>0) fun i h1 h2=>absurd h1 (by omega)
 rw [zn (M':=fun a b=>B (f a) (c b)) fun a b ha hb=>by rw [if_pos ha,e (f a) (c b) (hf a ha) (hc b hb)]] at h1
 exact h1
theorem Dv.right (h:Dv k m n A g)(e:∀ a b,a<m→b<n'→B a b=sumN n (fun l=>A a l*V l b)):Dv k m n' B g:=
 (h.tr.left (B:=trM B) (T:=trM V) (m':=n') fun a b ha hb=>by
  show B b a=_
  rw [e b a hb ha]
  exact zm fun l _=>Int.mul_comm _ _).tr
theorem Dv.equ(h:Dv k r r A g)(q:Equ r A B):Dv k r r B g:=by
 obtain⟨U,U',V,V',-,-,e⟩:=q
 exact(h.left (B:=mulM r U A) (T:=U) fun a b _ _=>rfl).right (V:=V) fun a b ha hb=>e a b ha hb
theorem zdj (r n:Nat)(A:Nat→Nat→Int):Dv (r+1) r n A 0:=fun f c hf _=>by
 obtain⟨i,l,h1,h2,h3⟩:=pigeon r f fun i hi=>hf i (by omega)
 rw [zaL (r+1) _ i l h1 (by omega) fun b=>by rw [h3]]
 exact Int.dvd_refl 0
theorem zeH (k:Nat)(z:Nat→Int):det k (dgM z)=prodN k z:=by
 rw [zaY k _ fun a b _ hb=>by unfold dgM;rw [if_neg (by omega)]]
 exact zbe fun i _=>by unfold dgM;rw [if_pos rfl]
theorem zia{z:Nat→Int}(hc:∀ i j,i<j→j<r→∃ p,z j=p*z i):∀ k,k≤r→Dv k r r (dgM z) (prodN k z):=fun k=>by
 induction k with
 | zero=>intro _ f c _ _;exact⟨1,rfl⟩
 | succ k ih=>
  intro hk f c hf hcc
  by_cases hex:∃ a,a≤k∧k≤f a
  ·obtain⟨a,ha,hfa⟩:=hex
   have main:∀ f':Nat→Nat,(∀ i,i<k+1→f' i<r)→k≤f' k→prodN (k+1) z∣det (k+1) (fun a b=>dgM z (f' a) (c b)):=fun f' hf' hk'=>by
    rw [det]
    refine zdm (k+1) _ fun j hj=>?_
    obtain⟨x,hx⟩:=ih (by omega) f' (fun b=>c (sk j b)) (fun i hi=>hf' i (by omega)) fun i hi=>hcc _ (by unfold sk;split <;> omega)
    obtain⟨y,hy⟩:∃ y,dgM z (f' k) (c j)=z k*y:=by
     unfold dgM
     split
     ·by_cases e:k=f' k
      ·exact⟨1,by rw [← e,Int.mul_one]⟩
      ·obtain⟨p,hp⟩:=hc k (f' k) (by omega) (hf' k (by omega))
       exact⟨p,by rw [hp,Int.mul_comm]⟩
     ·exact⟨0,by rw [Int.mul_zero]⟩
    rw [hx,hy]
    exact⟨sgnN (k+j)*y*x,by show _=prodN k z*z k*_;ac_rfl⟩
   by_cases e:a=k
   ·subst e
    exact main f hf hfa
   ·have h1:=main (fun i=>f (sw a k i)) (fun i hi=>hf _ (by unfold sw;split <;>(try split) <;> omega)) (by show k≤f (sw a k k);unfold sw;rw [if_neg (Ne.symm e),if_pos rfl];exact hfa)
    have h2:det (k+1) (fun i b=>dgM z (f (sw a k i)) (c b))=- det (k+1) (fun i b=>dgM z (f i) (c b)):=by
     rw [← zbN (k+1) _ a k (by omega) (by omega)]
     exact zn fun i b _ _=>by rw [zdZ]
    rw [h2] at h1
    exact Int.dvd_neg.1 h1
  ·obtain⟨i,l,h1,h2,h3⟩:=pigeon k f fun i hi=>by
    rcases Nat.lt_or_ge (f i) k with h | h
    ·exact h
    ·exact absurd ⟨i,hi,h⟩ hex
   rw [zaL (k+1) _ i l h1 (by omega) fun b=>by rw [h3]]
   exact Int.dvd_zero _
end
theorem zkd{y z:Nat→Int}(py:∀ i,i<r→0<y i)(h:∀ k,k≤r→prodN k y=prodN k z):∀ i,i<r→y i=z i:=fun i hi=>by
 have h1:=h i (by omega);have h2:=h (i+1) (by omega)
 rw [prodN,prodN,← h1] at h2
 have h3:=zad i y fun j hj=>py j (by omega)
 exact Int.eq_of_mul_eq_mul_left (by omega) h2
theorem zcv{F G:List (List Int)}(hF:∀ u∈F,u.length=n)(a:Alikes n (InL F) (InL G))(h:Dv k G.length n (ent G) g):Dv k F.length n (ent F) g:=by
 obtain⟨C,hC⟩:=zX (r:=F.length) (n:=n) (mm:=G.length) (H:=ent F) (M:=ent G) fun i hi=>by
  have hm:F.getD i []∈F:=zr hi
  exact zE ((a _).1 (.base hm (hF _ hm)))
 exact h.left (T:=C) fun x y hx hy=>hC x y hx hy
theorem zeV {ms:List (List Int)}{j b:Nat}(hj:j<n)(hb:b<ms.length):ent (colsL ms n) j b=ent ms b j:=by
 unfold ent
 rw [zaV ms n j hj,zby ms (fun r=>r.getD j 0) b hb]
theorem zeQ{ms:List (List Int)}:Dv k ms.length n (ent ms) g↔Dv k n ms.length (ent (colsL ms n)) g:=
 ⟨fun h=>h.tr.congr fun _ _ hi hj=>zeV hi hj,fun h=>h.tr.congr fun _ _ hi hj=>(zeV hj hi).symm⟩
theorem zkV{ms hs fs:List (List Int)}{p:Nat→Nat}{ys:List Int}{D:Int}(F:FormL n hs p)(a:Alikes n (InL hs) (InL ms))(hm:∀ u∈ms,u.length=n)(T:TurnF n hs fs)(C:ChI hs.length ys D (ent fs) hs.length (hs.length+1))(k:Nat)(g:Int):
  Dv k ms.length n (ent ms) g↔Dv k ys.length ys.length (dgM fun i=>ys.getD i 0) g:=by
 rw [C.len]
 constructor
 ·intro h
  have h1:=zeQ.1 (zcv F.len a h)
  have h2:Dv k (colsL hs n).length hs.length (ent (colsL hs n)) g:=by rw [zZ];exact h1
  have h3:=zcv T.lens T.alike h2
  rw [T.len] at h3
  exact h3.equ C.rel
 ·intro h
  have h1:=h.equ C.rel.symm
  have h2:Dv k fs.length hs.length (ent fs) g:=by rw [T.len];exact h1
  have h3:=zcv (zaW hs n) T.alike.symm h2
  rw [zZ] at h3
  exact zcv hm a.symm (zeQ.2 h3)
end Go.Proofs.YtdedolkgcdlmeaaGreatDoor
