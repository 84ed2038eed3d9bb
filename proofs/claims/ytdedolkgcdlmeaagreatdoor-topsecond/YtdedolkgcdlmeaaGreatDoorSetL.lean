import Derived.Test.YtdedolkgcdlmeaaGreatDoorLatL
import Derived.Test.YtdedolkgcdlmeaaGreatDoorVecT
import Derived.Test.YtdedolkgcdlmeaaGreatDoorDigs
import Derived.Test.YtdedolkgcdlmeaaGreatDoorText
import Derived.Test.YtdedolkgcdlmeaaGreatDoorFormB
namespace Go.Proofs.YtdedolkgcdlmeaaGreatDoor
open Go.RowKit Limbs Digs
theorem zcP:txt 2=[50]:=by
 unfold txt Lib.itoa
 rw [if_neg (by decide),show(2:Int).toNat=2 from rfl,Lib.decDigits,dif_pos (by decide)]
 rfl
theorem zcQ:txt 4=[52]:=by
 unfold txt Lib.itoa
 rw [if_neg (by decide),show(4:Int).toNat=4 from rfl,Lib.decDigits,dif_pos (by decide)]
 rfl
theorem text24:vtxt [2,4]=[40,50,32,52,41]:=by
 unfold vtxt
 rw [List.map_cons,List.map_cons,List.map_nil,zcP,zcQ]
 rfl
theorem zkt {hs:List (List Int)}{p:Nat→Nat}(h:FormL 2 hs p)(ha:Alikes 2 (InL hs) (InL ([] ++ [[2,4]]))):hs=[[2,4]]:=by
 refine zfb h (p':=fun _=>0) ⟨fun r hr=>?_,⟨fun i k hik hk=>?_,fun i _=>by decide,fun i b hi hb=>by omega,fun i hi=>?_,fun i k hik hk=>?_⟩⟩ ha
 ·rw [List.mem_singleton] at hr;rw [hr];rfl
 ·simp only [List.length_singleton] at hk;omega
 ·simp only [List.length_singleton] at hi
  obtain rfl:i=0:=by omega
  decide
 ·simp only [List.length_singleton] at hk;omega
set_option linter.unusedSimpArgs false in
set_option maxRecDepth 100000 in
set_option maxHeartbeats 4000000 in
theorem zks (w:World)(ht:Tab w):Calls Tryz.prog 45 #[] w fun e w'=>e=.returned (.bool true)∧Below w.heap.size w w':=by
 have HT:=hide ht
 clear ht
 go_enter Tryz.func45,Tryz.ntmps45
 go_wp2_with fail
 refine(zfP w 2 6 (by decide) (by decide)).mono ?_
 rintro e w1 ⟨rfl,-,hb1⟩
 have HBX:=hide (zj w1 (.int .i64 2) (.slice none 0 0) 55 _ rfl)
 have HBE:=hide (hb1.trans (((Below.refl w1.heap.size w1).alloc zL (.cells #[.int .i64 2,.slice none 0 0] 55)).mono hb1.size))
 have HLE:=hide hb1.size
 have HL1:Hid (w1.heap.size < (w1.alloc (.cells #[.int .i64 2,.slice none 0 0] 55)).heap.size):=by show _ < _;simp
 obtain⟨c0,c1,z0,z1⟩:=HBX.out
 clear hb1
 go_wp2_with fail
 generalize w1.alloc (.cells #[.int .i64 2,.slice none 0 0] 55)=W1 at *
 have HBL:=hide ((Below.refl W1.heap.size W1).alloc zL (.cells #[.int .i64 2,.int .i64 4] 3))
 have d0:=(HBL.out.cell (p:=⟨w1.heap.size,0,none⟩) HL1.out).trans c0
 have d1:=(HBL.out.cell (p:=⟨w1.heap.size,1,none⟩) HL1.out).trans c1
 have HRS:Hid (RowS (W1.alloc (.cells #[.int .i64 2,.int .i64 4] 3)) (.slice (some ⟨W1.heap.size,0,none⟩) 2 2) [2,4]):=by
  refine⟨_,_,rfl,Nat.le_refl _,fun i=>?_,fun _=>⟨_,_,rfl,by simp,fun i hi=>?_⟩⟩
  ·match i with
   | 0=>decide
   | 1=>decide
   | i+2=>simp
  ·match i,hi with
   | 0,_=>rw [World.cell?_alloc_new];rfl
   | 1,_=>rw [World.cell?_alloc_new];rfl
 refine zt (S:=(fun w'=>w'.cell? ⟨w1.heap.size,0,none⟩=some (.int .i64 2)∧w'.cell? ⟨w1.heap.size,1,none⟩=some (.slice none 0 0))) (k:=5) (by kernel_rfl) (by(try dsimp only);go_keep) (fun hHeld=>?_)
 refine ze 0 15 [3,4,5,6,7,8] ?_
 try simp only [zA]
 refine zf 1 (by kernel_rfl) rfl (fun K hK=>?_)
 go_simp
 refine hK.out _ _ (fun _=>by exact⟨d0,d1⟩) ?_
 clear hK K
 try simp only [zA]
 refine zf 2 (by kernel_rfl) rfl (fun K hK=>?_)
 go_simp
 (refine(zfV _ _ [2,4] (by exact HRS.out.below (Below.refl _ _).drew zL) (by decide)).mono ?_;rintro e w3 ⟨P,rfl,ho⟩;have HB3:=hide (show Below W1.heap.size W1 w3 from HBL.out.drew.trans (ho.below.mono (by simp)));have HV3:=hide ho.vec;have e0:=(HB3.out.cell (p:=⟨w1.heap.size,0,none⟩) HL1.out).trans c0;have e1:=(HB3.out.cell (p:=⟨w1.heap.size,1,none⟩) HL1.out).trans c1;clear ho)
 go_wp2_with fail
 refine hK.out _ _ (fun _=>by exact⟨e0,e1⟩) ?_
 clear hK K
 try simp only [zA]
 refine zf 3 (by kernel_rfl) rfl (fun K hK=>?_)
 go_simp
 (refine(zfq _ _ _ 2 2 [] [2,4] (by exact⟨⟨_,rfl,zdG _ _⟩,_,zdr _⟩) (by exact HV3.out) rfl (by decide) (by decide) (by decide)).mono ?_;rintro e w4 ⟨v4,hs,rfl,⟨⟨u4,rfl,hu4⟩,p4,hF4⟩,hb4,hA4,hfr4⟩;obtain rfl:=zkt hF4 hA4;have HU4:=hide hu4;have HFR:=hide (hfr4 _ rfl);have HB4:=hide (HB3.out.trans (hb4.mono HB3.out.size));obtain⟨f0,f1,x0,x1⟩:=HBX.out.later HB4.out HL1.out;have HL3:=hide (zT HL1.out HB3.out.size);obtain⟨o4,k4,rfl,-,-⟩:=hu4;clear hb4 hF4 hA4 hfr4)
 go_wp2_with fail
 refine hK.out _ _ (fun _=>by exact⟨f0,f1⟩) ?_
 clear hK K
 try simp only [zA]
 refine zf 4 (by kernel_rfl) rfl (fun K hK=>?_)
 go_simp
 refine hK.out _ _ (fun _=>by exact⟨f0,f1⟩) ?_
 clear hK K
 try simp only [zA]
 refine zcS 5 6 (by kernel_rfl) rfl rfl (fun K hK=>?_) (fun K hK=>?_)
 ·go_simp
  refine hK.out _ _ (fun h=>absurd h (by decide)) ?_
  clear hK K
  try simp only [zA]
  refine zcS 6 7 (by kernel_rfl) rfl rfl (fun K hK=>?_) (fun K hK=>?_)
  ·go_simp
   refine hK.out _ _ (fun h=>absurd h (by decide)) ?_
   clear hK K
   try simp only [zA]
   refine zf 7 (by kernel_rfl) rfl (fun K hK=>?_)
   go_simp
   refine hK.out _ _ (fun h=>absurd h (by decide)) ?_
   clear hK K
   try simp only [zA]
   refine zf 8 (by kernel_rfl) rfl (fun K hK=>?_)
   go_simp
   refine hK.out _ _ (fun h=>absurd h (by decide)) ?_
   clear hK K
   try simp only [zA]
   refine zq (by kernel_rfl) ?_
   have HM:=hide (HU4.out.setVar (.int .i64 2) (.slice o4 1 k4) (fun _=>HFR.out.sep HL3.out) f0 f1)
   obtain⟨g0,g1,-,-⟩:=(HBX.out.later HB4.out HL1.out).write (.int .i64 2) (.slice o4 1 k4)
   have HB5:=hide ((HBE.out.trans (HB4.out.mono HBE.out.size)).setCell (p:=⟨w1.heap.size,0,none⟩) (by exact HLE.out) (.int .i64 2) |>.setCell (p:=⟨w1.heap.size,1,none⟩) (by exact HLE.out) (.slice o4 1 k4))
   clear HU4 HFR HBX HB4 HB3 f0 f1 x0 x1 e0 e1 c0 c1 z0 z1 hHeld
   try rw [show([[2,4]]:List (List Int)).length=1 from rfl]
   generalize ((w4.setCell ⟨w1.heap.size,0,none⟩ (.int .i64 2)).setCell ⟨w1.heap.size,1,none⟩ (.slice o4 1 k4))=W5 at *
   obtain⟨ob,ooff,ocap,e,olt,uv,cv,hv⟩:=HM.out.at 0 (by decide)
   simp only [Value.slice.injEq,true_and] at e
   obtain⟨rfl,rfl⟩:=e
   rw [Nat.add_zero] at cv
   have HTX:Hid (Calls Tryz.prog 50 #[uv] W5 fun e w'=>e=.returned (.string ⟨#[40,50,32,52,41]⟩)∧Below W5.heap.size W5 w'):=by
    have:=zeb W5 uv [2,4] _ (HT.out.below HB5.out) hv (by decide) (by decide) (by decide) (by
     rw [List.map_cons,List.map_cons,List.map_nil,zcP,zcQ]
     decide)
    rw [text24] at this
    exact this
   obtain⟨vo,vcap,rfl,-,-⟩:=hv
   go_wp2_with fail
   refine HTX.out.mono ?_
   rintro e w6 ⟨rfl,hb6⟩
   have HB6:=hide (HB5.out.trans (hb6.mono HB5.out.size))
   clear hb6 HTX HB5 HM cv g0 g1
   go_wp2
   go_ret
   exact⟨rfl,HB6.out⟩
  ·go_simp
   refine hK.out _ _ (fun h=>absurd h (by decide)) ?_
   clear hK K
   try simp only [zA]
   refine zf 6 (by kernel_rfl) rfl (fun K hK=>?_)
   go_simp
   refine hK.out _ _ (fun h=>absurd h (by decide)) ?_
   clear hK K
   try simp only [zA]
   refine zf 8 (by kernel_rfl) rfl (fun K hK=>?_)
   go_simp
   refine hK.out _ _ (fun h=>absurd h (by decide)) ?_
   clear hK K
   try simp only [zA]
   refine zq (by kernel_rfl) ?_
   have HM:=hide (HU4.out.setVar (.int .i64 2) (.slice o4 1 k4) (fun _=>HFR.out.sep HL3.out) f0 f1)
   obtain⟨g0,g1,-,-⟩:=(HBX.out.later HB4.out HL1.out).write (.int .i64 2) (.slice o4 1 k4)
   have HB5:=hide ((HBE.out.trans (HB4.out.mono HBE.out.size)).setCell (p:=⟨w1.heap.size,0,none⟩) (by exact HLE.out) (.int .i64 2) |>.setCell (p:=⟨w1.heap.size,1,none⟩) (by exact HLE.out) (.slice o4 1 k4))
   clear HU4 HFR HBX HB4 HB3 f0 f1 x0 x1 e0 e1 c0 c1 z0 z1 hHeld
   try rw [show([[2,4]]:List (List Int)).length=1 from rfl]
   generalize ((w4.setCell ⟨w1.heap.size,0,none⟩ (.int .i64 2)).setCell ⟨w1.heap.size,1,none⟩ (.slice o4 1 k4))=W5 at *
   obtain⟨ob,ooff,ocap,e,olt,uv,cv,hv⟩:=HM.out.at 0 (by decide)
   simp only [Value.slice.injEq,true_and] at e
   obtain⟨rfl,rfl⟩:=e
   rw [Nat.add_zero] at cv
   have HTX:Hid (Calls Tryz.prog 50 #[uv] W5 fun e w'=>e=.returned (.string ⟨#[40,50,32,52,41]⟩)∧Below W5.heap.size W5 w'):=by
    have:=zeb W5 uv [2,4] _ (HT.out.below HB5.out) hv (by decide) (by decide) (by decide) (by
     rw [List.map_cons,List.map_cons,List.map_nil,zcP,zcQ]
     decide)
    rw [text24] at this
    exact this
   obtain⟨vo,vcap,rfl,-,-⟩:=hv
   go_wp2_with fail
   refine HTX.out.mono ?_
   rintro e w6 ⟨rfl,hb6⟩
   have HB6:=hide (HB5.out.trans (hb6.mono HB5.out.size))
   clear hb6 HTX HB5 HM cv g0 g1
   go_wp2
   go_ret
   exact⟨rfl,HB6.out⟩
 ·go_simp
  refine hK.out _ _ (fun h=>absurd h (by decide)) ?_
  clear hK K
  try simp only [zA]
  refine zf 5 (by kernel_rfl) rfl (fun K hK=>?_)
  go_simp
  refine hK.out _ _ (fun h=>absurd h (by decide)) ?_
  clear hK K
  try simp only [zA]
  refine zf 7 (by kernel_rfl) rfl (fun K hK=>?_)
  go_simp
  refine hK.out _ _ (fun h=>absurd h (by decide)) ?_
  clear hK K
  try simp only [zA]
  refine zf 8 (by kernel_rfl) rfl (fun K hK=>?_)
  go_simp
  refine hK.out _ _ (fun h=>absurd h (by decide)) ?_
  clear hK K
  try simp only [zA]
  refine zq (by kernel_rfl) ?_
  have HM:=hide (HU4.out.setVar (.int .i64 2) (.slice o4 1 k4) (fun _=>HFR.out.sep HL3.out) f0 f1)
  obtain⟨g0,g1,-,-⟩:=(HBX.out.later HB4.out HL1.out).write (.int .i64 2) (.slice o4 1 k4)
  have HB5:=hide ((HBE.out.trans (HB4.out.mono HBE.out.size)).setCell (p:=⟨w1.heap.size,0,none⟩) (by exact HLE.out) (.int .i64 2) |>.setCell (p:=⟨w1.heap.size,1,none⟩) (by exact HLE.out) (.slice o4 1 k4))
  clear HU4 HFR HBX HB4 HB3 f0 f1 x0 x1 e0 e1 c0 c1 z0 z1 hHeld
  try rw [show([[2,4]]:List (List Int)).length=1 from rfl]
  generalize ((w4.setCell ⟨w1.heap.size,0,none⟩ (.int .i64 2)).setCell ⟨w1.heap.size,1,none⟩ (.slice o4 1 k4))=W5 at *
  obtain⟨ob,ooff,ocap,e,olt,uv,cv,hv⟩:=HM.out.at 0 (by decide)
  simp only [Value.slice.injEq,true_and] at e
  obtain⟨rfl,rfl⟩:=e
  rw [Nat.add_zero] at cv
  have HTX:Hid (Calls Tryz.prog 50 #[uv] W5 fun e w'=>e=.returned (.string ⟨#[40,50,32,52,41]⟩)∧Below W5.heap.size W5 w'):=by
   have:=zeb W5 uv [2,4] _ (HT.out.below HB5.out) hv (by decide) (by decide) (by decide) (by
    rw [List.map_cons,List.map_cons,List.map_nil,zcP,zcQ]
    decide)
   rw [text24] at this
   exact this
  obtain⟨vo,vcap,rfl,-,-⟩:=hv
  go_wp2_with fail
  refine HTX.out.mono ?_
  rintro e w6 ⟨rfl,hb6⟩
  have HB6:=hide (HB5.out.trans (hb6.mono HB5.out.size))
  clear hb6 HTX HB5 HM cv g0 g1
  go_wp2
  go_ret
  exact⟨rfl,HB6.out⟩
structure LatG (W:World)(v:Value)(n:Nat)(hs:List (List Int))(nv:Nat):Prop where
 lat:LatN W v n hs nv
theorem LatG.later {W W':World}{v:Value}{n:Nat}{hs:List (List Int)}{nv:Nat}(h:LatG W v n hs nv)(hb:Below W.heap.size W W'):LatG W' v n hs nv:=⟨h.lat.below hb⟩
theorem MadeGot.later {W W':World}{nI:Int}{rs:List (List Int)}{i:Int}{o:Option Addr}{l c:Nat}{ok:Bool}(h:MadeGot W nI rs i o l c ok)(hb:Below W.heap.size W W'):MadeGot W' nI rs i o l c ok:=h.keep fun _ _ _ _ _ h=>h.below hb
theorem ziY {nI:Int}{rs:List (List Int)}(h:goodG nI rs=true):(1≤nI∧nI≤4∧rs.length≤8)∧∀ r∈rs,goodRow nI r=true:=by
 unfold goodG at h
 rw [Bool.and_eq_true,decide_eq_true_eq,List.all_eq_true] at h
 exact h
structure VecG (W:World)(v:Value)(zs:List Int)(n:Nat):Prop where
 vec:VecN W v zs n
theorem VecG.later {W W':World}{v:Value}{zs:List Int}{n:Nat}(h:VecG W v zs n)(hb:Below W.heap.size W W'):VecG W' v zs n:=⟨h.vec.below hb zL⟩
end Go.Proofs.YtdedolkgcdlmeaaGreatDoor
namespace Go.Proofs.YtdedolkgcdlmeaaGreatDoor
open Go.RowKit Limbs
theorem MatN.mono {w:World}{v:Value}{zss:List (List Int)}{n m:Nat}(h:MatN w v zss n)(hm:n≤m):MatN w v zss m:=by
 obtain⟨ao,cap,hv,h1,h2⟩:=h
 refine⟨ao,cap,hv,h1,fun h0=>?_⟩
 obtain⟨b,off,e,hlt,hc⟩:=h2 h0
 refine⟨b,off,e,hlt,fun i zs hi=>?_⟩
 obtain⟨u,cu,hu⟩:=hc i zs hi
 exact⟨u,cu,hu.mono hm⟩
theorem LatN.mono {w:World}{v:Value}{n:Nat}{hs:List (List Int)}{nv m:Nat}(h:LatN w v n hs nv)(hm:nv≤m):LatN w v n hs m:=by
 obtain⟨⟨u,e,hu⟩,hp⟩:=h
 exact⟨⟨u,e,hu.mono hm⟩,hp⟩
theorem nbM:∀ n,n < 5→nbK (n+n) ((n+n) * 6+2) 6 (n+n)≤100000:=by decide
theorem LatN.sep {w:World}{n:Nat}{hs:List (List Int)}{nv:Nat}{u:Value}(h:LatN w (.agg #[.int .i64 (n:Int),u]) n hs nv){B:Nat}(hB:w.heap.size≤B):0 < hs.length→Sep u (some B):=fun h0 a l c e=>by
 obtain⟨⟨u',e',⟨ao,cap,rfl,-,h2⟩⟩,-⟩:=h
 simp only [Value.agg.injEq,Array.mk.injEq,List.cons.injEq,and_true,true_and] at e'
 obtain⟨b,off,rfl,hlt,-⟩:=h2 h0
 rw [e'] at e
 simp only [Value.slice.injEq,Option.some.injEq] at e
 rw [← e.1]
 simp only [ne_eq,Option.some.injEq]
 omega
theorem LatN.setVar {w:World}{n:Nat}{hs:List (List Int)}{nv B:Nat}{u:Value}{x:Int}{o:Option Addr}{l c:Nat}(h:LatN w (.agg #[.int .i64 (n:Int),u]) n hs nv)(y z:Value)(hsep:0 < hs.length→Sep u (some B))(c0:w.cell? ⟨B,0,none⟩=some (.int .i64 x))(c1:w.cell? ⟨B,1,none⟩=some (.slice o l c)):
  LatN ((w.setCell ⟨B,0,none⟩ y).setCell ⟨B,1,none⟩ z) (.agg #[.int .i64 (n:Int),u]) n hs nv:=by
 obtain⟨⟨u',e',hu⟩,hp⟩:=h
 simp only [Value.agg.injEq,Array.mk.injEq,List.cons.injEq,and_true,true_and] at e'
 subst e'
 exact⟨⟨_,rfl,hu.setVar y z hsep c0 c1⟩,hp⟩
theorem BoxL.other {W:World}{A B:Nat}{u0 u1:Value}(h:BoxL W A u0 u1)(hne:A≠B)(y z:Value):BoxL ((W.setCell ⟨B,0,none⟩ y).setCell ⟨B,1,none⟩ z) A u0 u1:=
 ⟨(h.1.other hne _ _).other hne _ _,by simpa using h.2⟩
theorem BoxL.write {W:World}{B:Nat}{u0 u1:Value}(h:BoxL W B u0 u1)(y z:Value):BoxL ((W.setCell ⟨B,0,none⟩ y).setCell ⟨B,1,none⟩ z) B y z:=
 ⟨h.1.write _ _,by simpa using h.2⟩
end Go.Proofs.YtdedolkgcdlmeaaGreatDoor
namespace Go.Proofs.YtdedolkgcdlmeaaGreatDoor
open Go.RowKit Limbs Digs
instance (n nv:Nat):Decidable (RoomS n nv):=decidable_of_iff (nbK n (n * nv+2) nv n≤100000∧∀ r,r < n+1→nbK r (r *(n * nv+2)+2) (n * nv+2) r≤100000∧(r < n→nbK r (r *(r *(n * nv+2)+2)+2) (r *(n * nv+2)+2) r≤100000))
 ⟨fun⟨a,b⟩=>⟨a,fun h hh=>b h (by omega)⟩,fun⟨a,b⟩=>⟨a,fun h hh=>b h (by omega)⟩⟩
theorem roomS7:∀ m,1≤m→m≤4→RoomS m (6+1):=fun m _ h=>(by decide:∀ m,m < 5→RoomS m 7) m (by omega)
end Go.Proofs.YtdedolkgcdlmeaaGreatDoor
namespace Go.Proofs.YtdedolkgcdlmeaaGreatDoor
open Go.RowKit Limbs
def lastZ (zs:List Int)(j:Nat):Int:=if j=0 then 1 else zs.getD (j - 1) 0
theorem Kills.tr {r:Nat}{A:Nat→Nat→Int}{e:Int}(k:Kills r (trM A) e):Kills r A e:=by
 obtain⟨C,h1,h2⟩:=k
 have t1:=h1.tr
 have t2:=h2.tr
 rw [zcg,zd6] at t1 t2
 exact⟨trM C,t2,t1⟩
theorem ChI.into {r:Nat}{ys:List Int}{D:Int}{A:Nat→Nat→Int}(C:ChI r ys D A r (r+1)){i:Nat}(hi:i < r):∃ p,ys.getD (r - 1) 0=p * ys.getD i 0:=by
 by_cases e:i=r - 1
 ·rw [e];exact⟨1,(Int.one_mul _).symm⟩
 ·exact C.chain i hi (r - 1) (by omega) (by omega)
theorem zf1:∀ ys:List Int,(∀ i j,i < j→j < ys.length→∃ p,ys.getD j 0=p * ys.getD i 0)→∀ i,i+1 < (overOne ys).length→∃ p,(overOne ys).getD (i+1) 0=p *(overOne ys).getD i 0
 | [],_,i,hi=>absurd hi (Nat.not_lt_zero _)
 | y :: ys,hc,i,hi=>by
  have ih:=zf1 ys fun i j h1 h2=>by
   have:=hc (i+1) (j+1) (by omega) (by simpa using h2)
   simpa using this
  by_cases hy:1 < y
  ·have e:overOne (y :: ys)=y :: overOne ys:=by unfold overOne;rw [List.filter_cons_of_pos (by simpa using hy)]
   rw [e] at hi ⊢
   cases i with
   | zero=>
    have hl:0 < (overOne ys).length:=by simpa using hi
    have hm:(overOne ys)[0]∈ys:=(List.mem_filter.1 (List.getElem_mem hl)).1
    obtain⟨k,hk,ek⟩:=List.getElem_of_mem hm
    obtain⟨p,hp⟩:=hc 0 (k+1) (by omega) (by simpa using hk)
    refine⟨p,?_⟩
    have e1:(y :: overOne ys).getD (0+1) 0=ys[k]:=by
     rw [ek,List.getD_eq_getElem?_getD,List.getElem?_cons_succ,List.getElem?_eq_getElem hl,Option.getD_some]
    rw [e1]
    simpa [List.getD_eq_getElem?_getD,List.getElem?_eq_getElem hk] using hp
   | succ i=>
    have:=ih i (by simpa using hi)
    simpa using this
  ·have e:overOne (y :: ys)=overOne ys:=by unfold overOne;rw [List.filter_cons_of_neg (by simpa using hy)]
   rw [e] at hi ⊢
   exact ih i hi
section
variable {n:Nat}{hs ts:List (List Int)}{ph pt:Nat→Nat}{zs:List Int}
theorem InvQ.above (q:InvQ hs ts pt zs):∀ z∈zs,1 < z:=by
 obtain⟨ys,fa,fs,pa,D,rfl,-⟩:=q
 intro z hz
 exact of_decide_eq_true (List.mem_filter.1 hz).2
theorem InvQ.chain (q:InvQ hs ts pt zs):∀ i,i+1 < zs.length→∃ p,zs.getD (i+1) 0=p * zs.getD i 0:=by
 obtain⟨ys,fa,fs,pa,D,rfl,-,-,-,-,C⟩:=q
 exact zf1 ys fun i j h1 h2=>C.chain i (by rw [← C.len];omega) j h1 (by rw [← C.len];exact h2)
theorem zkj {zs:List Int}(h:∀ z∈zs,0 < z):∀ z∈zs,z≤prodL zs:=by
 induction zs with
 | nil=>exact fun z hz=>absurd hz (by simp)
 | cons y ys ih=>
  have hp:∀ l:List Int,(∀ z∈l,0 < z)→0 < prodL l:=fun l=>by
   induction l with
   | nil=>exact fun _=>Int.zero_lt_one
   | cons a l ih=>exact fun h=>Int.mul_pos (h a (by simp)) (ih fun z hz=>h z (by simp [hz]))
  have p1:=hp ys fun z hz=>h z (by simp [hz])
  have p0:=h y (by simp)
  intro z hz
  show z≤y * prodL ys
  rcases List.mem_cons.1 hz with rfl | hz
  ·have:=Int.mul_le_mul_of_nonneg_left (show 1≤prodL ys by omega) (show 0≤z by omega)
   omega
  ·have h1:=ih (fun z hz=>h z (by simp [hz])) z hz
   have:=Int.mul_le_mul_of_nonneg_right (show 1≤y by omega) (show 0≤prodL ys by omega)
   omega
theorem InvQ.small (q:InvQ hs ts pt zs)(G:FormL n ts pt)(h4:n≤4)(hlen:∀ u∈hs,u.length=n)(hin:∀ u∈hs,Gens n (InL ts) u)(hl:hs.length=ts.length)(hb:∀ u∈hs,∀ j,j < n→ab (u.getD j 0) < bp 6)(hp:prodL zs=absI (det ts.length (ent (muchM hs ts pt))))(hpos:∀ z∈zs,0 < z):∀ z∈zs,ab z < bp 40:=by
 obtain⟨ys,fa,fs,pa,D,rfl,F,a,hfa,-,-⟩:=q
 have hr:fa.length=ts.length:=hfa.trans hl
 have S:Sq ts.length fa:=zbB F hr
 have hts:=G.short
 have d1:=zeT (by rw [za9];exact hl) (za8 hs ts pt) S a
 have d2:=S.bound a (za8 hs ts pt) (B:=bp 7) (by have:=zD 7;omega) fun us hus j hj=>by
  obtain⟨i,hi,rfl⟩:=List.mem_map.1 hus
  have h1:=zfK G (hlen i hi) (hin i hi) (B:=bp 6) (fun b hb'=>by have:=hb i hi b hb';unfold absI;unfold ab at this;omega) j hj
  have h2:=zeC (nv:=6) (by omega) h1
  unfold absI;unfold ab at h2
  have:bp (6+1)=bp 7:=rfl
  omega
 have d3:=zdn (r:=ts.length) (v:=7) (by omega)
 have d4:=zY (m:=ts.length * 7+2) (n:=40) (by omega)
 intro z hz
 have h1:=zkj hpos z hz
 have h2:=hpos z hz
 unfold ab
 rw [if_neg (by omega)]
 rw [hp,d1] at h1
 omega
end
def vL (n:Nat)(ks:List (List Int))(u:Nat→Int):List Int:=(List.range n).map fun b=>sumN ks.length (fun k=>u k * ent ks k b)
theorem zaI (n:Nat)(ks:List (List Int))(u:Nat→Int):(vL n ks u).length=n:=by simp [vL]
theorem zaO (n:Nat)(ks:List (List Int))(u:Nat→Int)(b:Nat)(hb:b < n):(vL n ks u).getD b 0=sumN ks.length (fun k=>u k * ent ks k b):=zac n _ b hb
section
variable {n:Nat}{hs ks:List (List Int)}{pk:Nat→Nat}
theorem zlD (G:FormL n ks pk)(u:Nat→Int):Gens n (InL ks) (vL n ks u):=
 zbT G.len (zaI n ks u) ⟨u,fun b hb=>zaO n ks u b hb⟩
theorem zh7 (G:FormL n ks pk){x y:Nat→Int}(h:∀ b,b < n→sumN ks.length (fun k=>x k * ent ks k b)=sumN ks.length (fun k=>y k * ent ks k b)):∀ k,k < ks.length→x k=y k:=fun k hk=>by
 have h1:=zfL G (zaI n ks x) (ds:=(List.range ks.length).map x) (by simp) fun b hb=>by
  rw [zaO n ks x b hb]
  exact zg fun q hq=>by rw [zac _ _ q hq];rfl
 have h2:=zfL G (zaI n ks x) (ds:=(List.range ks.length).map y) (by simp) fun b hb=>by
  rw [zaO n ks x b hb,h b hb]
  exact zg fun q hq=>by rw [zac _ _ q hq];rfl
 have h3:=congrArg (fun l=>List.getD l k 0) (h1.symm.trans h2)
 rwa [zac _ _ k hk,zac _ _ k hk] at h3
theorem zcC (G:FormL n ks pk)(hl:∀ r∈hs,r.length=n)(hin:∀ r∈hs,Gens n (InL ks) r)(κ:Nat→Int)(b:Nat)(hb:b < n):
  sumN ks.length (fun q=>sumN hs.length (fun i=>κ i * ent (muchM hs ks pk) i q) * ent ks q b)=sumN hs.length (fun i=>κ i * ent hs i b):=by
 have e1:sumN hs.length (fun i=>κ i * ent hs i b)=sumN hs.length (fun i=>sumN ks.length (fun q=>κ i *(ent (muchM hs ks pk) i q * ent ks q b))):=zg fun i hi=>by rw [zdK G hl hin i b hi hb,zC]
 rw [e1,zaG]
 refine zg fun q _=>?_
 rw [Int.mul_comm,← zC]
 exact zg fun i _=>by ac_rfl
theorem zdJ (G:FormL n ks pk)(hl:∀ r∈hs,r.length=n)(hin:∀ r∈hs,Gens n (InL ks) r)(u:Nat→Int):Lat hs.length ks.length (ent (muchM hs ks pk)) u↔Gens n (InL hs) (vL n ks u):=by
 constructor
 ·rintro ⟨κ,hκ⟩
  refine zbT hl (zaI n ks u) ⟨κ,fun b hb=>?_⟩
  show(vL n ks u).getD b 0=_
  rw [zaO n ks u b hb]
  refine Eq.trans (zg fun q hq=>?_) (zcC G hl hin κ b hb)
  rw [hκ q hq]
 ·intro h
  obtain⟨κ,hκ⟩:=zx h
  refine⟨κ,zh7 G fun b hb=>?_⟩
  have h1:=hκ b hb
  dsimp only at h1
  rw [zaO n ks u b hb] at h1
  exact h1.trans (zcC G hl hin κ b hb).symm
end
theorem zkH {n:Nat}{hs ks ss mm:List (List Int)}{ph pk ps pm:Nat→Nat}(F:FormL n hs ph)(G:FormL n ks pk)(E:FormL n ss ps)(H:FormL n mm pm)(hS:Alikes n (InL ss) (InL (hs ++ ks)))(hM:∀ v,v.length=n→(Gens n (InL mm) v↔Gens n (InL hs) v∧Gens n (InL ks) v))
  (i1:∀ r∈hs,Gens n (InL ss) r) (i2:∀ r∈ks,Gens n (InL ss) r) (i3:∀ r∈mm,Gens n (InL ks) r) {k1 k2:Nat} (hk:k1+ks.length=k2+ss.length) (g:Int):
  Dv k1 hs.length ss.length (ent (muchM hs ss ps)) g↔Dv k2 mm.length ks.length (ent (muchM mm ks pk)) g:=by
 obtain⟨C,hC⟩:=zJ (r:=ss.length) (n:=n) (mm:=(hs ++ ks).length) (H:=ent ss) (M:=ent (hs ++ ks)) fun i hi=>by
  have hm:ss.getD i []∈ss:=zr hi
  exact zx ((hS _).1 (.base hm (E.len _ hm)))
 have hsp:∀ i b,i < ss.length→b < n→ent ss i b=sumN hs.length (fun k=>C i k * ent hs k b)+sumN ks.length (fun l=>C i (hs.length+l) * ent ks l b):=fun i b hi hb=>by
  rw [hC i b hi hb,List.length_append,zd2]
  congr 1
  ·refine zg fun k hk=>?_
   unfold ent
   rw [List.getD_eq_getElem?_getD (l:=hs ++ ks),List.getElem?_append_left hk,← List.getD_eq_getElem?_getD]
  ·refine zg fun l _=>?_
   unfold ent
   rw [List.getD_eq_getElem?_getD (l:=hs ++ ks),List.getElem?_append_right (by omega),Nat.add_sub_cancel_left,← List.getD_eq_getElem?_getD]
 refine zkG (P:=ent (muchM ks ss ps)) (T:=fun i l=>C i (hs.length+l)) (fun i hi=>?_) (fun u=>?_) hk g
 ·refine(zdJ E F.len i1 _).2 (zbT F.len (zaI _ _ _) ⟨C i,fun b hb=>?_⟩)
  show(vL n ss _).getD b 0=_
  rw [zaO _ _ _ b hb]
  have e1:sumN ss.length (fun k=>((if k=i then 1 else 0) - sumN ks.length (fun l=>C i (hs.length+l) * ent (muchM ks ss ps) l k)) * ent ss k b)=sumN ss.length (fun k=>ent ss k b *(if k=i then 1 else 0)+- (sumN ks.length (fun l=>C i (hs.length+l) * ent (muchM ks ss ps) l k) * ent ss k b)):=zg fun k _=>by
   rw [Int.sub_mul,Int.sub_eq_add_neg,Int.mul_comm (if k=i then 1 else 0)]
  rw [e1,zai,zcf ss.length i hi,zap,zcC E G.len i2 (fun l=>C i (hs.length+l)) b hb,hsp i b hi hb]
  show _=sumN hs.length (fun k=>C i k * ent hs k b)
  omega
 ·have e:vL n ss (fun q=>sumN ks.length (fun l=>u l * ent (muchM ks ss ps) l q))=vL n ks u:=zy (by rw [zaI,zaI]) fun b hb=>by
   rw [zaI] at hb
   rw [zaO _ _ _ b hb,zaO _ _ _ b hb]
   exact zcC E G.len i2 u b hb
  rw [zdJ G H.len i3,zdJ E F.len i1,e,hM _ (zaI _ _ _)]
  exact⟨fun h=>h.1,fun h=>⟨h,zlD G u⟩⟩
theorem InvQ.second {n:Nat}{hs ks ss mm:List (List Int)}{ph pk ps pm:Nat→Nat}{zs1 zs2:List Int}(F:FormL n hs ph)(G:FormL n ks pk)(E:FormL n ss ps)(H:FormL n mm pm)(hS:Alikes n (InL ss) (InL (hs ++ ks)))(hM:∀ v,v.length=n→(Gens n (InL mm) v↔Gens n (InL hs) v∧Gens n (InL ks) v))
  (i1:∀ r∈hs,Gens n (InL ss) r) (i2:∀ r∈ks,Gens n (InL ss) r) (i3:∀ r∈mm,Gens n (InL ks) r) (q1:InvQ hs ss ps zs1) (q2:InvQ mm ks pk zs2):ss.length+mm.length=hs.length+ks.length∧zs1=zs2:=by
 obtain⟨ys1,fa1,fs1,pa1,D1,rfl,f1,a1,l1,t1,c1⟩:=q1
 obtain⟨ys2,fa2,fs2,pa2,D2,rfl,f2,a2,l2,t2,c2⟩:=q2
 have d1:=fun k g=>zgI f1 a1 (za8 hs ss ps) t1 c1 k g
 have d2:=fun k g=>zgI f2 a2 (za8 mm ks pk) t2 c2 k g
 rw [za9] at d1 d2
 have h:=zkI (a:=ss.length) (c:=ks.length) (ys:=ys1) (zs:=ys2) (fun i hi=>c1.pos i (by rw [← c1.len];exact hi)) (fun i hi=>c2.pos i (by rw [← c2.len];exact hi)) (fun i j h1 h2=>c1.chain i (by rw [← c1.len];omega) j h1 (by rw [← c1.len];exact h2)) (fun i j h1 h2=>c2.chain i (by rw [← c2.len];omega) j h1 (by rw [← c2.len];exact h2)) fun k1 k2 g hk=>(d1 k1 g).symm.trans ((zkH F G E H hS hM i1 i2 i3 hk g).trans (d2 k2 g))
 rw [c1.len,c2.len,l1,l2] at h
 exact h
theorem zji {n:Nat}{hs ks ts:List (List Int)}(hl:∀ r∈hs,r.length=n)(a:Alikes n (InL ts) (InL (hs ++ ks))):∀ u∈hs,Gens n (InL ts) u:=fun u hu=>(a u).2 (.base (List.mem_append_left _ hu) (hl u hu))
end Go.Proofs.YtdedolkgcdlmeaaGreatDoor
