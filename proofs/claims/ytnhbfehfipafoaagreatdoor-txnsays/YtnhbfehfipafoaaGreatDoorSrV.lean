import Derived.Test.YtnhbfehfipafoaaGreatDoorSrU
import Derived.Test.YtnhbfehfipafoaaGreatDoorWaV
import Derived.Test.YtnhbfehfipafoaaGreatDoorSrR
namespace Go.Proofs.YtnhbfehfipafoaaGreatDoor
open Go.RowKit
def viewL (l:List Nmd):DeedV→List Nmd
 | none=>l
 | some (_,made)=>made
theorem PrS.later {W W':World}{B m X:Nat}{l:List Nmd}{en:Nat}{st:DeedV}{g:Option Nat}(h:PrS W B m X l en st g)(hb:Below W.heap.size W W'):PrS W' B m X l en st g:=h.stepR (gr:=none) (StepX.of_below hb) (fun i _ h=>by cases h)
theorem RfS.later {wI W W':World}{B Q M mn:Nat}{l:List Nmd}{us:Nat}{st:DeedV}{g:Option Nat}(h:RfS wI W B Q M mn l us st g)(hb:Below W.heap.size W W'):RfS wI W' B Q M mn l us st g:=h.stepP (g:=none) (StepX.of_below hb) (fun i h=>by cases h)
theorem PrS.okL {W:World}{B m X:Nat}{l:List Nmd}{en:Nat}{st:DeedV}{g:Option Nat}(h:PrS W B m X l en st g):CatOk l:=by
 obtain⟨S,D,hd,h1,-⟩:=h
 exact h1.says.says.ok
theorem PrS.okV {W:World}{B m X:Nat}{l:List Nmd}{en:Nat}{st:DeedV}{g:Option Nat}(h:PrS W B m X l en st g):CatOk (viewL l st):=by
 obtain⟨S,D,hd,h1,-,-,-,-,h6⟩:=h
 match st,h6 with
 | none,_=>exact h1.says.says.ok
 | some (os,made),⟨osC,⟨_,_,_,_,_,_,_,_,_,_,_,_,_,h,_⟩,_⟩=>exact h
theorem PrS.hi {W:World}{B m X:Nat}{l:List Nmd}{en:Nat}{st:DeedV}{g:Option Nat}(h:PrS W B m X l en st g):∀ i,g=some i→i < W.heap.size:=by
 obtain⟨S,D,hd,-,-,-,-,h5,-⟩:=h
 exact fun i hi=>(h5 i hi).2
theorem RfS.hi {wI W:World}{B Q M mn:Nat}{l:List Nmd}{us:Nat}{st:DeedV}{g:Option Nat}(h:RfS wI W B Q M mn l us st g):∀ i,g=some i→i < W.heap.size:=by
 obtain⟨so,sn,sk,qs,-,-,-,-,-,-,-,-,h9,-⟩:=h
 exact h9
set_option linter.unusedSimpArgs false in
set_option maxRecDepth 100000 in
set_option maxHeartbeats 3200000 in
theorem zcJ (w:World)(B m X:Nat)(l:List Nmd)(en:Nat)(st:DeedV)(g:Option Nat)(h:PrS w B m X l en st g):
  Calls Tryz.prog 36 #[.pointer (some ⟨X,0,none⟩)] w fun e w'=>e=.returned (.bool st.isSome)∧w'=w:=by
 obtain⟨S,D,hd,-,-,-,-,-,h6⟩:=h
 match st,h6 with
 | none,h6=>exact zr w X S _ false h6 (.inl ⟨rfl,rfl⟩)
 | some (os,made),⟨osC,⟨T,_,_,_,_,_,_,hs,_⟩,_⟩=>exact zr w X S _ true hs (.inr ⟨rfl,T,rfl⟩)
def VieP (w:World)(v:List Nmd)(e:Ending)(w':World):Prop:=∃ o n k qs,e=.returned (.agg #[.slice o n k])∧CatN w' (.slice o n k) qs∧qs.map (·.x)=v∧Below w.heap.size w w'
set_option linter.unusedSimpArgs false in
set_option maxRecDepth 100000 in
set_option maxHeartbeats 3200000 in
theorem ze8 (w:World)(B m X:Nat)(l:List Nmd)(en:Nat)(st:DeedV)(g:Option Nat)(h:PrS w B m X l en st g):
  Calls Tryz.prog 37 #[.pointer (some ⟨X,0,none⟩)] w fun e w'=>VieP w (viewL l st) e w':=by
 obtain⟨S,D,hd,h1,-,-,-,-,h6⟩:=h
 match st,h6 with
 | none,h6=>
  obtain⟨L,o,n,k,qs,x1,x2,x3,-⟩:=id h1.mem
  refine(zjQ w X S B hd o n k _ h6 x1).mono ?_
  rintro e w' ⟨rfl,hb⟩
  exact⟨o,n,k,qs,rfl,x2.below hb,x3,hb⟩
 | some (os,made),⟨osC,⟨T,oo,oc,o,n,k,qs,hs,hdd,_,_,hc,hq,_⟩,_⟩=>
  refine(zjR w X S T _ o n k hs hdd).mono ?_
  rintro e w' ⟨rfl,hb⟩
  exact⟨o,n,k,qs,rfl,hc.below hb,hq,hb⟩
set_option linter.unusedSimpArgs false in
set_option maxRecDepth 100000 in
set_option maxHeartbeats 3200000 in
theorem zih (wI w:World)(B Q M mn:Nat)(l:List Nmd)(us:Nat)(st:DeedV)(g:Option Nat)(h:RfS wI w B Q M mn l us st g):
  Calls Tryz.prog 38 #[.pointer (some ⟨Q,0,none⟩)] w fun e w'=>(∃ o n k qs,e=.returned (.slice o n k)∧CatN w (.slice o n k) qs∧qs.map (·.x)=viewL l st)∧w'=w:=by
 obtain⟨so,sn,sk,qs,h1,h2,h3,-,-,-,-,-,-,h10⟩:=h
 match st,h10 with
 | none,⟨cv,ov,hx⟩=>
  refine(ziL w Q M cv ov hx _ _ _ h1).mono ?_
  rintro e w' ⟨rfl,hw⟩
  exact⟨⟨so,sn,sk,qs,rfl,h2,h3⟩,hw⟩
 | some (os,made),⟨osC,⟨oo,on,oc,o,n,k,ps,hx,_,_,_,hc,hq,_⟩,_⟩=>
  refine(ziM w Q M _ _ hx).mono ?_
  rintro e w' ⟨rfl,hw⟩
  exact⟨⟨o,n,k,ps,rfl,hc,hq⟩,hw⟩
theorem RfS.flag {wI W:World}{B Q M mn:Nat}{l:List Nmd}{us:Nat}{st:DeedV}{g:Option Nat}(h:RfS wI W B Q M mn l us st g):W.cell? ⟨Q,1,none⟩=some (.bool st.isSome):=by
 obtain⟨so,sn,sk,qs,-,-,-,-,-,-,-,-,-,h10⟩:=h
 match st,h10 with
 | none,⟨cv,ov,hx⟩=>exact hx.cells.2.1
 | some (os,made),⟨osC,⟨oo,on,oc,o,n,k,ps,hx,_⟩,_⟩=>exact hx.cells.2.1
theorem XopP.prS {w w':World}{B:Nat}{D:Dsk}{m:Nat}{h:Hd}{l:List Nmd}{en:Nat}{e:Ending}(x:XopP w B B D m h l en e w')(hf:Free D)(hb:B≤w.heap.size):∃ X,e=.returned (.tuple #[.pointer (some ⟨X,0,none⟩),.nilIface])∧PrS w' B m X l en none none∧Below w.heap.size w w':=by
 obtain⟨X,S,rfl,hX,hs,hp,hbb⟩:=x
 exact⟨X,rfl,⟨S,D,h,hp,hf,Nat.le_trans hb hX,Nat.le_trans hb hbb.size,(fun i hi=>by cases hi),hs⟩,hbb⟩
theorem ziA (W:World):RowS W (.slice none 0 0) []:=(show RowS W (.slice none 0 0) [] from⟨none,0,rfl,Nat.le_refl _,(fun k=>by simp),fun h0=>absurd h0 (by simp)⟩)
set_option linter.unusedSimpArgs false in
set_option maxRecDepth 100000 in
set_option maxHeartbeats 3200000 in
theorem zj9 (w:World)(ht:TabP w)(hx:MaxL w):
  Calls Tryz.prog 23 #[] w fun e w'=>e=.returned (.bool true)∧Below w.heap.size w w':=by
 have HT:=hide ht;have HX:=hide hx
 clear ht hx
 go_enter Tryz.func23,Tryz.ntmps23
 go_wp2_with fail
 refine(zfC w 90 (by decide) (by decide) HT.out HX.out).mono ?_
 rintro e w2 ⟨S0,D,h,rfl,-,hp2,hf2,hb2⟩
 obtain⟨B,hB⟩:∃ B,w.heap.size=B:=⟨_,rfl⟩
 have HBB:Hid (w.heap.size≤B):=by show _≤_;omega
 have HBS:Hid (B≤w2.heap.size):=by show _≤_;rw [← hB];exact hb2.size
 rw [hB] at hp2 ⊢
 have HP2:=hide hp2;have HF2:=hide hf2;have HB2:Hid (Below B w w2):=by show Below B w w2;rw [← hB];exact hb2
 have HB0:Hid (w.heap.size=B):=hB
 clear hp2 hf2 hb2 hB
 have HTB:Hid (∀ W,Below B w W→TabP W∧MaxL W):=fun W hb=>⟨HT.out.below (by rw [HB0.out];exact hb),HX.out.below (by rw [HB0.out];exact hb)⟩
 go_wp2_with fail
 refine(zdb w2 B B D 90 h [] 0 HP2.out.disk HP2.out.says (by decide) (by decide) (HTB.out _ HB2.out).1 (HTB.out _ HB2.out).2 HBS.out).mono ?_
 intro e w3 hxo
 obtain⟨X,rfl,hp3,hb3⟩:=hxo.prS HF2.out HBS.out
 have HP3:=hide hp3;have HB3:=hide (HB2.out.trans (hb3.mono HBS.out))
 have HBS3:Hid (B≤w3.heap.size):=Nat.le_trans HBS.out hb3.size
 clear hxo hp3 hb3 HP2 HF2 HB2 HBS
 go_wp2_with fail
 refine(ze2 w3 B 90 X [] 0 none none HP3.out).mono ?_
 rintro e w4 ⟨rfl,g4,hp4,hs4,-⟩
 have HP4:=hide hp4;have HB4:=hide (hs4.below HB3.out (Nat.le_refl _) HBS3.out)
 have HBS4:Hid (B≤w4.heap.size):=Nat.le_trans HBS3.out hs4.size
 clear hp4 hs4 HP3 HB3 HBS3
 rw [show errV (begF [] none).1=.nilIface from rfl]
 go_wp2_with fail
 refine(ze4 w4 B 90 X [] 0 (some ([],[])) g4 opA none 0 HP4.out (by decide) (by decide) (HTB.out _ HB4.out).1 (fun W _=>ziA W) (by decide)).mono ?_
 rintro e w5 ⟨rfl,g5,hp5,hs5,-⟩
 rw [show(doF 90 [] 0 opA (some ([],[]))).1=0 from by kernel_rfl]
 rw [show(doF 90 [] 0 opA (some ([],[]))).2.1=[] from rfl,show(doF 90 [] 0 opA (some ([],[]))).2.2.1=0 from rfl,show(doF 90 [] 0 opA (some ([],[]))).2.2.2=some ([opA],[⟨⟨#[97]⟩,2,[]⟩]) from by kernel_rfl] at hp5
 have HP5:=hide hp5;have HB5:=hide (hs5.below HB4.out (Nat.le_refl _) HBS4.out)
 have HBS5:Hid (B≤w5.heap.size):=Nat.le_trans HBS4.out hs5.size
 clear hp5 hs5 HP4 HB4 HBS4
 rw [show errV 0=.nilIface from rfl]
 go_wp2_with fail
 refine(zcJ w5 B 90 X [] 0 _ g5 HP5.out).mono ?_
 rintro e w6 ⟨rfl,hw6⟩
 subst hw6
 dsimp only [Option.isSome]
 go_wp2_with fail
 refine(ze8 _ B 90 X [] 0 _ g5 HP5.out).mono ?_
 rintro e w7 ⟨o7,n7,k7,q7,rfl,hc7,hq7,hb7⟩
 have hl7:q7.length=1:=by have:=congrArg List.length hq7;rw [List.length_map] at this;exact this
 have hok7:∀ x∈q7.map (·.x),NmOk x:=by rw [hq7];exact HP5.out.okV.all
 have HC7:=hide hc7;have HQ7:=hide hq7;have HL7:=hide hl7;have HO7:=hide hok7;have HP7:=hide (HP5.out.later hb7);have HB7:=hide (HB5.out.trans (hb7.mono HBS5.out))
 have HBS7:Hid (B≤w7.heap.size):=Nat.le_trans HBS5.out hb7.size
 clear hc7 hq7 hl7 hok7 hb7 HP5 HB5 HBS5
 go_wp2_with fail
 refine(zew w7 _ q7 ⟨_,rfl,HC7.out⟩ (by rw [HL7.out];decide) HO7.out).mono ?_
 rintro e w8 ⟨u,rs,rfl,hc8,hm8,hb8⟩
 obtain⟨o8,k8,rfl,-⟩:=id hc8
 have hl8:rs.length=1:=by have:=congrArg List.length hm8;rw [List.length_map,List.length_map,HL7.out] at this;exact this
 rw [hl8]
 have HP8:=hide (HP7.out.later hb8);have HB8:=hide (HB7.out.trans (hb8.mono HBS7.out))
 have HBS8:Hid (B≤w8.heap.size):=Nat.le_trans HBS7.out hb8.size
 clear hc8 hm8 hb8 hl8 HC7 HQ7 HL7 HO7 HP7 HB7 HBS7
 go_wp2_with fail
 refine(ze3 w8 B 90 X [] 0 _ g5 HP8.out (by decide) (by decide) (HTB.out _ HB8.out).1).mono ?_
 rintro e w9 ⟨rfl,g9,hp9,hs9,-⟩
 rw [show(cmtF 90 [] 0 (some ([opA],[⟨⟨#[97]⟩,2,[]⟩]))).1=0 from by kernel_rfl]
 rw [show(cmtF 90 [] 0 (some ([opA],[⟨⟨#[97]⟩,2,[]⟩]))).2.2.2=none from by kernel_rfl] at hp9
 have HP9:=hide hp9;have HB9:=hide (hs9.below HB8.out (Nat.le_refl _) HBS8.out)
 clear hp9 hs9 HP8 HB8 HBS8
 rw [show errV 0=.nilIface from rfl]
 go_wp2_with fail
 refine(zcJ w9 B 90 X _ _ _ g9 HP9.out).mono ?_
 rintro e w10 ⟨rfl,hw10⟩
 subst hw10
 dsimp only [Option.isSome]
 go_wp2
 go_ret
 exact⟨rfl,by rw [HB0.out];exact HB9.out⟩
end Go.Proofs.YtnhbfehfipafoaaGreatDoor
/- StoreSays. -/
namespace Go.Proofs.YtnhbfehfipafoaaGreatDoor
open Go.RowKit
end Go.Proofs.YtnhbfehfipafoaaGreatDoor
/- TopCrash. -/
namespace Go.Proofs.YtnhbfehfipafoaaGreatDoor
open Go.RowKit
theorem zhI {x:Nmd}(h:NmOk x):x.gens.length≤1000∧∀ g∈x.gens,g.length≤1000000:=by
 refine⟨by have:=h.few;omega,fun g hg=>?_⟩
 have h1:=(zE.1 (h.gens g hg)).1
 have h2:=h.n
 omega
end Go.Proofs.YtnhbfehfipafoaaGreatDoor
