import Derived.Test.YtnhbfehfipafoaaGreatDoorSsD
import Derived.Test.YtnhbfehfipafoaaGreatDoorSrR
import Derived.Test.YtnhbfehfipafoaaGreatDoorWaV
namespace Go.Proofs.YtnhbfehfipafoaaGreatDoor
open Go.RowKit
theorem InG.later {W W':World}{base X S:Nat}{g:Option Nat}{os:List OpC}{made:List Nmd}(h:InG W base X S g os made)(hb:Below W.heap.size W W'):InG W' base X S g os made:=by
 obtain⟨T,oo,oc,o,n,k,qs,h1,h2,h3,h4,h5,h6,h7,h8,h9⟩:=h
 exact⟨T,oo,oc,o,n,k,qs,h1.later hb,h2.later hb,h3.later hb,h4,h5.below hb,h6,h7,h8,h9⟩
theorem InG.keptS {W W':World}{base C X S:Nat}{g:Option Nat}{os:List OpC}{made:List Nmd}(h:InG W base X S g os made)(hk:KeptS C W W'):InG W' base X S g os made:=by
 obtain⟨T,oo,oc,o,n,k,qs,h1,h2,h3,h4,h5,h6,h7,h8,h9⟩:=h
 exact⟨T,oo,oc,o,n,k,qs,h1.keptS hk,h2.keptS hk,h3.keptS hk,h4,h5.keepK (zbo hk),h6,h7,h8,h9⟩
def DonG (w:World)(base X S:Nat)(g:Option Nat)(os:List OpC)(made:List Nmd)(o:OpV)(w':World):Prop:=
 ∃ os' g',InG w' base X S g' os' (if addO made os.length o=0 then (applyC made o).2 else made)∧os'.map (·.o)=(if addO made os.length o=0 then os.map (·.o) ++ [o] else os.map (·.o)) ∧
  (∃ ex,ButE ex w w'∧(∀ b,ex b→base≤b)∧∀ b cs t fz,w.heap[b]?=some (.cells cs t fz)→ex b→t=113∨(t=43∧g=some b))∧∀ i,g'=some i→g=some i∨w.heap.size≤i
set_option linter.unusedSimpArgs false in
set_option maxRecDepth 100000 in
set_option maxHeartbeats 3200000 in
theorem zgM (w:World)(X base S:Nat)(g:Option Nat)(os:List OpC)(made:List Nmd)(ov:OpV)(vo:Option Addr)(vc:Nat)(x:InG w base X S g os made)(hbase:base≤w.heap.size)(hv:RowS w (.slice vo ov.v.length vc) ov.v)(hvl:ov.v.length≤20):
  Calls Tryz.prog 28 #[.pointer (some ⟨X,0,none⟩),.agg #[.int .i64 ov.kind,.string ov.name,.int .i64 ov.n,.slice vo ov.v.length vc]] w fun e w'=>e=.returned (errV (addO made os.length ov))∧DonG w base X S g os made ov w':=by
 obtain⟨T,oo,oc,o,n,k,qs,hx,hd,ho,h12',hc,hq,hok,hT,hg⟩:=x
 obtain⟨kd,nm,nn,vs⟩:=ov
 dsimp only at hv hvl ⊢
 have hb1:=zc w (.cells #[.int .i64 kd,.string nm,.int .i64 nn,.slice vo vs.length vc] 43)
 have hB1:=OpBx.new w kd nm nn (.slice vo vs.length vc)
 have hX1:=hx.later hb1
 have hb0:=hb1.trans (((Below.refl _ _).drew:Below (w.alloc (.cells #[.int .i64 kd,.string nm,.int .i64 nn,.slice vo vs.length vc] 43)).heap.size (w.alloc (.cells #[.int .i64 kd,.string nm,.int .i64 nn,.slice vo vs.length vc] 43)) (w.alloc (.cells #[.int .i64 kd,.string nm,.int .i64 nn,.slice vo vs.length vc] 43)).drew).mono hb1.size)
 have hB0:OpBx (w.alloc (.cells #[.int .i64 kd,.string nm,.int .i64 nn,.slice vo vs.length vc] 43)).drew w.heap.size kd nm nn (.slice vo vs.length vc):=hB1
 have hX0:SesB (w.alloc (.cells #[.int .i64 kd,.string nm,.int .i64 nn,.slice vo vs.length vc] 43)).drew X S (.pointer (some ⟨T,0,none⟩)):=hX1
 have HAD:Hid (Calls Tryz.prog 57 #[.pointer (some ⟨T,0,none⟩),.agg #[.int .i64 kd,.string nm,.int .i64 nn,.slice vo vs.length vc]] (w.alloc (.cells #[.int .i64 kd,.string nm,.int .i64 nn,.slice vo vs.length vc] 43)).drew fun e w'=>e=.returned (errV (addO made os.length ⟨kd,nm,nn,vs⟩))∧DonG w base X S g os made ⟨kd,nm,nn,vs⟩ w'):=by
  refine(zfZ (w.alloc (.cells #[.int .i64 kd,.string nm,.int .i64 nn,.slice vo vs.length vc] 43)).drew base T oo os.length oc _ _ _ os qs made ⟨kd,nm,nn,vs⟩ vo vc (hd.later hb0) (ho.later hb0) rfl h12' (hc.below hb0) hq hok (hv.below hb0 (Nat.le_refl _)) hvl (Nat.le_trans hbase hb0.size)).mono ?_
  intro e w' had
  rcases had with⟨hne,rfl,hb⟩ |⟨hz,rfl,o',c',q,o2,n2,k2,qs2,h1,h2,h3,h4,h5,h6,h7⟩
  ·have hbb:=hb0.trans (hb.mono hb0.size)
   refine⟨by unfold errV;rw [if_neg hne],os,g,?_,by rw [if_neg hne],⟨fun _=>False,⟨hbb.os,hbb.tape,hbb.output,hbb.size,fun b hb' _=>hbb.block b hb'⟩,fun b hb=>hb.elim,fun b cs t fz _ hb=>hb.elim⟩,fun i hi=>.inl hi⟩
   rw [if_neg hne]
   exact⟨T,oo,oc,o,n,k,qs,hx.later hbb,hd.later hbb,ho.later hbb,h12',hc.below hbb,hq,hok,hT,hg⟩
  ·have hex:=zdV (hd.later hb0) (ho.later hb0)
   have hex0:=zdV hd ho
   have h12z:os.length < 12:=by
    unfold addO at hz
    split at hz
    ·cases hz
    ·omega
   have hok2:CatOk (applyC made ⟨kd,nm,nn,vs⟩).2:=by
    refine zJ hok _ ?_
    unfold addO at hz
    rw [if_neg (by omega)] at hz
    exact hz
   have hlen:(os ++ [q]).length=os.length+1:=by rw [List.length_append];rfl
   refine⟨by rw [hz];rfl,os ++ [q],(Value.slice o' (os.length+1) c').ownBlock,?_,by rw [if_pos hz,List.map_append,List.map_cons,List.map_nil,h3],⟨_,⟨h6.os.trans hb0.os,h6.tape.trans hb0.tape,h6.output.trans hb0.output,Nat.le_trans hb0.size h6.size,fun b hb hn=>(h6.block b (Nat.lt_of_lt_of_le hb hb0.size) hn).trans (hb0.block b hb)⟩,fun b hb=>?_,fun b cs t fz hbb hb=>?_⟩,fun i hi=>?_⟩
   ·rw [if_pos hz]
    exact⟨T,o',c',o2,n2,k2,qs2,hX0.butE h6 hex,by rw [hlen];exact h1,by rw [hlen];exact h2,by omega,h4,h5,hok2,hT,by rw [hlen]⟩
   ·rcases hb with rfl | hb
    ·exact hT
    ·rcases ho.1.2 with⟨hn,-⟩ |⟨g',cap,cur,e,hbg,-⟩
     ·rw [hn] at hb;cases hb
     ·rw [e] at hb
      simp only [Value.ownBlock,Option.some.injEq] at hb
      omega
   ·rcases hb with rfl | hb
    ·rw [show w.heap[b]?=_ from hd] at hbb
     simp only [Option.some.injEq,Obj.cells.injEq] at hbb
     exact .inl hbb.2.1.symm
    ·rcases hex0 b (.inr hb) cs t fz hbb with h | h
     ·exact .inl h
     ·exact .inr ⟨h,hg.symm.trans hb⟩
   ·rcases h7 i hi with h | h
    ·exact .inl (hg.symm.trans h)
    ·exact .inr (Nat.le_trans hb0.size h)
 have hS0:(w.alloc (.cells #[.int .i64 kd,.string nm,.int .i64 nn,.slice vo vs.length vc] 43)).drew.cell? ⟨X,1,none⟩=some (.pointer (some ⟨T,0,none⟩))∧(w.alloc (.cells #[.int .i64 kd,.string nm,.int .i64 nn,.slice vo vs.length vc] 43)).drew.cell? ⟨w.heap.size,0,none⟩=some (.int .i64 kd)∧(w.alloc (.cells #[.int .i64 kd,.string nm,.int .i64 nn,.slice vo vs.length vc] 43)).drew.cell? ⟨w.heap.size,1,none⟩=some (.string nm)∧(w.alloc (.cells #[.int .i64 kd,.string nm,.int .i64 nn,.slice vo vs.length vc] 43)).drew.cell? ⟨w.heap.size,2,none⟩=some (.int .i64 nn)∧(w.alloc (.cells #[.int .i64 kd,.string nm,.int .i64 nn,.slice vo vs.length vc] 43)).drew.cell? ⟨w.heap.size,3,none⟩=some (.slice vo vs.length vc):=⟨hX0.cells.2.1,hB0.cells.1,hB0.cells.2.1,hB0.cells.2.2.1,hB0.cells.2.2.2.1⟩
 have X1:=hide hX1
 clear hx hd ho h12' hc hq hok hT hbase hv hvl hb1 hB1 hX1 hb0 hB0 hX0 hg
 go_enter Tryz.func28,Tryz.ntmps28
 go_wp2_with fail
 generalize w.alloc (.cells #[.int .i64 kd,.string nm,.int .i64 nn,.slice vo vs.length vc] 43)=w1 at *
 refine(zr w1 X S _ true X1.out (.inr ⟨rfl,T,rfl⟩)).mono ?_
 rintro e w2 ⟨rfl,hw2⟩
 subst hw2
 clear X1
 go_wp2_with fail
 refine zo (A:=fun j=>decide (j < 5)) (S:=(fun w'=>w'.cell? ⟨X,1,none⟩=some (.pointer (some ⟨T,0,none⟩))∧w'.cell? ⟨w.heap.size,0,none⟩=some (.int .i64 kd)∧w'.cell? ⟨w.heap.size,1,none⟩=some (.string nm)∧w'.cell? ⟨w.heap.size,2,none⟩=some (.int .i64 nn)∧w'.cell? ⟨w.heap.size,3,none⟩=some (.slice vo vs.length vc))) (by kernel_rfl) (by exact hS0) (fun hHeld=>?_)
 refine zb (v:=?_) 0 15 [1,2,3,5,6] rfl rfl (by kernel_rfl) (by kernel_rfl) (by kernel_rfl) (by kernel_rfl) (fun _ _ _ h=>h) (by rfl) ?_ (by assumption) ?_
 rotate_left
 ·(intro w hSw;(try dsimp only at hSw);go_simp;with_reducible rfl)
 simp only [Act.put,List.setIfInBounds_toArray,List.set_cons_zero,List.set_cons_succ]
 refine zb (v:=?_) 1 16 [2,3,5,6] rfl rfl (by kernel_rfl) (by kernel_rfl) (by kernel_rfl) (by kernel_rfl) (fun _ _ _ h=>h) (by rfl) ?_ (by assumption) ?_
 rotate_left
 ·(intro w hSw;(try dsimp only at hSw);go_simp;with_reducible rfl)
 simp only [Act.put,List.setIfInBounds_toArray,List.set_cons_zero,List.set_cons_succ]
 refine zb (v:=?_) 2 17 [3,5,6] rfl rfl (by kernel_rfl) (by kernel_rfl) (by kernel_rfl) (by kernel_rfl) (fun _ _ _ h=>h) (by rfl) ?_ (by assumption) ?_
 rotate_left
 ·(intro w hSw;(try dsimp only at hSw);go_simp;with_reducible rfl)
 simp only [Act.put,List.setIfInBounds_toArray,List.set_cons_zero,List.set_cons_succ]
 refine zb (v:=?_) 3 18 [5,6] rfl rfl (by kernel_rfl) (by kernel_rfl) (by kernel_rfl) (by kernel_rfl) (fun _ _ _ h=>h) (by rfl) ?_ (by assumption) ?_
 rotate_left
 ·(intro w hSw;(try dsimp only at hSw);go_simp;with_reducible rfl)
 simp only [Act.put,List.setIfInBounds_toArray,List.set_cons_zero,List.set_cons_succ]
 refine zb (v:=?_) 4 19 [5,6] rfl rfl (by kernel_rfl) (by kernel_rfl) (by kernel_rfl) (by kernel_rfl) (fun _ _ _ h=>h) (by rfl) ?_ (by assumption) ?_
 rotate_left
 ·(intro w hSw;(try dsimp only at hSw);go_simp;with_reducible rfl)
 simp only [Act.put,List.setIfInBounds_toArray,List.set_cons_zero,List.set_cons_succ]
 clear hS0 hHeld
 generalize w2.drew=w0 at *
 refine ze 5 (by kernel_rfl) rfl (fun K hK=>?_)
 go_simp
 refine HAD.out.mono ?_
 rintro e w9 had
 obtain⟨rfl,hdn⟩:=had
 have HFIN:=hide hdn
 clear hdn HAD
 refine hK.out _ _ (fun h=>absurd h (by decide)) ?_
 clear hK K
 try simp only [Act.put,List.setIfInBounds_toArray,List.set_cons_zero,List.set_cons_succ]
 refine ze 6 (by kernel_rfl) rfl (fun K hK=>?_)
 go_simp
 refine hK.out _ _ (fun h=>absurd h (by decide)) ?_
 clear hK K
 try simp only [Act.put,List.setIfInBounds_toArray,List.set_cons_zero,List.set_cons_succ]
 refine zm (by kernel_rfl) ?_
 go_wp2
 go_ret
 exact⟨rfl,HFIN.out⟩
abbrev DeedV:=Option (List OpV × List Nmd)
def begF (l:List Nmd):DeedV→Nat × DeedV
 | none=>(0,some ([],l))
 | some s=>(11,some s)
def doF (m:Nat)(l:List Nmd)(en:Nat)(o:OpV):DeedV→Nat × List Nmd × Nat × DeedV
 | none=>(comF l [o] m,comL l [o] m,comN l [o] m en,none)
 | some (os,made)=>(addO made os.length o,l,en,some (if addO made os.length o=0 then os ++ [o] else os,if addO made os.length o=0 then (applyC made o).2 else made))
def cmtF (m:Nat)(l:List Nmd)(en:Nat):DeedV→Nat × List Nmd × Nat × DeedV
 | none=>(11,l,en,none)
 | some (os,made)=>(comF l os m,comL l os m,comN l os m en,if comF l os m=0 then none else some (os,made))
def abtF:DeedV→Nat × DeedV
 | none=>(11,none)
 | some _=>(0,none)
def savF (en:Nat):DeedV→Nat × Nat × DeedV
 | none=>(0,0,none)
 | some s=>(11,en,some s)
def PrP (w:World)(B m X:Nat)(g:Option Nat)(f:Nat)(l:List Nmd)(en:Nat)(st:DeedV)(e:Ending)(w':World):Prop:=
 e=.returned (errV f)∧∃ g',PrS w' B m X l en st g'∧StepX B (exP B g) w w'∧∀ i,g'=some i→g=some i∨w.heap.size≤i
theorem PrS.same {w:World}{B m X:Nat}{l:List Nmd}{en:Nat}{st:DeedV}{g:Option Nat}(h:PrS w B m X l en st g)(f:Nat){e:Ending}{w':World}(he:e=.returned (errV f))(hw:w'=w):PrP w B m X g f l en st e w':=by
 subst hw
 exact⟨he,g,h,.of_below (Below.refl _ _),fun i hi=>.inl hi⟩
theorem zc2 {w w':World}{B X S:Nat}{g:Option Nat}{dv:Value}(x:SesB w X S dv)(hX:B≤X)(hk:ButB w.heap.size X w w'):StepX B (exP B g) w w':=StepX.of_butB hk hX fun cs t fz hh=>by
 rw [show w.heap[X]?=_ from x] at hh
 simp only [Option.some.injEq,Obj.cells.injEq] at hh
 exact⟨hX,.inr (.inr (.inl hh.2.1.symm))⟩
theorem zbQ {w w':World}{B:Nat}{g:Option Nat}(hk:KeptS B w w'):StepX B (exP B g) w w':=.of_keptS hk fun _ _ hb ht=>⟨hb,.inl ht⟩
set_option linter.unusedSimpArgs false in
set_option maxRecDepth 100000 in
set_option maxHeartbeats 3200000 in
theorem ze2 (w:World)(B m X:Nat)(l:List Nmd)(en:Nat)(st:DeedV)(g:Option Nat)(h:PrS w B m X l en st g):
  Calls Tryz.prog 26 #[.pointer (some ⟨X,0,none⟩)] w fun e w'=>PrP w B m X g (begF l st).1 l en (begF l st).2 e w':=by
 have h0:=h
 obtain⟨S,D,hd,h1,h2,h3,h4,h5,h6⟩:=h
 cases st with
 | none=>
  have hx:SesB w X S (.pointer none):=h6
  obtain⟨L,o,n,k,qs,x1,x2,x3,-⟩:=id h1.mem
  refine(zgi w X S B hd o n k _ hx x1).mono ?_
  rintro e w' ⟨T,rfl,hT,hs,hdd,hk⟩
  refine⟨rfl,none,⟨S,D,hd,h1.but hx za1 za0 hk,h2,h3,Nat.le_trans h4 hk.size,(fun i hi=>by cases hi),[],⟨T,none,0,o,n,k,qs,hs,hdd,zcF _ _,(by decide),x2.keepK (zV hx za0 hk),x3,h1.says.says.ok,Nat.le_trans h4 hT,rfl⟩,rfl,fun q hq=>by cases hq⟩,zc2 hx h3 hk,(fun i hi=>by cases hi)⟩
 | some s=>
  obtain⟨os,made⟩:=s
  obtain⟨osC,h7,-,-⟩:=h6
  obtain⟨T,_,_,_,_,_,_,hs,-⟩:=h7
  refine(zgj w X S T hs).mono ?_
  rintro e w' ⟨rfl,hw⟩
  exact h0.same 11 rfl hw
set_option linter.unusedSimpArgs false in
set_option maxRecDepth 100000 in
set_option maxHeartbeats 3200000 in
theorem zh3 (w:World)(B m X:Nat)(l:List Nmd)(en:Nat)(st:DeedV)(g:Option Nat)(h:PrS w B m X l en st g):
  Calls Tryz.prog 32 #[.pointer (some ⟨X,0,none⟩)] w fun e w'=>PrP w B m X g (abtF st).1 l en (abtF st).2 e w':=by
 have h0:=h
 obtain⟨S,D,hd,h1,h2,h3,h4,h5,h6⟩:=h
 cases st with
 | none=>
  have hx:SesB w X S (.pointer none):=h6
  refine(zfW w X S hx).mono ?_
  rintro e w' ⟨rfl,hw⟩
  exact h0.same 11 rfl hw
 | some s=>
  obtain⟨os,made⟩:=s
  obtain⟨osC,h7,-,-⟩:=h6
  obtain⟨T,_,_,_,_,_,_,hs,-⟩:=h7
  refine(zfX w X S T hs).mono ?_
  rintro e w' ⟨rfl,hs',hk⟩
  exact⟨rfl,none,⟨S,D,hd,h1.but hs za1 za0 hk,h2,h3,Nat.le_trans h4 hk.size,(fun i hi=>by cases hi),hs'⟩,zc2 hs h3 hk,(fun i hi=>by cases hi)⟩
set_option linter.unusedSimpArgs false in
set_option maxRecDepth 100000 in
set_option maxHeartbeats 3200000 in
theorem zib (w:World)(B m X:Nat)(l:List Nmd)(en:Nat)(st:DeedV)(g:Option Nat)(h:PrS w B m X l en st g)(hm:m≤200)(h86:86≤m)(ht:TabP w):
  Calls Tryz.prog 34 #[.pointer (some ⟨X,0,none⟩)] w fun e w'=>PrP w B m X g (savF en st).1 l (savF en st).2.1 (savF en st).2.2 e w':=by
 have h0:=h
 obtain⟨S,D,hd,h1,h2,h3,h4,h5,h6⟩:=h
 cases st with
 | none=>
  have hx:SesB w X S (.pointer none):=h6
  refine(zka w X B S B D m hd l en hx h1 hm h86 ht h4).mono ?_
  rintro e w' ⟨D',b,rfl,-,hk,hok,-,hfr⟩
  obtain⟨rfl,hf'⟩:=hfr h2
  obtain⟨h',hp'⟩:=hok rfl
  exact⟨rfl,none,⟨S,D',h',hp',hf',h3,Nat.le_trans h4 hk.size,(fun i hi=>by cases hi),hx.keptS hk⟩,zbQ hk,(fun i hi=>by cases hi)⟩
 | some s=>
  obtain⟨os,made⟩:=s
  obtain⟨osC,h7,-,-⟩:=h6
  obtain⟨T,_,_,_,_,_,_,hs,-⟩:=h7
  refine(zkb w X S T hs).mono ?_
  rintro e w' ⟨rfl,hw⟩
  exact h0.same 11 rfl hw
set_option linter.unusedSimpArgs false in
set_option maxRecDepth 100000 in
set_option maxHeartbeats 3200000 in
theorem ze3 (w:World)(B m X:Nat)(l:List Nmd)(en:Nat)(st:DeedV)(g:Option Nat)(h:PrS w B m X l en st g)(hm:m≤200)(h86:86≤m)(ht:TabP w):
  Calls Tryz.prog 30 #[.pointer (some ⟨X,0,none⟩)] w fun e w'=>PrP w B m X g (cmtF m l en st).1 (cmtF m l en st).2.1 (cmtF m l en st).2.2.1 (cmtF m l en st).2.2.2 e w':=by
 have h0:=h
 obtain⟨S,D,hd,h1,h2,h3,h4,h5,h6⟩:=h
 cases st with
 | none=>
  have hx:SesB w X S (.pointer none):=h6
  refine(zj7 w X S hx).mono ?_
  rintro e w' ⟨rfl,hw⟩
  exact h0.same 11 rfl hw
 | some s=>
  obtain⟨os,made⟩:=s
  obtain⟨osC,h7,h8,h9⟩:=h6
  refine(zj8 w X B S B D m hd l en osC made h7.inP h1 h2 hm h86 ht h4 h9).mono ?_
  rintro e w' ⟨rfl,D',h',w1,hp',hf',hne,hz,hk,hb⟩
  rw [h8] at hp' hne hz ⊢
  have hi1:=h7.keptS hk
  obtain⟨T,_,_,_,_,_,_,hs1,-⟩:=id hi1
  refine⟨rfl,?_⟩
  show ∃ g',PrS w' B m X (comL l os m) (comN l os m en) (if comF l os m=0 then none else some (os,made)) g'∧_
  by_cases hc:comF l os m=0
  ·rw [if_pos hc]
   exact⟨none,⟨S,D',h',hp',hf',h3,Nat.le_trans h4 (Nat.le_trans hk.size hb.size),(fun i hi=>by cases hi),hz hc⟩,(zbQ hk).trans (zc2 hs1 h3 hb),(fun i hi=>by cases hi)⟩
  ·rw [if_neg hc]
   obtain rfl:=hne hc
   exact⟨g,⟨S,D',h',hp',hf',h3,Nat.le_trans h4 hk.size,fun i hi=>⟨(h5 i hi).1,Nat.lt_of_lt_of_le (h5 i hi).2 hk.size⟩,osC,hi1,h8,h9⟩,zbQ hk,fun i hi=>.inl hi⟩
set_option linter.unusedSimpArgs false in
set_option maxRecDepth 100000 in
set_option maxHeartbeats 3200000 in
theorem ze4 (w:World)(B m X:Nat)(l:List Nmd)(en:Nat)(st:DeedV)(g:Option Nat)(op:OpV)(vo:Option Addr)(vc:Nat)(h:PrS w B m X l en st g)(hm:m≤200)(h86:86≤m)(ht:TabP w)(hv:∀ W,KeptS B w W→RowS W (.slice vo op.v.length vc) op.v)(hvl:op.v.length≤20):
  Calls Tryz.prog 28 #[.pointer (some ⟨X,0,none⟩),.agg #[.int .i64 op.kind,.string op.name,.int .i64 op.n,.slice vo op.v.length vc]] w fun e w'=>PrP w B m X g (doF m l en op st).1 (doF m l en op st).2.1 (doF m l en op st).2.2.1 (doF m l en op st).2.2.2 e w':=by
 obtain⟨S,D,hd,h1,h2,h3,h4,h5,h6⟩:=h
 cases st with
 | none=>
  have hx:SesB w X S (.pointer none):=h6
  refine(zgL w X B S B D m hd l en op vo vc hx h1 hm h86 ht h4 hv hvl).mono ?_
  intro e w' hcm
  obtain⟨D',h',rfl,hp',hf',hk⟩:=hcm.free h2
  exact⟨rfl,none,⟨S,D',h',hp',hf',h3,Nat.le_trans h4 hk.size,(fun i hi=>by cases hi),hx.keptS hk⟩,zbQ hk,(fun i hi=>by cases hi)⟩
 | some s=>
  obtain⟨os,made⟩:=s
  obtain⟨osC,h7,h8,h9⟩:=h6
  refine(zgM w X B S g osC made op vo vc h7 h4 (hv w (KeptS.refl _ _)) hvl).mono ?_
  rintro e w' ⟨rfl,os',g',hi',hmap,⟨ex,hk,hlo,hty⟩,hg'⟩
  have hlen:osC.length=os.length:=by rw [← h8,List.length_map]
  have hst:StepX B (exP B g) w w':=.of_butE hk hlo fun b cs t fz hh hb=>by
   rcases hty b cs t fz hh hb with h | h
   ·exact⟨hlo b hb,.inr (.inl h)⟩
   ·exact⟨hlo b hb,.inr (.inr (.inr h))⟩
  have hDX:DeeX ex w:=fun b hb cs t fz hh=>(hty b cs t fz hh hb).imp id (fun h=>h.1)
  rw [hlen] at hi' hmap ⊢
  rw [h8] at hmap
  refine⟨rfl,g',⟨S,D,hd,h1.butE hk hDX,h2,h3,Nat.le_trans h4 hk.size,fun i hi=>?_,os',hi',hmap,fun q hq=>?_⟩,hst,hg'⟩
  ·obtain⟨T,oo,oc,_,_,_,_,-,-,hop,-,-,-,-,-,hown⟩:=hi'
   rcases hop.1.2 with⟨hn,-⟩ |⟨g2,cap,cur,e,hbg,hgg,-⟩
   ·rw [hn] at hown
    rw [← hown] at hi
    cases hi
   ·rw [e] at hown
    rw [← hown] at hi
    simp only [Value.ownBlock,Option.some.injEq] at hi
    subst hi
    exact⟨hbg,zd hgg⟩
  ·have hqm:q.o∈os'.map (·.o):=List.mem_map.2 ⟨q,hq,rfl⟩
   rw [hmap] at hqm
   have key:∀ z∈os,z.v.length≤20:=fun z hz=>by
    rw [← h8] at hz
    obtain⟨q',hq',rfl⟩:=List.mem_map.1 hz
    exact h9 q' hq'
   split at hqm
   ·rcases List.mem_append.1 hqm with h | h
    ·exact key _ h
    ·rw [List.mem_singleton] at h
     rw [h]
     exact hvl
   ·exact key _ hqm
end Go.Proofs.YtnhbfehfipafoaaGreatDoor
/- The reference's steps. -/
namespace Go.Proofs.YtnhbfehfipafoaaGreatDoor
open Go.RowKit
def RfP (wI w:World)(B Q M mn:Nat)(g:Option Nat)(f:Nat)(l:List Nmd)(us:Nat)(st:DeedV)(e:Ending)(w':World):Prop:=
 e=.returned (.int .i64 ((f:Nat):Int))∧∃ g',RfS wI w' B Q M mn l us st g'∧StepX B (exR B g) w w'∧∀ i,g'=some i→g=some i∨w.heap.size≤i
theorem RfS.same {wI w:World}{B Q M mn:Nat}{l:List Nmd}{us:Nat}{st:DeedV}{g:Option Nat}(h:RfS wI w B Q M mn l us st g)(f:Nat){e:Ending}{w':World}(he:e=.returned (.int .i64 ((f:Nat):Int)))(hw:w'=w):RfP wI w B Q M mn g f l us st e w':=by
 subst hw
 exact⟨he,g,h,.of_below (Below.refl _ _),fun i hi=>.inl hi⟩
theorem zbO {w w':World}{B Q M:Nat}{g:Option Nat}{b:Bool}{cv ov:Value}(x:RsB w Q M b cv ov)(hQ:B≤Q)(hk:ButB w.heap.size Q w w'):StepX B (exR B g) w w':=StepX.of_butB hk hQ fun cs t fz hh=>by
 rw [show w.heap[Q]?=_ from x] at hh
 simp only [Option.some.injEq,Obj.cells.injEq] at hh
 exact⟨hQ,.inl hh.2.1.symm⟩
theorem zbP {w w':World}{B M:Nat}{g:Option Nat}{v:Value}{us mn:Int}(x:RstB w M v us mn)(hM:B≤M)(hk:ButB w.heap.size M w w'):StepX B (exR B g) w w':=StepX.of_butB hk hM fun cs t fz hh=>by
 rw [show w.heap[M]?=_ from x] at hh
 simp only [Option.some.injEq,Obj.cells.injEq] at hh
 exact⟨hM,.inr (.inl hh.2.1.symm)⟩
theorem zY {w:World}{Q M M':Nat}{b:Bool}{cv ov v:Value}{us mn:Int}(x:RsB w Q M b cv ov)(y:RstB w M' v us mn):Q≠M':=fun e=>by
 subst e
 unfold RsB at x
 unfold RstB at y
 rw [x] at y
 simp only [Option.some.injEq,Obj.cells.injEq] at y
 exact absurd y.2.1 (by decide)
theorem RinG.later {wI W W':World}{base Q M:Nat}{g:Option Nat}{os:List OpC}{made:List Nmd}(h:RinG wI W base Q M g os made)(hb:Below W.heap.size W W'):RinG wI W' base Q M g os made:=by
 obtain⟨oo,on,oc,o,n,k,qs,h1,h2,h3,h4,h5,h6,h7,h8⟩:=h
 exact⟨oo,on,oc,o,n,k,qs,h1.later hb,h2.later hb,h3,h4,h5.below hb,h6,h7,h8⟩
theorem RinG.butB {wI W W':World}{base Q M:Nat}{g:Option Nat}{os:List OpC}{made:List Nmd}{v:Value}{us mn:Int}(h:RinG wI W base Q M g os made)(y:RstB W M v us mn)(hb:ButB W.heap.size M W W'):RinG wI W' base Q M g os made:=by
 obtain⟨oo,on,oc,o,n,k,qs,h1,h2,h3,h4,h5,h6,h7,h8⟩:=h
 refine⟨oo,on,oc,o,n,k,qs,hb.stays h1 (zY h1 y),h2.off (fun i hi=>?_),h3,h4,h5.keepK (zV y zZ hb),h6,h7,h8⟩
 obtain⟨hlt,-,cs,hcs⟩:=h2.lt hi
 refine hb.block i hlt (fun e=>?_)
 subst e
 rw [show W.heap[i]?=_ from y] at hcs
 simp only [Option.some.injEq,Obj.cells.injEq] at hcs
 exact absurd hcs.2.1 (by decide)
set_option linter.unusedSimpArgs false in
set_option maxRecDepth 100000 in
set_option maxHeartbeats 1600000 in
theorem zid (wI w:World)(B Q M mn:Nat)(l:List Nmd)(us:Nat)(st:DeedV)(g:Option Nat)(h:RfS wI w B Q M mn l us st g):
  Calls Tryz.prog 27 #[.pointer (some ⟨Q,0,none⟩)] w fun e w'=>RfP wI w B Q M mn g (begF l st).1 l us (begF l st).2 e w':=by
 have h0:=h
 obtain⟨so,sn,sk,qs,h1,h2,h3,h4,h5,h6,h7,h8,h9,h10⟩:=h
 cases st with
 | none=>
  obtain⟨cv,ov,hx⟩:=h10
  refine(zim w Q M cv ov hx so sn sk _ _ h1).mono ?_
  rintro e w' ⟨rfl,hx',hk⟩
  have hy:=hk.stays h1 (zY hx h1).symm
  have hc:=h2.keepK (zV hx zag hk)
  exact⟨rfl,none,⟨so,sn,sk,qs,hy,hc,h3,h4,h5,h6,h7,Nat.le_trans h8 hk.size,(fun i hi=>by cases hi),[],⟨none,0,0,so,sn,sk,qs,hx',zhY _ _ _,rfl,by omega,hc,h3,h4,rfl⟩,rfl,fun q hq=>by cases hq⟩,zbO hx h6 hk,(fun i hi=>by cases hi)⟩
 | some s=>
  obtain⟨os,made⟩:=s
  obtain⟨osC,hi,hm,hv20⟩:=h10
  obtain⟨oo,on,oc,o,n,k,ps,hx,ho,hl,h12,hc,hq,hok,hg⟩:=id hi
  refine(zin w Q M _ _ hx).mono ?_
  rintro e w' ⟨rfl,hw⟩
  exact h0.same 11 rfl hw
set_option linter.unusedSimpArgs false in
set_option maxRecDepth 100000 in
set_option maxHeartbeats 1600000 in
theorem zic (wI w:World)(B Q M mn:Nat)(l:List Nmd)(us:Nat)(st:DeedV)(g:Option Nat)(h:RfS wI w B Q M mn l us st g):
  Calls Tryz.prog 33 #[.pointer (some ⟨Q,0,none⟩)] w fun e w'=>RfP wI w B Q M mn g (abtF st).1 l us (abtF st).2 e w':=by
 have h0:=h
 obtain⟨so,sn,sk,qs,h1,h2,h3,h4,h5,h6,h7,h8,h9,h10⟩:=h
 cases st with
 | none=>
  obtain⟨cv,ov,hx⟩:=h10
  refine(zii w Q M cv ov hx).mono ?_
  rintro e w' ⟨rfl,hw⟩
  exact h0.same 11 rfl hw
 | some s=>
  obtain⟨os,made⟩:=s
  obtain⟨osC,hi,hm,hv20⟩:=h10
  obtain⟨oo,on,oc,o,n,k,ps,hx,ho,hl,h12,hc,hq,hok,hg⟩:=id hi
  refine(zij w Q M _ _ hx).mono ?_
  rintro e w' ⟨rfl,hx',hk⟩
  exact⟨rfl,none,⟨so,sn,sk,qs,hk.stays h1 (zY hx h1).symm,h2.keepK (zV hx zag hk),h3,h4,h5,h6,h7,Nat.le_trans h8 hk.size,(fun i hi=>by cases hi),_,_,hx'⟩,zbO hx h6 hk,(fun i hi=>by cases hi)⟩
set_option linter.unusedSimpArgs false in
set_option maxRecDepth 100000 in
set_option maxHeartbeats 1600000 in
theorem zig (wI w:World)(B Q M mn:Nat)(l:List Nmd)(us:Nat)(st:DeedV)(g:Option Nat)(h:RfS wI w B Q M mn l us st g):
  Calls Tryz.prog 35 #[.pointer (some ⟨Q,0,none⟩)] w fun e w'=>RfP wI w B Q M mn g (savF us st).1 l (savF us st).2.1 (savF us st).2.2 e w':=by
 have h0:=h
 obtain⟨so,sn,sk,qs,h1,h2,h3,h4,h5,h6,h7,h8,h9,h10⟩:=h
 cases st with
 | none=>
  obtain⟨cv,ov,hx⟩:=h10
  refine(ziC w Q M cv ov hx _ _ _ h1).mono ?_
  rintro e w' ⟨rfl,hy,hk⟩
  exact⟨rfl,none,⟨so,sn,sk,qs,hy,h2.keepK (zV h1 zZ hk),h3,h4,Nat.zero_le _,h6,h7,Nat.le_trans h8 hk.size,(fun i hi=>by cases hi),cv,ov,hk.stays hx (zY hx h1)⟩,zbP h1 h7 hk,(fun i hi=>by cases hi)⟩
 | some s=>
  obtain⟨os,made⟩:=s
  obtain⟨osC,hi,hm,hv20⟩:=h10
  obtain⟨oo,on,oc,o,n,k,ps,hx,ho,hl,h12,hc,hq,hok,hg⟩:=id hi
  refine(ziD w Q M _ _ hx).mono ?_
  rintro e w' ⟨rfl,hw⟩
  exact h0.same 11 rfl hw
theorem zb6 {l:List Nmd}{os:List OpV}{m:Nat}(h:CatOk l):CatOk (comL l os m):=by
 unfold comL
 split
 ·rename_i h0
  refine za9 h os ?_
  unfold comF at h0
  split at h0
  ·cases h0
  ·split at h0
   ·rename_i h1
    exact absurd h0 h1
   ·rename_i h1
    exact Classical.not_not.1 h1
 ·exact h
set_option linter.unusedSimpArgs false in
set_option maxRecDepth 100000 in
set_option maxHeartbeats 1600000 in
theorem zif (wI w:World)(B Q M mn:Nat)(l:List Nmd)(us:Nat)(st:DeedV)(g:Option Nat)(h:RfS wI w B Q M mn l us st g)(hmn:mn≤1000)(hw:Below wI.heap.size wI w)(op:OpV)(vo:Option Addr)(vc:Nat)(hv:RowS wI (.slice vo op.v.length vc) op.v)(hvl:op.v.length≤20):
  Calls Tryz.prog 29 #[.pointer (some ⟨Q,0,none⟩),.agg #[.int .i64 op.kind,.string op.name,.int .i64 op.n,.slice vo op.v.length vc]] w fun e w'=>RfP wI w B Q M mn g (doF (mn+82) l us op st).1 (doF (mn+82) l us op st).2.1 (doF (mn+82) l us op st).2.2.1 (doF (mn+82) l us op st).2.2.2 e w':=by
 have h0:=h
 obtain⟨so,sn,sk,qs,h1,h2,h3,h4,h5,h6,h7,h8,h9,h10⟩:=h
 cases st with
 | none=>
  obtain⟨cv,ov,hx⟩:=h10
  clear h0
  refine(zir w Q M cv ov _ us mn qs l op vo vc hx h1 h2 h3 h4 h5 hmn (hv.below hw (Nat.le_refl _)) hvl).mono ?_
  intro e w' hr
  obtain⟨rfl,o',n',k',qs',hy,hc,hq,hk⟩:=hr.both h2 h3
  have hle:=zdK (l:=l) (os:=[op]) (m:=mn+82) (en:=us) (by omega)
  exact⟨rfl,none,⟨o',n',k',qs',hy,hc,hq,zb6 h4,by simpa [doF] using hle,h6,h7,Nat.le_trans h8 hk.size,(fun i hi=>by cases hi),cv,ov,hk.stays hx (zY hx h1)⟩,zbP h1 h7 hk,(fun i hi=>by cases hi)⟩
 | some s=>
  obtain⟨os,made⟩:=s
  obtain⟨osC,hi,hm,hv20⟩:=h10
  obtain⟨oo,on,oc,o,n,k,ps,hx,ho,hl,h12,hc,hq,hok,hg⟩:=id hi
  clear h0
  refine(zis wI w B Q M g osC made op vo vc hi h8 hw hv hvl).mono ?_
  rintro e w' ⟨rfl,os',g',hi',hmap,hk,hg'⟩
  have hlen:osC.length=os.length:=by rw [← hm,List.length_map]
  rw [hlen] at hi' hmap ⊢
  rw [hm] at hmap
  have hex:∀ b cs t fz,w.heap[b]?=some (.cells cs t fz)→(b=Q∨g=some b)→B≤b∧(t=64∨t=39∨(t=43∧g=some b)):=fun b cs t fz hh hb=>by
   rcases hb with rfl | hb
   ·rw [show w.heap[b]?=_ from hx] at hh
    simp only [Option.some.injEq,Obj.cells.injEq] at hh
    exact⟨h6,.inl hh.2.1.symm⟩
   ·obtain⟨-,hlo,cs',hcs⟩:=ho.lt (hg.trans hb)
    rw [hcs] at hh
    simp only [Option.some.injEq,Obj.cells.injEq] at hh
    exact⟨hlo,.inr (.inr ⟨hh.2.1.symm,hb⟩)⟩
  have hlow:∀ b,(b=Q∨g=some b)→B≤b:=fun b hb=>by
   rcases hb with rfl | hb
   ·exact h6
   ·exact(ho.lt (hg.trans hb)).2.1
  have hst:StepX B (exR B g) w w':=.of_butE hk hlow fun b cs t fz hh hb=>hex b cs t fz hh hb
  refine⟨rfl,g',⟨so,sn,sk,qs,hk.stays h1 (fun e=>?_),h2.keepK (hst.keepK fun b t e=>zbl e),h3,h4,h5,h6,h7,Nat.le_trans h8 hk.size,fun i hi2=>?_,os',hi',hmap,fun q hq=>?_⟩,hst,fun i hi2=>?_⟩
  ·rcases e with e | e
   ·exact zY hx h1 e.symm
   ·obtain⟨-,-,cs',hcs⟩:=ho.lt (hg.trans e)
    rw [show w.heap[M]?=_ from h1] at hcs
    simp only [Option.some.injEq,Obj.cells.injEq] at hcs
    exact absurd hcs.2.1 (by decide)
  ·obtain⟨_,_,_,_,_,_,_,-,hop,-,-,-,-,-,hown⟩:=hi'
   exact(hop.lt (hown.trans hi2)).1
  ·have hqm:q.o∈os'.map (·.o):=List.mem_map.2 ⟨q,hq,rfl⟩
   rw [hmap] at hqm
   have key:∀ z∈os,z.v.length≤20:=fun z hz=>by
    rw [← hm] at hz
    obtain⟨q',hq',rfl⟩:=List.mem_map.1 hz
    exact hv20 q' hq'
   split at hqm
   ·rcases List.mem_append.1 hqm with h | h
    ·exact key _ h
    ·rw [List.mem_singleton] at h
     rw [h]
     exact hvl
   ·exact key _ hqm
  ·rcases hg' with e | e
   ·exact .inl (e.symm.trans hi2)
   ·exact .inr (e i hi2)
set_option linter.unusedSimpArgs false in
set_option maxRecDepth 100000 in
set_option maxHeartbeats 1600000 in
theorem zie (wI w:World)(B Q M mn:Nat)(l:List Nmd)(us:Nat)(st:DeedV)(g:Option Nat)(h:RfS wI w B Q M mn l us st g)(hmn:mn≤1000)(hw:Below wI.heap.size wI w):
  Calls Tryz.prog 31 #[.pointer (some ⟨Q,0,none⟩)] w fun e w'=>RfP wI w B Q M mn g (cmtF (mn+82) l us st).1 (cmtF (mn+82) l us st).2.1 (cmtF (mn+82) l us st).2.2.1 (cmtF (mn+82) l us st).2.2.2 e w':=by
 have h0:=h
 obtain⟨so,sn,sk,qs,h1,h2,h3,h4,h5,h6,h7,h8,h9,h10⟩:=h
 cases st with
 | none=>
  obtain⟨cv,ov,hx⟩:=h10
  refine(zio w Q M cv ov hx).mono ?_
  rintro e w' ⟨rfl,hw⟩
  exact h0.same 11 rfl hw
 | some s=>
  obtain⟨os,made⟩:=s
  obtain⟨osC,hi,hm,hv20⟩:=h10
  obtain⟨oo,on,oc,o,n,k,ps,hx,ho,hl,h12,hc,hq,hok,hg⟩:=id hi
  clear h0
  refine(zip w Q M _ _ _ us mn qs l osC os hx h1 h2 h3 h4 h5 hmn (ho.read hw) hv20 (by omega) hm).mono ?_
  rintro e w' ⟨rfl,w1,hr,hx1,hw'⟩
  obtain⟨-,o',n',k',qs',hy,hcc,hqq,hk⟩:=hr.both h2 h3
  have hle:=zdK (l:=l) (os:=os) (m:=mn+82) (en:=us) (by omega)
  have hle':comN l os (mn+82) us≤mn:=by omega
  refine⟨rfl,?_⟩
  show ∃ g',RfS wI w' B Q M mn (comL l os (mn+82)) (comN l os (mn+82) us) (if comF l os (mn+82)=0 then none else some (os,made)) g'∧_
  unfold offQ at hw'
  by_cases hc0:comF l os (mn+82)=0
  ·rw [if_pos hc0] at hw' ⊢
   subst hw'
   have hk2:ButB w1.heap.size Q w1 (w1.setCell ⟨Q,1,none⟩ (.bool false)):=(ButB.of (Below.refl _ _)).set 1 _
   exact⟨none,⟨o',n',k',qs',hk2.stays hy (zY hx1 hy).symm,hcc.keepK (zV hx1 zag hk2),hqq,zb6 h4,hle',h6,h7,Nat.le_trans h8 (Nat.le_trans hk.size hk2.size),(fun i hi=>by cases hi),_,_,hx1.set1 false⟩,(zbP h1 h7 hk).trans (zbO hx1 h6 hk2),(fun i hi=>by cases hi)⟩
  ·rw [if_neg hc0] at hw' ⊢
   subst hw'
   exact⟨g,⟨o',n',k',qs',hy,hcc,hqq,zb6 h4,hle',h6,h7,Nat.le_trans h8 hk.size,fun i hi2=>Nat.lt_of_lt_of_le (h9 i hi2) hk.size,osC,hi.butB h1 hk,hm,hv20⟩,zbP h1 h7 hk,fun i hi=>.inl hi⟩
end Go.Proofs.YtnhbfehfipafoaaGreatDoor
/- What is committed is there when it is opened again; a fault's number. -/
namespace Go.Proofs.YtnhbfehfipafoaaGreatDoor
open Go.RowKit
def opB1:OpV:=⟨1,⟨#[97]⟩,1,[]⟩
theorem StoM.kept {W W':World}{base base' S B m:Nat}{h:Hd}{l:List Nmd}{en:Nat}(x:StoM W base S B m h l en)(hk:Kept base' W W'):StoM W' base S B m h l en:=by
 obtain⟨L,o,n,c,qs,x1,x2,x3,x4,x5,x6⟩:=x
 exact⟨L,o,n,c,qs,x1.kept hk,x2.keepK (zhe hk),x3,x4.kept hk,x5,x6⟩
end Go.Proofs.YtnhbfehfipafoaaGreatDoor
