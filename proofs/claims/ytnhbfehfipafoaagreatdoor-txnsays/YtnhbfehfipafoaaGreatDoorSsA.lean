import Derived.Test.YtnhbfehfipafoaaGreatDoorSrX
namespace Go.Proofs.YtnhbfehfipafoaaGreatDoor
open Go.RowKit
theorem OpBx.new (W:World)(k:Int)(s:ByteArray)(n:Int)(v:Value):OpBx (W.alloc (.cells #[.int .i64 k,.string s,.int .i64 n,v] 43)) W.heap.size k s n v:=heap_alloc_new W _
theorem zeT {W:World}{B:Nat}{k n:Int}{s:ByteArray}{vs:List Int}{vo:Option Addr}{vc:Nat}(x:OpBx W B k s n (.slice vo vs.length vc))(hr:RowS W (.slice vo vs.length vc) vs):OpsN W (.slice (some ⟨B,0,none⟩) 1 1) [⟨⟨k,s,n,vs⟩,vo,vc⟩]:=by
 obtain⟨c0,c1,c2,c3,-⟩:=x.cells
 refine⟨_,1,rfl,Nat.le_refl _,fun _=>⟨B,0,rfl,zd (show W.heap[B]?=_ from x),fun i q hq=>?_⟩⟩
 match i,hq with
 | 0,hq=>
  simp only [List.getElem?_cons_zero,Option.some.injEq] at hq
  subst hq
  exact⟨c0,c1,c2,c3,hr⟩
theorem OpBx.keptS {W W':World}{base B:Nat}{k n:Int}{s:ByteArray}{v:Value}(x:OpBx W B k s n v)(hk:KeptS base W W'):OpBx W' B k s n v:=hk.stays x zcD
theorem SesB.keptS {W W':World}{base X S:Nat}{v:Value}(x:SesB W X S v)(hk:KeptS base W W'):SesB W' X S v:=hk.stays x za1
theorem DeeB.keptS {W W':World}{base T:Nat}{u v:Value}(x:DeeB W T u v)(hk:KeptS base W W'):DeeB W' T u v:=hk.stays x zgH
theorem zkh:¬ stoT 3:=by unfold stoT logT diskT;decide
theorem OpsT.keptS {W W':World}{base C:Nat}{v:Value}{os:List OpC}(h:OpsT C W v os)(hk:KeptS base W W'):OpsT C W' v os:=h.keep fun b cs t fz hx ht=>by
 rw [hk.stays hx ?_,hx]
 rcases ht with rfl | rfl | rfl <;>(unfold stoT logT diskT;decide)
theorem CmP.ret {w w':World}{base S B:Nat}{D:Dsk}{m:Nat}{l:List Nmd}{en:Nat}{os:List OpV}{e:Ending}(h:CmP w base S B D m l en os e w'):∃ v,e=.returned v∧CmP w base S B D m l en os (.returned v) w':=by
 rcases id h with⟨⟨-,rfl,-⟩ |⟨-,D',b,rfl,-⟩,-⟩
 ·exact⟨_,rfl,h⟩
 ·exact⟨_,rfl,h⟩
theorem CmP.later {w0 w w':World}{base S B:Nat}{D:Dsk}{m:Nat}{l:List Nmd}{en:Nat}{os:List OpV}{e:Ending}(h:CmP w base S B D m l en os e w')(hb:Below w0.heap.size w0 w):CmP w0 base S B D m l en os e w':=⟨h.1,(KeptS.of_below hb).trans h.2⟩
set_option linter.unusedSimpArgs false in
set_option maxRecDepth 100000 in
set_option maxHeartbeats 3200000 in
theorem zgL (w:World)(X base S B:Nat)(D:Dsk)(m:Nat)(h:Hd)(l:List Nmd)(en:Nat)(ov:OpV)(vo:Option Addr)(vc:Nat)(x:SesB w X S (.pointer none))(hp:StoreP w base S B D m h l en)(hm:m≤200)(h86:86≤m)(ht:TabP w)(hbase:base≤w.heap.size)
  (hv:∀ W,KeptS base w W→RowS W (.slice vo ov.v.length vc) ov.v) (hvl:ov.v.length≤20):
  Calls Tryz.prog 28 #[.pointer (some ⟨X,0,none⟩),.agg #[.int .i64 ov.kind,.string ov.name,.int .i64 ov.n,.slice vo ov.v.length vc]] w fun e w'=>CmP w base S B D m l en [ov] e w':=by
 obtain⟨kd,nm,nn,vs⟩:=ov
 dsimp only at hv hvl ⊢
 have hb1:=zc w (.cells #[.int .i64 kd,.string nm,.int .i64 nn,.slice vo vs.length vc] 43)
 have hB1:=OpBx.new w kd nm nn (.slice vo vs.length vc)
 have hX1:=x.later hb1
 have hb0:=hb1.trans (((Below.refl _ _).drew:Below (w.alloc (.cells #[.int .i64 kd,.string nm,.int .i64 nn,.slice vo vs.length vc] 43)).heap.size (w.alloc (.cells #[.int .i64 kd,.string nm,.int .i64 nn,.slice vo vs.length vc] 43)) (w.alloc (.cells #[.int .i64 kd,.string nm,.int .i64 nn,.slice vo vs.length vc] 43)).drew).mono hb1.size)
 have hB0:OpBx (w.alloc (.cells #[.int .i64 kd,.string nm,.int .i64 nn,.slice vo vs.length vc] 43)).drew w.heap.size kd nm nn (.slice vo vs.length vc):=hB1
 have hX0:SesB (w.alloc (.cells #[.int .i64 kd,.string nm,.int .i64 nn,.slice vo vs.length vc] 43)).drew X S (.pointer none):=hX1
 have hb7:=zc (w.alloc (.cells #[.int .i64 kd,.string nm,.int .i64 nn,.slice vo vs.length vc] 43)).drew (.cells #[.int .i64 kd,.string nm,.int .i64 nn,.slice vo vs.length vc] 43)
 have HB7:=hide (hb0.trans (hb7.mono hb0.size))
 have hN7:=OpBx.new (w.alloc (.cells #[.int .i64 kd,.string nm,.int .i64 nn,.slice vo vs.length vc] 43)).drew kd nm nn (.slice vo vs.length vc)
 have HCM:=hide (zdL ((w.alloc (.cells #[.int .i64 kd,.string nm,.int .i64 nn,.slice vo vs.length vc] 43)).drew.alloc (.cells #[.int .i64 kd,.string nm,.int .i64 nn,.slice vo vs.length vc] 43)) base S B D m h l en (.slice (some ⟨(w.alloc (.cells #[.int .i64 kd,.string nm,.int .i64 nn,.slice vo vs.length vc] 43)).drew.heap.size,0,none⟩) 1 1) [⟨⟨kd,nm,nn,vs⟩,vo,vc⟩] (hp.later HB7.out) hm h86 (ht.below HB7.out) (Nat.le_trans hbase HB7.out.size)
  (fun W hk=>zeT (hN7.keptS hk) (hv W ((KeptS.of_below HB7.out).trans hk))) (fun q hq=>by rw [List.mem_singleton] at hq;subst hq;exact hvl) (by show 1≤1000000;decide) [⟨kd,nm,nn,vs⟩] rfl)
 have hS0:(w.alloc (.cells #[.int .i64 kd,.string nm,.int .i64 nn,.slice vo vs.length vc] 43)).drew.cell? ⟨X,0,none⟩=some (.pointer (some ⟨S,0,none⟩))∧(w.alloc (.cells #[.int .i64 kd,.string nm,.int .i64 nn,.slice vo vs.length vc] 43)).drew.cell? ⟨w.heap.size,0,none⟩=some (.int .i64 kd)∧(w.alloc (.cells #[.int .i64 kd,.string nm,.int .i64 nn,.slice vo vs.length vc] 43)).drew.cell? ⟨w.heap.size,1,none⟩=some (.string nm)∧(w.alloc (.cells #[.int .i64 kd,.string nm,.int .i64 nn,.slice vo vs.length vc] 43)).drew.cell? ⟨w.heap.size,2,none⟩=some (.int .i64 nn)∧(w.alloc (.cells #[.int .i64 kd,.string nm,.int .i64 nn,.slice vo vs.length vc] 43)).drew.cell? ⟨w.heap.size,3,none⟩=some (.slice vo vs.length vc):=⟨hX0.cells.1,hB0.cells.1,hB0.cells.2.1,hB0.cells.2.2.1,hB0.cells.2.2.2.1⟩
 have hS7:Hid (((w.alloc (.cells #[.int .i64 kd,.string nm,.int .i64 nn,.slice vo vs.length vc] 43)).drew.alloc (.cells #[.int .i64 kd,.string nm,.int .i64 nn,.slice vo vs.length vc] 43)).cell? ⟨X,0,none⟩=some (.pointer (some ⟨S,0,none⟩))∧((w.alloc (.cells #[.int .i64 kd,.string nm,.int .i64 nn,.slice vo vs.length vc] 43)).drew.alloc (.cells #[.int .i64 kd,.string nm,.int .i64 nn,.slice vo vs.length vc] 43)).cell? ⟨w.heap.size,0,none⟩=some (.int .i64 kd)∧((w.alloc (.cells #[.int .i64 kd,.string nm,.int .i64 nn,.slice vo vs.length vc] 43)).drew.alloc (.cells #[.int .i64 kd,.string nm,.int .i64 nn,.slice vo vs.length vc] 43)).cell? ⟨w.heap.size,1,none⟩=some (.string nm)∧((w.alloc (.cells #[.int .i64 kd,.string nm,.int .i64 nn,.slice vo vs.length vc] 43)).drew.alloc (.cells #[.int .i64 kd,.string nm,.int .i64 nn,.slice vo vs.length vc] 43)).cell? ⟨w.heap.size,2,none⟩=some (.int .i64 nn)∧((w.alloc (.cells #[.int .i64 kd,.string nm,.int .i64 nn,.slice vo vs.length vc] 43)).drew.alloc (.cells #[.int .i64 kd,.string nm,.int .i64 nn,.slice vo vs.length vc] 43)).cell? ⟨w.heap.size,3,none⟩=some (.slice vo vs.length vc)):=⟨(hX0.later hb7).cells.1,(hB0.later hb7).cells.1,(hB0.later hb7).cells.2.1,(hB0.later hb7).cells.2.2.1,(hB0.later hb7).cells.2.2.2.1⟩
 have X1:=hide hX1
 clear x hp ht hbase hv hvl hb1 hB1 hX1 hb0 hB0 hX0 hb7 hN7
 go_enter Tryz.func28,Tryz.ntmps28
 go_wp2_with fail
 generalize w.alloc (.cells #[.int .i64 kd,.string nm,.int .i64 nn,.slice vo vs.length vc] 43)=w1 at *
 refine(zr w1 X S _ false X1.out (.inl ⟨rfl,rfl⟩)).mono ?_
 rintro e w2 ⟨rfl,hw2⟩
 subst hw2
 clear X1
 go_wp2_with fail
 refine zo (A:=fun j=>decide (j < 6)) (S:=(fun w'=>w'.cell? ⟨X,0,none⟩=some (.pointer (some ⟨S,0,none⟩))∧w'.cell? ⟨w.heap.size,0,none⟩=some (.int .i64 kd)∧w'.cell? ⟨w.heap.size,1,none⟩=some (.string nm)∧w'.cell? ⟨w.heap.size,2,none⟩=some (.int .i64 nn)∧w'.cell? ⟨w.heap.size,3,none⟩=some (.slice vo vs.length vc))) (by kernel_rfl) (by exact hS0) (fun hHeld=>?_)
 refine zb (v:=?_) 0 8 [1,2,3,6,7] rfl rfl (by kernel_rfl) (by kernel_rfl) (by kernel_rfl) (by kernel_rfl) (fun _ _ _ h=>h) (by rfl) ?_ (by assumption) ?_
 rotate_left
 ·(intro w hSw;(try dsimp only at hSw);go_simp;with_reducible rfl)
 simp only [Act.put,List.setIfInBounds_toArray,List.set_cons_zero,List.set_cons_succ]
 refine zb (v:=?_) 1 9 [2,3,6,7] rfl rfl (by kernel_rfl) (by kernel_rfl) (by kernel_rfl) (by kernel_rfl) (fun _ _ _ h=>h) (by rfl) ?_ (by assumption) ?_
 rotate_left
 ·(intro w hSw;(try dsimp only at hSw);go_simp;with_reducible rfl)
 simp only [Act.put,List.setIfInBounds_toArray,List.set_cons_zero,List.set_cons_succ]
 refine zb (v:=?_) 2 10 [3,6,7] rfl rfl (by kernel_rfl) (by kernel_rfl) (by kernel_rfl) (by kernel_rfl) (fun _ _ _ h=>h) (by rfl) ?_ (by assumption) ?_
 rotate_left
 ·(intro w hSw;(try dsimp only at hSw);go_simp;with_reducible rfl)
 simp only [Act.put,List.setIfInBounds_toArray,List.set_cons_zero,List.set_cons_succ]
 refine zb (v:=?_) 3 11 [6,7] rfl rfl (by kernel_rfl) (by kernel_rfl) (by kernel_rfl) (by kernel_rfl) (fun _ _ _ h=>h) (by rfl) ?_ (by assumption) ?_
 rotate_left
 ·(intro w hSw;(try dsimp only at hSw);go_simp;with_reducible rfl)
 simp only [Act.put,List.setIfInBounds_toArray,List.set_cons_zero,List.set_cons_succ]
 refine zb (v:=?_) 4 12 [5,6,7] rfl rfl (by kernel_rfl) (by kernel_rfl) (by kernel_rfl) (by kernel_rfl) (fun _ _ _ h=>h) (by rfl) ?_ (by assumption) ?_
 rotate_left
 ·(intro w hSw;(try dsimp only at hSw);go_simp;with_reducible rfl)
 simp only [Act.put,List.setIfInBounds_toArray,List.set_cons_zero,List.set_cons_succ]
 clear hS0
 generalize w2.drew=w0 at *
 refine ze 5 (by kernel_rfl) rfl (fun K hK=>?_)
 go_simp
 refine hK.out _ _ (fun _=>hS7.out) ?_
 clear hK K
 try simp only [Act.put,List.setIfInBounds_toArray,List.set_cons_zero,List.set_cons_succ]
 clear hHeld
 refine ze 6 (by kernel_rfl) rfl (fun K hK=>?_)
 go_simp
 refine HCM.out.mono ?_
 rintro e w9 hcm
 obtain⟨ev,rfl,hcm⟩:=CmP.ret hcm
 have HFIN:=hide (hcm.later HB7.out)
 clear hcm HCM hS7 HB7
 refine hK.out _ _ (fun h=>absurd h (by decide)) ?_
 clear hK K
 try simp only [Act.put,List.setIfInBounds_toArray,List.set_cons_zero,List.set_cons_succ]
 refine ze 7 (by kernel_rfl) rfl (fun K hK=>?_)
 go_simp
 refine hK.out _ _ (fun h=>absurd h (by decide)) ?_
 clear hK K
 try simp only [Act.put,List.setIfInBounds_toArray,List.set_cons_zero,List.set_cons_succ]
 refine zm (by kernel_rfl) ?_
 go_wp2
 go_ret
 exact HFIN.out
def InP (W:World)(base X S:Nat)(os:List OpC)(made:List Nmd):Prop:=
 ∃ T oo on oc o n k qs,SesB W X S (.pointer (some ⟨T,0,none⟩))∧DeeB W T (.slice oo on oc) (.slice o n k)∧OpsT base W (.slice oo on oc) os∧os.length=on∧on≤12∧CatN W (.slice o n k) qs∧qs.map (·.x)=made∧CatOk made∧base≤T
theorem InP.later {W W':World}{base X S:Nat}{os:List OpC}{made:List Nmd}(h:InP W base X S os made)(hb:Below W.heap.size W W'):InP W' base X S os made:=by
 obtain⟨T,oo,on,oc,o,n,k,qs,h1,h2,h3,h4,h5,h6,h7,h8,h9⟩:=h
 exact⟨T,oo,on,oc,o,n,k,qs,h1.later hb,h2.later hb,h3.later hb,h4,h5,h6.below hb,h7,h8,h9⟩
theorem InP.keptS {W W':World}{base C X S:Nat}{os:List OpC}{made:List Nmd}(h:InP W base X S os made)(hk:KeptS C W W'):InP W' base X S os made:=by
 obtain⟨T,oo,on,oc,o,n,k,qs,h1,h2,h3,h4,h5,h6,h7,h8,h9⟩:=h
 exact⟨T,oo,on,oc,o,n,k,qs,h1.keptS hk,h2.keptS hk,h3.keptS hk,h4,h5,h6.keepK (zbo hk),h7,h8,h9⟩
theorem zdV {W:World}{base T:Nat}{oo:Option Addr}{on oc:Nat}{cv:Value}{os:List OpC}(ht:DeeB W T (.slice oo on oc) cv)(ho:OpsT base W (.slice oo on oc) os):DeeX (fun b=>b=T∨(Value.slice oo on oc).ownBlock=some b) W:=fun b hb cs t fz hx=>by
 rcases hb with rfl | hb
 ·rw [show W.heap[b]?=_ from ht] at hx
  simp only [Option.some.injEq,Obj.cells.injEq] at hx
  exact .inl hx.2.1.symm
 ·rcases ho.1.2 with⟨hn,-⟩ |⟨g,cap,cur,e,-,hg,-⟩
  ·rw [hn] at hb;cases hb
  ·rw [e] at hb
   simp only [Value.ownBlock,Option.some.injEq] at hb
   rw [← hb,hg] at hx
   simp only [Option.some.injEq,Obj.cells.injEq] at hx
   exact .inr hx.2.1.symm
def DonP (w:World)(base X S:Nat)(os:List OpC)(made:List Nmd)(o:OpV)(w':World):Prop:=
 ∃ os',InP w' base X S os' (if addO made os.length o=0 then (applyC made o).2 else made)∧os'.map (·.o)=(if addO made os.length o=0 then os.map (·.o) ++ [o] else os.map (·.o))∧∃ ex,ButE ex w w'∧DeeX ex w∧∀ b,ex b→base≤b
end Go.Proofs.YtnhbfehfipafoaaGreatDoor
/- A session's deed is committed. -/
namespace Go.Proofs.YtnhbfehfipafoaaGreatDoor
open Go.RowKit
set_option linter.unusedSimpArgs false in
set_option maxRecDepth 100000 in
set_option maxHeartbeats 3200000 in
theorem zj7 (w:World)(X S:Nat)(x:SesB w X S (.pointer none)):
  Calls Tryz.prog 30 #[.pointer (some ⟨X,0,none⟩)] w fun e w'=>e=.returned (errno 11)∧w'=w:=by
 have X1:=hide x
 clear x
 go_enter Tryz.func30,Tryz.ntmps30
 go_wp2_with fail
 refine(zr w X S _ false X1.out (.inl ⟨rfl,rfl⟩)).mono ?_
 rintro e w2 ⟨rfl,hw2⟩
 subst hw2
 clear X1
 go_wp2
 go_ret
 exact⟨rfl,rfl⟩
theorem StoreP.setSes {W:World}{base S B:Nat}{D:Dsk}{m:Nat}{h:Hd}{l:List Nmd}{en X:Nat}{dv:Value}(p:StoreP W base S B D m h l en)(x:SesB W X S dv)(v:Value):StoreP (W.setCell ⟨X,1,none⟩ v) base S B D m h l en:=
 p.but x za1 za0 ((ButB.of (C:=W.heap.size) (b:=X) (Below.refl _ _)).set 1 v)
theorem DiskO.setSes {W:World}{base S B:Nat}{D:Dsk}{X:Nat}{dv:Value}(p:DiskO W base B D)(x:SesB W X S dv)(v:Value):DiskO (W.setCell ⟨X,1,none⟩ v) base B D:=
 p.but x (fun h=>za1 (.inl (.inl h))) ((ButB.of (C:=W.heap.size) (b:=X) (Below.refl _ _)).set 1 v)
def XcmP (w:World)(base X S B:Nat)(m:Nat)(l:List Nmd)(en:Nat)(os:List OpC)(e:Ending)(w':World):Prop:=
 e=.returned (errV (comF l (os.map (·.o)) m))∧∃ D' h' w1,StoreP w' base S B D' m h' (comL l (os.map (·.o)) m) (comN l (os.map (·.o)) m en)∧Free D' ∧
  (comF l (os.map (·.o)) m≠0→w'=w1)∧(comF l (os.map (·.o)) m=0→SesB w' X S (.pointer none))∧KeptS base w w1∧ButB w1.heap.size X w1 w'
set_option linter.unusedSimpArgs false in
set_option maxRecDepth 100000 in
set_option maxHeartbeats 3200000 in
theorem zj8 (w:World)(X base S B:Nat)(D:Dsk)(m:Nat)(h:Hd)(l:List Nmd)(en:Nat)(os:List OpC)(made:List Nmd)(x:InP w base X S os made)(hp:StoreP w base S B D m h l en)(hfree:Free D)(hm:m≤200)(h86:86≤m)(ht:TabP w)(hbase:base≤w.heap.size)(hv20:∀ q∈os,q.o.v.length≤20):
  Calls Tryz.prog 30 #[.pointer (some ⟨X,0,none⟩)] w fun e w'=>XcmP w base X S B m l en os e w':=by
 obtain⟨T,oo,on,oc,o,n,k,qs,hx,hd,ho,hl,h12',hc,hq,hok,hT⟩:=id x
 have HIN:=hide x;have HFR:=hide hfree
 have hb0:Below w.heap.size w w.drew:=(Below.refl _ _).drew
 have HCM:=hide (zdL w.drew base S B D m h l en (.slice oo on oc) os (hp.later hb0) hm h86 (ht.below hb0) (Nat.le_trans hbase hb0.size) (fun W hk=>((ho.later hb0).keptS hk).read) hv20 (by omega) (os.map (·.o)) rfl)
 have hS0:w.drew.cell? ⟨X,0,none⟩=some (.pointer (some ⟨S,0,none⟩))∧w.drew.cell? ⟨X,1,none⟩=some (.pointer (some ⟨T,0,none⟩))∧w.drew.cell? ⟨T,0,none⟩=some (.slice oo on oc):=⟨(hx.later hb0).cells.1,(hx.later hb0).cells.2.1,(hd.later hb0).cells.1⟩
 have X1:=hide hx;have HB0:=hide hb0
 clear x hx hd ho hl h12' hc hq hok hT hp ht hbase hv20 hfree hb0
 go_enter Tryz.func30,Tryz.ntmps30
 go_wp2_with fail
 refine(zr w X S _ true X1.out (.inr ⟨rfl,T,rfl⟩)).mono ?_
 rintro e w2 ⟨rfl,hw2⟩
 subst hw2
 clear X1
 go_wp2_with fail
 refine zo (A:=fun j=>decide (j < 11)) (S:=(fun w'=>w'.cell? ⟨X,0,none⟩=some (.pointer (some ⟨S,0,none⟩))∧w'.cell? ⟨X,1,none⟩=some (.pointer (some ⟨T,0,none⟩))∧w'.cell? ⟨T,0,none⟩=some (.slice oo on oc))) (by kernel_rfl) (by exact hS0) (fun hHeld=>?_)
 refine zb (v:=?_) 0 8 [1,2,3,11,12] rfl rfl (by kernel_rfl) (by kernel_rfl) (by kernel_rfl) (by kernel_rfl) (fun _ _ _ h=>h) (by rfl) ?_ (by assumption) ?_
 rotate_left
 ·(intro w hSw;(try dsimp only at hSw);go_simp;with_reducible rfl)
 simp only [Act.put,List.setIfInBounds_toArray,List.set_cons_zero,List.set_cons_succ]
 refine zb (v:=?_) 1 9 [2,3,11,12] rfl rfl (by kernel_rfl) (by kernel_rfl) (by kernel_rfl) (by kernel_rfl) (fun _ _ _ h=>h) (by rfl) ?_ (by assumption) ?_
 rotate_left
 ·(intro w hSw;(try dsimp only at hSw);go_simp;with_reducible rfl)
 simp only [Act.put,List.setIfInBounds_toArray,List.set_cons_zero,List.set_cons_succ]
 refine zb (v:=?_) 2 10 [3,11,12] rfl rfl (by kernel_rfl) (by kernel_rfl) (by kernel_rfl) (by kernel_rfl) (fun _ _ _ h=>h) (by rfl) ?_ (by assumption) ?_
 rotate_left
 ·(intro w hSw;(try dsimp only at hSw);go_simp;with_reducible rfl)
 simp only [Act.put,List.setIfInBounds_toArray,List.set_cons_zero,List.set_cons_succ]
 refine zb (v:=?_) 3 11 [11,12] rfl rfl (by kernel_rfl) (by kernel_rfl) (by kernel_rfl) (by kernel_rfl) (fun _ _ _ h=>h) (by rfl) ?_ (by assumption) ?_
 rotate_left
 ·(intro w hSw;(try dsimp only at hSw);go_simp;with_reducible rfl)
 simp only [Act.put,List.setIfInBounds_toArray,List.set_cons_zero,List.set_cons_succ]
 refine zb (v:=?_) 4 12 [5,6,7,8,9,10,11,12] rfl rfl (by kernel_rfl) (by kernel_rfl) (by kernel_rfl) (by kernel_rfl) (fun _ _ _ h=>h) (by rfl) ?_ (by assumption) ?_
 rotate_left
 ·(intro w hSw;(try dsimp only at hSw);go_simp;with_reducible rfl)
 simp only [Act.put,List.setIfInBounds_toArray,List.set_cons_zero,List.set_cons_succ]
 refine zb (v:=?_) 5 13 [6,7,8,9,10,11,12] rfl rfl (by kernel_rfl) (by kernel_rfl) (by kernel_rfl) (by kernel_rfl) (fun _ _ _ h=>h) (by rfl) ?_ (by assumption) ?_
 rotate_left
 ·(intro w hSw;(try dsimp only at hSw);go_simp;with_reducible rfl)
 simp only [Act.put,List.setIfInBounds_toArray,List.set_cons_zero,List.set_cons_succ]
 refine zb (v:=?_) 6 14 [7,8,9,10,11,12] rfl rfl (by kernel_rfl) (by kernel_rfl) (by kernel_rfl) (by kernel_rfl) (fun _ _ _ h=>h) (by rfl) ?_ (by assumption) ?_
 rotate_left
 ·(intro w hSw;(try dsimp only at hSw);go_simp;with_reducible rfl)
 simp only [Act.put,List.setIfInBounds_toArray,List.set_cons_zero,List.set_cons_succ]
 refine zb (v:=?_) 7 15 [8,9,10,11,12] rfl rfl (by kernel_rfl) (by kernel_rfl) (by kernel_rfl) (by kernel_rfl) (fun _ _ _ h=>h) (by rfl) ?_ (by assumption) ?_
 rotate_left
 ·(intro w hSw;(try dsimp only at hSw);go_simp;with_reducible rfl)
 simp only [Act.put,List.setIfInBounds_toArray,List.set_cons_zero,List.set_cons_succ]
 refine zb (v:=?_) 8 16 [9,10,11,12] rfl rfl (by kernel_rfl) (by kernel_rfl) (by kernel_rfl) (by kernel_rfl) (fun _ _ _ h=>h) (by rfl) ?_ (by assumption) ?_
 rotate_left
 ·(intro w hSw;(try dsimp only at hSw);go_simp;with_reducible rfl)
 simp only [Act.put,List.setIfInBounds_toArray,List.set_cons_zero,List.set_cons_succ]
 refine zb (v:=?_) 9 17 [10,11,12] rfl rfl (by kernel_rfl) (by kernel_rfl) (by kernel_rfl) (by kernel_rfl) (fun _ _ _ h=>h) (by rfl) ?_ (by assumption) ?_
 rotate_left
 ·(intro w hSw;(try dsimp only at hSw);go_simp;with_reducible rfl)
 simp only [Act.put,List.setIfInBounds_toArray,List.set_cons_zero,List.set_cons_succ]
 refine zb (v:=?_) 10 18 [11,12] rfl rfl (by kernel_rfl) (by kernel_rfl) (by kernel_rfl) (by kernel_rfl) (fun _ _ _ h=>h) (by rfl) ?_ (by assumption) ?_
 rotate_left
 ·(intro w hSw;(try dsimp only at hSw);go_simp;with_reducible rfl)
 simp only [Act.put,List.setIfInBounds_toArray,List.set_cons_zero,List.set_cons_succ]
 clear hS0 hHeld
 generalize w2.drew=w0 at *
 refine ze 11 (by kernel_rfl) rfl (fun K hK=>?_)
 go_simp
 refine HCM.out.mono ?_
 rintro e w9 hcm
 obtain⟨ev,rfl,hcm⟩:=CmP.ret hcm
 have HC9:=hide hcm
 clear hcm HCM
 refine hK.out _ _ (fun h=>absurd h (by decide)) ?_
 clear hK K
 try simp only [Act.put,List.setIfInBounds_toArray,List.set_cons_zero,List.set_cons_succ]
 refine ze 12 (by kernel_rfl) rfl (fun K hK=>?_)
 go_simp
 refine hK.out _ _ (fun h=>absurd h (by decide)) ?_
 clear hK K
 try simp only [Act.put,List.setIfInBounds_toArray,List.set_cons_zero,List.set_cons_succ]
 refine zm (by kernel_rfl) ?_
 obtain⟨D',h',hev,hp9,hf9,hk9⟩:=HC9.out.free HFR.out
 obtain rfl:ev=errV (comF l (os.map (·.o)) m):=by simpa using hev
 have hk:=(KeptS.of_below (base:=base) HB0.out).trans hk9
 have hi9:=HIN.out.keptS hk
 obtain⟨f,hf⟩:∃ f,comF l (os.map (·.o)) m=f:=⟨_,rfl⟩
 by_cases hf0:f=0
 ·subst hf0
  obtain⟨_,_,_,_,_,_,_,_,hx9,-⟩:=id hi9
  obtain⟨c0,c1,cz⟩:=hx9.cells
  have z1:=cz 1
  have HFIN:Hid (XcmP w2 base X S B m l en os (.returned .nilIface) (w9.setCell ⟨X,1,none⟩ (.pointer none))):=by
   refine⟨by rw [hf];rfl,D',h',w9,hp9.setSes hx9 _,hf9,fun h=>absurd hf h,fun _=>hx9.set _,hk,(ButB.of (Below.refl _ _)).set 1 _⟩
  rw [hf,show errV 0=.nilIface from rfl]
  clear HC9 HFR HB0 HIN hk9 hk hp9 hf9 hi9 hx9 hev cz hf
  go_wp2
  go_ret
  exact HFIN.out
 ·have HFIN:Hid (XcmP w2 base X S B m l en os (.returned (.iface 80 (.int .i64 ((f:Nat):Int)))) w9):=by
   refine⟨by rw [hf];unfold errV;rw [if_neg hf0],D',h',w9,hp9,hf9,fun _=>rfl,fun h=>absurd (hf.symm.trans h) hf0,hk,ButB.of (Below.refl _ _)⟩
  rw [hf,show errV f=.iface 80 (.int .i64 ((f:Nat):Int)) from if_neg hf0]
  clear HC9 HFR HB0 HIN hk9 hk hp9 hf9 hi9 hev hf
  go_wp2
  go_ret
  exact HFIN.out
end Go.Proofs.YtnhbfehfipafoaaGreatDoor
