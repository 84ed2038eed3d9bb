import Derived.Test.YtnhbfehfipafoaaGreatDoorSsA
namespace Go.Proofs.YtnhbfehfipafoaaGreatDoor
open Go.RowKit
def RsB (W:World)(Q M:Nat)(b:Bool)(cv ov:Value):Prop:=W.heap[Q]?=some (.cells #[.pointer (some ⟨M,0,none⟩),.bool b,cv,ov] 64 (0,0))
theorem RsB.later {W W':World}{Q M:Nat}{b:Bool}{cv ov:Value}(x:RsB W Q M b cv ov)(hb:Below W.heap.size W W'):RsB W' Q M b cv ov:=(hb.block _ (zd x)).trans x
theorem RsB.cells {W:World}{Q M:Nat}{b:Bool}{cv ov:Value}(x:RsB W Q M b cv ov):W.cell? ⟨Q,0,none⟩=some (.pointer (some ⟨M,0,none⟩))∧W.cell? ⟨Q,1,none⟩=some (.bool b)∧W.cell? ⟨Q,2,none⟩=some cv∧W.cell? ⟨Q,3,none⟩=some ov∧∀ k,W.frozen? ⟨Q,k,none⟩=false:=by
 refine⟨?_,?_,?_,?_,fun k=>by simp [World.frozen?,show W.heap[Q]?=_ from x]⟩
 all_goals rw [cell_of_row W Q _ _ _ _ x];rfl
theorem RsB.set1 {W:World}{Q M:Nat}{b:Bool}{cv ov:Value}(x:RsB W Q M b cv ov)(c:Bool):RsB (W.setCell ⟨Q,1,none⟩ (.bool c)) Q M c cv ov:=heap_setCell_same W Q 1 _ _ _ x
theorem RsB.set2 {W:World}{Q M:Nat}{b:Bool}{cv ov:Value}(x:RsB W Q M b cv ov)(v:Value):RsB (W.setCell ⟨Q,2,none⟩ v) Q M b v ov:=heap_setCell_same W Q 2 _ _ _ x
theorem RsB.set3 {W:World}{Q M:Nat}{b:Bool}{cv ov:Value}(x:RsB W Q M b cv ov)(v:Value):RsB (W.setCell ⟨Q,3,none⟩ v) Q M b cv v:=heap_setCell_same W Q 3 _ _ _ x
theorem zfe:¬ stoT 64:=by unfold stoT logT diskT;decide
theorem zag:¬ kinT 64:=by unfold kinT;decide
theorem zkk:¬ deeT 64:=by unfold deeT;decide
set_option linter.unusedSimpArgs false in
set_option maxRecDepth 100000 in
set_option maxHeartbeats 3200000 in
theorem zin (w:World)(Q M:Nat)(cv ov:Value)(x:RsB w Q M true cv ov):
  Calls Tryz.prog 27 #[.pointer (some ⟨Q,0,none⟩)] w fun e w'=>e=.returned (.int .i64 11)∧w'=w:=by
 obtain⟨c0,c1,c2,c3,-⟩:=x.cells
 clear x
 go_enter Tryz.func27,Tryz.ntmps27
 go_wp2
 go_ret
 exact⟨rfl,rfl⟩
set_option linter.unusedSimpArgs false in
set_option maxRecDepth 100000 in
set_option maxHeartbeats 3200000 in
theorem zii (w:World)(Q M:Nat)(cv ov:Value)(x:RsB w Q M false cv ov):
  Calls Tryz.prog 33 #[.pointer (some ⟨Q,0,none⟩)] w fun e w'=>e=.returned (.int .i64 11)∧w'=w:=by
 obtain⟨c0,c1,c2,c3,-⟩:=x.cells
 clear x
 go_enter Tryz.func33,Tryz.ntmps33
 go_wp2
 go_ret
 exact⟨rfl,rfl⟩
set_option linter.unusedSimpArgs false in
set_option maxRecDepth 100000 in
set_option maxHeartbeats 3200000 in
theorem zio (w:World)(Q M:Nat)(cv ov:Value)(x:RsB w Q M false cv ov):
  Calls Tryz.prog 31 #[.pointer (some ⟨Q,0,none⟩)] w fun e w'=>e=.returned (.int .i64 11)∧w'=w:=by
 obtain⟨c0,c1,c2,c3,-⟩:=x.cells
 clear x
 go_enter Tryz.func31,Tryz.ntmps31
 go_wp2
 go_ret
 exact⟨rfl,rfl⟩
set_option linter.unusedSimpArgs false in
set_option maxRecDepth 100000 in
set_option maxHeartbeats 3200000 in
theorem ziD (w:World)(Q M:Nat)(cv ov:Value)(x:RsB w Q M true cv ov):
  Calls Tryz.prog 35 #[.pointer (some ⟨Q,0,none⟩)] w fun e w'=>e=.returned (.int .i64 11)∧w'=w:=by
 obtain⟨c0,c1,c2,c3,-⟩:=x.cells
 clear x
 go_enter Tryz.func35,Tryz.ntmps35
 go_wp2
 go_ret
 exact⟨rfl,rfl⟩
set_option linter.unusedSimpArgs false in
set_option maxRecDepth 100000 in
set_option maxHeartbeats 3200000 in
theorem ziM (w:World)(Q M:Nat)(cv ov:Value)(x:RsB w Q M true cv ov):
  Calls Tryz.prog 38 #[.pointer (some ⟨Q,0,none⟩)] w fun e w'=>e=.returned cv∧w'=w:=by
 obtain⟨c0,c1,c2,c3,-⟩:=x.cells
 clear x
 go_enter Tryz.func38,Tryz.ntmps38
 go_wp2
 go_ret
 exact⟨rfl,rfl⟩
set_option linter.unusedSimpArgs false in
set_option maxRecDepth 100000 in
set_option maxHeartbeats 3200000 in
theorem ziL (w:World)(Q M:Nat)(cv ov:Value)(x:RsB w Q M false cv ov)(sv:Value)(us mn:Int)(y:RstB w M sv us mn):
  Calls Tryz.prog 38 #[.pointer (some ⟨Q,0,none⟩)] w fun e w'=>e=.returned sv∧w'=w:=by
 obtain⟨c0,c1,c2,c3,-⟩:=x.cells
 obtain⟨d0,d1,d2,-⟩:=y.cells
 clear x y
 go_enter Tryz.func38,Tryz.ntmps38
 go_wp2
 go_ret
 exact⟨rfl,rfl⟩
set_option linter.unusedSimpArgs false in
set_option maxRecDepth 100000 in
set_option maxHeartbeats 3200000 in
theorem zij (w:World)(Q M:Nat)(cv ov:Value)(x:RsB w Q M true cv ov):
  Calls Tryz.prog 33 #[.pointer (some ⟨Q,0,none⟩)] w fun e w'=>e=.returned (.int .i64 0)∧RsB w' Q M false cv ov∧ButB w.heap.size Q w w':=by
 have HX:=hide (x.set1 false)
 have HB:=hide ((ButB.of (C:=w.heap.size) (b:=Q) (Below.refl w.heap.size w)).set 1 (.bool false))
 obtain⟨c0,c1,c2,c3,cz⟩:=x.cells
 have z1:=cz 1
 clear x cz
 go_enter Tryz.func33,Tryz.ntmps33
 go_wp2
 go_ret
 exact⟨rfl,HX.out,HB.out⟩
set_option linter.unusedSimpArgs false in
set_option maxRecDepth 100000 in
set_option maxHeartbeats 3200000 in
theorem zim (w:World)(Q M:Nat)(cv ov:Value)(x:RsB w Q M false cv ov)(so:Option Addr)(sn sk:Nat)(us mn:Int)(y:RstB w M (.slice so sn sk) us mn):
  Calls Tryz.prog 27 #[.pointer (some ⟨Q,0,none⟩)] w fun e w'=>e=.returned (.int .i64 0)∧RsB w' Q M true (.slice so sn sk) (.slice none 0 0)∧ButB w.heap.size Q w w':=by
 have x1:=x.set1 true
 have x2:=x1.set2 (.slice so sn sk)
 have HX:=hide (x2.set3 (.slice none 0 0))
 have HB:=hide ((((ButB.of (C:=w.heap.size) (b:=Q) (Below.refl w.heap.size w)).set 1 (.bool true)).set 2 (.slice so sn sk)).set 3 (.slice none 0 0))
 have hne:M≠Q:=fun e=>by
  subst e
  unfold RsB at x
  unfold RstB at y
  rw [x] at y
  simp only [Option.some.injEq,Obj.cells.injEq] at y
  exact absurd y.2.1 (by decide)
 have y1:RstB (w.setCell ⟨Q,1,none⟩ (.bool true)) M (.slice so sn sk) us mn:=(heap_setCell_other _ _ _ _ (fun e=>hne e)).trans y
 obtain⟨c0,c1,c2,c3,cz⟩:=x.cells
 have z1:=cz 1
 obtain⟨a0,a1,a2,a3,az⟩:=x1.cells
 have z2:=az 2
 obtain⟨e0,e1,e2,e3,ez⟩:=x2.cells
 have z3:=ez 3
 obtain⟨d0,d1,d2,-⟩:=y1.cells
 clear x y x1 x2 y1 cz az ez
 go_enter Tryz.func27,Tryz.ntmps27
 go_wp2
 go_ret
 exact⟨rfl,HX.out,HB.out⟩
set_option linter.unusedSimpArgs false in
set_option maxRecDepth 100000 in
set_option maxHeartbeats 3200000 in
theorem ziC (w:World)(Q M:Nat)(cv ov:Value)(x:RsB w Q M false cv ov)(sv:Value)(us mn:Int)(y:RstB w M sv us mn):
  Calls Tryz.prog 35 #[.pointer (some ⟨Q,0,none⟩)] w fun e w'=>e=.returned (.int .i64 0)∧RstB w' M sv 0 mn∧ButB w.heap.size M w w':=by
 have HS:=hide (zff w M sv us mn y)
 obtain⟨c0,c1,c2,c3,-⟩:=x.cells
 clear x y
 go_enter Tryz.func35,Tryz.ntmps35
 go_wp2_with fail
 refine HS.out.mono ?_
 rintro e w1 ⟨rfl,h1,h2⟩
 have H1:=hide h1;have H2:=hide h2
 clear h1 h2 HS
 go_wp2
 go_ret
 exact⟨rfl,H1.out,H2.out⟩
theorem RcmP.later {w0 w w':World}{M:Nat}{v:Value}{us mn:Nat}{l:List Nmd}{os:List OpV}{e:Ending}(h:RcmP w M v us mn l os e w')(hb:Below w0.heap.size w0 w):RcmP w0 M v us mn l os e w':=by
 refine⟨h.1,?_⟩
 rcases h.2 with⟨h1,h2,h3⟩ |⟨h1,o,n,k,qs,h2,h3,h4,h5⟩
 ·exact .inl ⟨h1,h2,hb.trans (h3.mono hb.size)⟩
 ·exact .inr ⟨h1,o,n,k,qs,h2,h3,h4,h5.os.trans hb.os,h5.tape.trans hb.tape,h5.output.trans hb.output,Nat.le_trans hb.size h5.size,fun b hb' hn=>(h5.block b (Nat.lt_of_lt_of_le hb' hb.size) hn).trans (hb.block b hb')⟩
set_option linter.unusedSimpArgs false in
set_option maxRecDepth 100000 in
set_option maxHeartbeats 3200000 in
theorem zir (w:World)(Q M:Nat)(cv ov sv:Value)(us mn:Nat)(qs:List Nc)(l:List Nmd)(op:OpV)(vo:Option Addr)(vc:Nat)(x:RsB w Q M false cv ov)(y:RstB w M sv us mn)(hc:CatN w sv qs)(hq:qs.map (·.x)=l)(hok:CatOk l)(hus:us≤mn)(hmn:mn≤1000)
  (hv:RowS w (.slice vo op.v.length vc) op.v) (hvl:op.v.length≤20):
  Calls Tryz.prog 29 #[.pointer (some ⟨Q,0,none⟩),.agg #[.int .i64 op.kind,.string op.name,.int .i64 op.n,.slice vo op.v.length vc]] w fun e w'=>RcmP w M sv us mn l [op] e w':=by
 obtain⟨kd,nm,nn,vs⟩:=op
 dsimp only at hv hvl ⊢
 have hb1:=zc w (.cells #[.int .i64 kd,.string nm,.int .i64 nn,.slice vo vs.length vc] 43)
 have hB1:=OpBx.new w kd nm nn (.slice vo vs.length vc)
 have hX1:=x.later hb1
 have hb0:=hb1.trans (((Below.refl _ _).drew:Below (w.alloc (.cells #[.int .i64 kd,.string nm,.int .i64 nn,.slice vo vs.length vc] 43)).heap.size (w.alloc (.cells #[.int .i64 kd,.string nm,.int .i64 nn,.slice vo vs.length vc] 43)) (w.alloc (.cells #[.int .i64 kd,.string nm,.int .i64 nn,.slice vo vs.length vc] 43)).drew).mono hb1.size)
 have hB0:OpBx (w.alloc (.cells #[.int .i64 kd,.string nm,.int .i64 nn,.slice vo vs.length vc] 43)).drew w.heap.size kd nm nn (.slice vo vs.length vc):=hB1
 have hX0:RsB (w.alloc (.cells #[.int .i64 kd,.string nm,.int .i64 nn,.slice vo vs.length vc] 43)).drew Q M false cv ov:=hX1
 have hb7:=zc (w.alloc (.cells #[.int .i64 kd,.string nm,.int .i64 nn,.slice vo vs.length vc] 43)).drew (.cells #[.int .i64 kd,.string nm,.int .i64 nn,.slice vo vs.length vc] 43)
 have hB7:=hb0.trans (hb7.mono hb0.size)
 have hN7:=OpBx.new (w.alloc (.cells #[.int .i64 kd,.string nm,.int .i64 nn,.slice vo vs.length vc] 43)).drew kd nm nn (.slice vo vs.length vc)
 have HCM:Hid (Calls Tryz.prog 16 #[.pointer (some ⟨M,0,none⟩),.slice (some ⟨(w.alloc (.cells #[.int .i64 kd,.string nm,.int .i64 nn,.slice vo vs.length vc] 43)).drew.heap.size,0,none⟩) 1 1] ((w.alloc (.cells #[.int .i64 kd,.string nm,.int .i64 nn,.slice vo vs.length vc] 43)).drew.alloc (.cells #[.int .i64 kd,.string nm,.int .i64 nn,.slice vo vs.length vc] 43)) fun e w'=>e=.returned (.int .i64 ((comF l [⟨kd,nm,nn,vs⟩] (mn+82):Nat):Int))∧RcmP w M sv us mn l [⟨kd,nm,nn,vs⟩] (.returned (.int .i64 ((comF l [⟨kd,nm,nn,vs⟩] (mn+82):Nat):Int))) w'):=
  (zfa ((w.alloc (.cells #[.int .i64 kd,.string nm,.int .i64 nn,.slice vo vs.length vc] 43)).drew.alloc (.cells #[.int .i64 kd,.string nm,.int .i64 nn,.slice vo vs.length vc] 43)) M sv us mn qs l (.slice (some ⟨(w.alloc (.cells #[.int .i64 kd,.string nm,.int .i64 nn,.slice vo vs.length vc] 43)).drew.heap.size,0,none⟩) 1 1) [⟨⟨kd,nm,nn,vs⟩,vo,vc⟩] [⟨kd,nm,nn,vs⟩] (y.later hB7) (hc.below hB7) hq hok hus hmn (zeT hN7 (hv.below hB7 (Nat.le_refl _))) (fun q hq=>by rw [List.mem_singleton] at hq;subst hq;exact hvl) (by show 1≤1000000;decide) rfl).mono fun e w' h=>by
   have h2:=h.later hB7
   obtain⟨rfl,-⟩:=id h
   exact⟨rfl,h2⟩
 have hS0:(w.alloc (.cells #[.int .i64 kd,.string nm,.int .i64 nn,.slice vo vs.length vc] 43)).drew.cell? ⟨Q,0,none⟩=some (.pointer (some ⟨M,0,none⟩))∧(w.alloc (.cells #[.int .i64 kd,.string nm,.int .i64 nn,.slice vo vs.length vc] 43)).drew.cell? ⟨w.heap.size,0,none⟩=some (.int .i64 kd)∧(w.alloc (.cells #[.int .i64 kd,.string nm,.int .i64 nn,.slice vo vs.length vc] 43)).drew.cell? ⟨w.heap.size,1,none⟩=some (.string nm)∧(w.alloc (.cells #[.int .i64 kd,.string nm,.int .i64 nn,.slice vo vs.length vc] 43)).drew.cell? ⟨w.heap.size,2,none⟩=some (.int .i64 nn)∧(w.alloc (.cells #[.int .i64 kd,.string nm,.int .i64 nn,.slice vo vs.length vc] 43)).drew.cell? ⟨w.heap.size,3,none⟩=some (.slice vo vs.length vc):=⟨hX0.cells.1,hB0.cells.1,hB0.cells.2.1,hB0.cells.2.2.1,hB0.cells.2.2.2.1⟩
 have hS7:Hid (((w.alloc (.cells #[.int .i64 kd,.string nm,.int .i64 nn,.slice vo vs.length vc] 43)).drew.alloc (.cells #[.int .i64 kd,.string nm,.int .i64 nn,.slice vo vs.length vc] 43)).cell? ⟨Q,0,none⟩=some (.pointer (some ⟨M,0,none⟩))∧((w.alloc (.cells #[.int .i64 kd,.string nm,.int .i64 nn,.slice vo vs.length vc] 43)).drew.alloc (.cells #[.int .i64 kd,.string nm,.int .i64 nn,.slice vo vs.length vc] 43)).cell? ⟨w.heap.size,0,none⟩=some (.int .i64 kd)∧((w.alloc (.cells #[.int .i64 kd,.string nm,.int .i64 nn,.slice vo vs.length vc] 43)).drew.alloc (.cells #[.int .i64 kd,.string nm,.int .i64 nn,.slice vo vs.length vc] 43)).cell? ⟨w.heap.size,1,none⟩=some (.string nm)∧((w.alloc (.cells #[.int .i64 kd,.string nm,.int .i64 nn,.slice vo vs.length vc] 43)).drew.alloc (.cells #[.int .i64 kd,.string nm,.int .i64 nn,.slice vo vs.length vc] 43)).cell? ⟨w.heap.size,2,none⟩=some (.int .i64 nn)∧((w.alloc (.cells #[.int .i64 kd,.string nm,.int .i64 nn,.slice vo vs.length vc] 43)).drew.alloc (.cells #[.int .i64 kd,.string nm,.int .i64 nn,.slice vo vs.length vc] 43)).cell? ⟨w.heap.size,3,none⟩=some (.slice vo vs.length vc)):=⟨(hX0.later hb7).cells.1,(hB0.later hb7).cells.1,(hB0.later hb7).cells.2.1,(hB0.later hb7).cells.2.2.1,(hB0.later hb7).cells.2.2.2.1⟩
 obtain⟨c0,c1,c2,c3,-⟩:=hX1.cells
 clear x y hc hq hok hus hmn hv hvl hb1 hB1 hX1 hb0 hB0 hX0 hb7 hN7 hB7
 obtain⟨F,hF⟩:∃ F,comF l [⟨kd,nm,nn,vs⟩] (mn+82)=F:=⟨_,rfl⟩
 rw [hF] at HCM
 go_enter Tryz.func29,Tryz.ntmps29
 go_wp2_with fail
 generalize w.alloc (.cells #[.int .i64 kd,.string nm,.int .i64 nn,.slice vo vs.length vc] 43)=w1 at *
 refine zo (A:=fun j=>decide (j < 6)) (S:=(fun w'=>w'.cell? ⟨Q,0,none⟩=some (.pointer (some ⟨M,0,none⟩))∧w'.cell? ⟨w.heap.size,0,none⟩=some (.int .i64 kd)∧w'.cell? ⟨w.heap.size,1,none⟩=some (.string nm)∧w'.cell? ⟨w.heap.size,2,none⟩=some (.int .i64 nn)∧w'.cell? ⟨w.heap.size,3,none⟩=some (.slice vo vs.length vc))) (by kernel_rfl) (by exact hS0) (fun hHeld=>?_)
 refine zb (v:=?_) 0 12 [1,2,3,6,7] rfl rfl (by kernel_rfl) (by kernel_rfl) (by kernel_rfl) (by kernel_rfl) (fun _ _ _ h=>h) (by rfl) ?_ (by assumption) ?_
 rotate_left
 ·(intro w hSw;(try dsimp only at hSw);go_simp;with_reducible rfl)
 simp only [Act.put,List.setIfInBounds_toArray,List.set_cons_zero,List.set_cons_succ]
 refine zb (v:=?_) 1 13 [2,3,6,7] rfl rfl (by kernel_rfl) (by kernel_rfl) (by kernel_rfl) (by kernel_rfl) (fun _ _ _ h=>h) (by rfl) ?_ (by assumption) ?_
 rotate_left
 ·(intro w hSw;(try dsimp only at hSw);go_simp;with_reducible rfl)
 simp only [Act.put,List.setIfInBounds_toArray,List.set_cons_zero,List.set_cons_succ]
 refine zb (v:=?_) 2 14 [3,6,7] rfl rfl (by kernel_rfl) (by kernel_rfl) (by kernel_rfl) (by kernel_rfl) (fun _ _ _ h=>h) (by rfl) ?_ (by assumption) ?_
 rotate_left
 ·(intro w hSw;(try dsimp only at hSw);go_simp;with_reducible rfl)
 simp only [Act.put,List.setIfInBounds_toArray,List.set_cons_zero,List.set_cons_succ]
 refine zb (v:=?_) 3 15 [6,7] rfl rfl (by kernel_rfl) (by kernel_rfl) (by kernel_rfl) (by kernel_rfl) (fun _ _ _ h=>h) (by rfl) ?_ (by assumption) ?_
 rotate_left
 ·(intro w hSw;(try dsimp only at hSw);go_simp;with_reducible rfl)
 simp only [Act.put,List.setIfInBounds_toArray,List.set_cons_zero,List.set_cons_succ]
 refine zb (v:=?_) 4 16 [5,6,7] rfl rfl (by kernel_rfl) (by kernel_rfl) (by kernel_rfl) (by kernel_rfl) (fun _ _ _ h=>h) (by rfl) ?_ (by assumption) ?_
 rotate_left
 ·(intro w hSw;(try dsimp only at hSw);go_simp;with_reducible rfl)
 simp only [Act.put,List.setIfInBounds_toArray,List.set_cons_zero,List.set_cons_succ]
 clear hS0
 generalize w1.drew=w0 at *
 refine ze 5 (by kernel_rfl) rfl (fun K hK=>?_)
 go_simp
 refine hK.out _ _ (fun _=>hS7.out) ?_
 clear hK K
 try simp only [Act.put,List.setIfInBounds_toArray,List.set_cons_zero,List.set_cons_succ]
 clear hHeld
 refine ze 6 (by kernel_rfl) rfl (fun K hK=>?_)
 go_simp
 refine HCM.out.mono ?_
 rintro e w9 ⟨rfl,hcm⟩
 have HFIN:=hide hcm
 clear hcm HCM hS7
 refine hK.out _ _ (fun h=>absurd h (by decide)) ?_
 clear hK K
 try simp only [Act.put,List.setIfInBounds_toArray,List.set_cons_zero,List.set_cons_succ]
 refine ze 7 (by kernel_rfl) rfl (fun K hK=>?_)
 go_simp
 refine hK.out _ _ (fun h=>absurd h (by decide)) ?_
 clear hK K
 try simp only [Act.put,List.setIfInBounds_toArray,List.set_cons_zero,List.set_cons_succ]
 refine zm (by kernel_rfl) ?_
 go_wp2
 go_ret
 exact HFIN.out
def offQ (f Q:Nat)(w:World):World:=if f=0 then w.setCell ⟨Q,1,none⟩ (.bool false) else w
set_option linter.unusedSimpArgs false in
set_option maxRecDepth 100000 in
set_option maxHeartbeats 3200000 in
theorem zip (w:World)(Q M:Nat)(cv ov sv:Value)(us mn:Nat)(qs:List Nc)(l:List Nmd)(osC:List OpC)(os:List OpV)(x:RsB w Q M true cv ov)(y:RstB w M sv us mn)(hc:CatN w sv qs)(hq:qs.map (·.x)=l)(hok:CatOk l)(hus:us≤mn)(hmn:mn≤1000)
  (hops:OpsN w ov osC) (hl20:∀ q∈osC,q.o.v.length≤20) (hlen:osC.length≤1000000) (hos:osC.map (·.o)=os):
  Calls Tryz.prog 31 #[.pointer (some ⟨Q,0,none⟩)] w fun e w'=>e=.returned (.int .i64 ((comF l os (mn+82):Nat):Int))∧∃ w1,RcmP w M sv us mn l os e w1∧RsB w1 Q M true cv ov ∧
   w'=offQ (comF l os (mn+82)) Q w1:=by
 have hb0:Below w.heap.size w w.drew:=(Below.refl _ _).drew
 have hne:Q≠M:=fun e=>by
  subst e
  unfold RsB at x
  unfold RstB at y
  rw [x] at y
  simp only [Option.some.injEq,Obj.cells.injEq] at y
  exact absurd y.2.1 (by decide)
 obtain⟨F,hF⟩:∃ F,comF l os (mn+82)=F:=⟨_,rfl⟩
 have HCM:Hid (Calls Tryz.prog 16 #[.pointer (some ⟨M,0,none⟩),ov] w.drew fun e w'=>e=.returned (.int .i64 ((F:Nat):Int))∧RcmP w M sv us mn l os (.returned (.int .i64 ((F:Nat):Int))) w'∧RsB w' Q M true cv ov):=
  (zfa w.drew M sv us mn qs l ov osC os (y.later hb0) (hc.below hb0) hq hok hus hmn (hops.below hb0) hl20 hlen hos).mono fun e w' h=>by
   have h2:=h.later hb0
   have hx:RsB w' Q M true cv ov:=by
    rcases h2.2 with⟨-,-,h3⟩ |⟨-,_,_,_,_,-,-,-,h3⟩
    ·exact x.later h3
    ·exact h3.stays x hne
   obtain⟨rfl,-⟩:=id h
   rw [hF] at h2 ⊢
   exact⟨rfl,h2,hx⟩
 have hS0:w.drew.cell? ⟨Q,0,none⟩=some (.pointer (some ⟨M,0,none⟩))∧w.drew.cell? ⟨Q,3,none⟩=some ov:=⟨(x.later hb0).cells.1,(x.later hb0).cells.2.2.2.1⟩
 obtain⟨c0,c1,c2,c3,-⟩:=x.cells
 clear x y hc hq hok hus hmn hops hl20 hlen hos hb0
 rw [hF]
 clear hF
 go_enter Tryz.func31,Tryz.ntmps31
 go_wp2_with fail
 refine zo (A:=fun j=>decide (j < 8)) (S:=(fun w'=>w'.cell? ⟨Q,0,none⟩=some (.pointer (some ⟨M,0,none⟩))∧w'.cell? ⟨Q,3,none⟩=some ov)) (by kernel_rfl) (by exact hS0) (fun hHeld=>?_)
 refine zb (v:=?_) 0 9 [1,2,3,8,9] rfl rfl (by kernel_rfl) (by kernel_rfl) (by kernel_rfl) (by kernel_rfl) (fun _ _ _ h=>h) (by rfl) ?_ (by assumption) ?_
 rotate_left
 ·(intro w hSw;(try dsimp only at hSw);go_simp;with_reducible rfl)
 simp only [Act.put,List.setIfInBounds_toArray,List.set_cons_zero,List.set_cons_succ]
 refine zb (v:=?_) 1 10 [2,3,8,9] rfl rfl (by kernel_rfl) (by kernel_rfl) (by kernel_rfl) (by kernel_rfl) (fun _ _ _ h=>h) (by rfl) ?_ (by assumption) ?_
 rotate_left
 ·(intro w hSw;(try dsimp only at hSw);go_simp;with_reducible rfl)
 simp only [Act.put,List.setIfInBounds_toArray,List.set_cons_zero,List.set_cons_succ]
 refine zb (v:=?_) 2 11 [3,8,9] rfl rfl (by kernel_rfl) (by kernel_rfl) (by kernel_rfl) (by kernel_rfl) (fun _ _ _ h=>h) (by rfl) ?_ (by assumption) ?_
 rotate_left
 ·(intro w hSw;(try dsimp only at hSw);go_simp;with_reducible rfl)
 simp only [Act.put,List.setIfInBounds_toArray,List.set_cons_zero,List.set_cons_succ]
 refine zb (v:=?_) 3 12 [8,9] rfl rfl (by kernel_rfl) (by kernel_rfl) (by kernel_rfl) (by kernel_rfl) (fun _ _ _ h=>h) (by rfl) ?_ (by assumption) ?_
 rotate_left
 ·(intro w hSw;(try dsimp only at hSw);go_simp;with_reducible rfl)
 simp only [Act.put,List.setIfInBounds_toArray,List.set_cons_zero,List.set_cons_succ]
 refine zb (v:=?_) 4 13 [5,6,7,8,9] rfl rfl (by kernel_rfl) (by kernel_rfl) (by kernel_rfl) (by kernel_rfl) (fun _ _ _ h=>h) (by rfl) ?_ (by assumption) ?_
 rotate_left
 ·(intro w hSw;(try dsimp only at hSw);go_simp;with_reducible rfl)
 simp only [Act.put,List.setIfInBounds_toArray,List.set_cons_zero,List.set_cons_succ]
 refine zb (v:=?_) 5 14 [6,7,8,9] rfl rfl (by kernel_rfl) (by kernel_rfl) (by kernel_rfl) (by kernel_rfl) (fun _ _ _ h=>h) (by rfl) ?_ (by assumption) ?_
 rotate_left
 ·(intro w hSw;(try dsimp only at hSw);go_simp;with_reducible rfl)
 simp only [Act.put,List.setIfInBounds_toArray,List.set_cons_zero,List.set_cons_succ]
 refine zb (v:=?_) 6 15 [7,8,9] rfl rfl (by kernel_rfl) (by kernel_rfl) (by kernel_rfl) (by kernel_rfl) (fun _ _ _ h=>h) (by rfl) ?_ (by assumption) ?_
 rotate_left
 ·(intro w hSw;(try dsimp only at hSw);go_simp;with_reducible rfl)
 simp only [Act.put,List.setIfInBounds_toArray,List.set_cons_zero,List.set_cons_succ]
 refine zb (v:=?_) 7 16 [8,9] rfl rfl (by kernel_rfl) (by kernel_rfl) (by kernel_rfl) (by kernel_rfl) (fun _ _ _ h=>h) (by rfl) ?_ (by assumption) ?_
 rotate_left
 ·(intro w hSw;(try dsimp only at hSw);go_simp;with_reducible rfl)
 simp only [Act.put,List.setIfInBounds_toArray,List.set_cons_zero,List.set_cons_succ]
 clear hS0 hHeld
 generalize w.drew=w0 at *
 refine ze 8 (by kernel_rfl) rfl (fun K hK=>?_)
 go_simp
 refine HCM.out.mono ?_
 rintro e w9 hcm
 obtain⟨rfl,hcm⟩:=hcm
 have HC9:=hide hcm
 clear hcm HCM
 refine hK.out _ _ (fun h=>absurd h (by decide)) ?_
 clear hK K
 try simp only [Act.put,List.setIfInBounds_toArray,List.set_cons_zero,List.set_cons_succ]
 refine ze 9 (by kernel_rfl) rfl (fun K hK=>?_)
 go_simp
 refine hK.out _ _ (fun h=>absurd h (by decide)) ?_
 clear hK K
 try simp only [Act.put,List.setIfInBounds_toArray,List.set_cons_zero,List.set_cons_succ]
 refine zm (by kernel_rfl) ?_
 obtain⟨hr9,hx9⟩:=HC9.out
 by_cases hF0:F=0
 ·subst hF0
  obtain⟨a0,a1,a2,a3,az⟩:=hx9.cells
  have z1:=az 1
  have HR:=hide hr9;have HX:=hide hx9
  clear HC9 hr9 hx9 az
  go_wp2
  go_ret
  exact⟨rfl,_,HR.out,HX.out,rfl⟩
 ·have g0:(((F:Nat):Int) == 0)=false:=beq_eq_false_iff_ne.2 (by omega)
  have HR:=hide hr9;have HX:=hide hx9
  clear HC9 hr9 hx9
  go_wp2
  go_ret
  exact⟨rfl,_,HR.out,HX.out,by unfold offQ;rw [if_neg hF0]⟩
end Go.Proofs.YtnhbfehfipafoaaGreatDoor
