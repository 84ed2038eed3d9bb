import Derived.Test.YtnhbfehfipafoaaGreatDoorSsB
namespace Go.Proofs.YtnhbfehfipafoaaGreatDoor
open Go.RowKit
def OpsR (wI:World)(base:Nat)(W:World)(v:Value)(os:List OpC):Prop:=W.ownsRow base 43 4 v os.length (os.flatMap OpC.cells)∧∀ q∈os,RowS wI q.row q.o.v
theorem OpsR.off {wI W W':World}{base:Nat}{v:Value}{os:List OpC}(h:OpsR wI base W v os)(h1:∀ g,v.ownBlock=some g→W'.heap[g]?=W.heap[g]?):OpsR wI base W' v os:=by
 refine⟨⟨h.1.1,?_⟩,h.2⟩
 rcases h.1.2 with hn |⟨g,cap,cur,ev,hbg,hg,rest⟩
 ·exact .inl hn
 ·exact .inr ⟨g,cap,cur,ev,hbg,(h1 g (by rw [ev];rfl)).trans hg,rest⟩
theorem OpsR.lt {wI W:World}{base:Nat}{v:Value}{os:List OpC}(h:OpsR wI base W v os){g:Nat}(hg:v.ownBlock=some g):g < W.heap.size∧base≤g∧∃ cs,W.heap[g]?=some (.cells cs 43 (0,0)):=by
 rcases h.1.2 with⟨hn,-⟩ |⟨g',cap,cur,ev,hbg,hgg,-⟩
 ·rw [hn] at hg;cases hg
 ·rw [ev] at hg
  simp only [Value.ownBlock,Option.some.injEq] at hg
  subst hg
  exact⟨zd hgg,hbg,_,hgg⟩
theorem OpsR.later {wI W W':World}{base:Nat}{v:Value}{os:List OpC}(h:OpsR wI base W v os)(hb:Below W.heap.size W W'):OpsR wI base W' v os:=h.off fun g hg=>hb.block g (h.lt hg).1
theorem zhY (wI W:World)(base:Nat):OpsR wI base W (.slice none 0 0) []:=⟨World.ownsRow_nil _ _ _ _,fun q hq=>by cases hq⟩
theorem OpsR.read {wI W:World}{base:Nat}{v:Value}{os:List OpC}(h:OpsR wI base W v os)(hw:Below wI.heap.size wI W):OpsN W v os:=by
 obtain⟨o,c,rfl,hle⟩:=zj h.1
 refine⟨o,c,rfl,hle,fun h0=>?_⟩
 rcases h.1.2 with⟨e',e0⟩ |⟨g,cap,cur,e',-,hg,-⟩
 ·omega
 ·simp only [Value.slice.injEq,true_and] at e'
  obtain⟨rfl,rfl⟩:=e'
  refine⟨g,0,rfl,zd hg,fun i q hi=>?_⟩
  have hc:∀ j,j < 4→W.cell? ⟨g,0+i * 4+j,none⟩=q.cells[j]?:=fun j hj=>by
   have h1:=zcG os i q hi j hj
   obtain⟨x,hx⟩:∃ x,q.cells[j]?=some x:=⟨_,List.getElem?_eq_getElem (show j < 4 from hj)⟩
   rw [hx] at h1 ⊢
   have:=World.ownsRow.cells (g:=g) h.1 rfl (i * 4+j) x h1
   rw [Go.WideShapes.add_plain] at this
   simpa [Nat.add_assoc] using this
  exact⟨(hc 0 (by omega)).trans rfl,(hc 1 (by omega)).trans rfl,(hc 2 (by omega)).trans rfl,(hc 3 (by omega)).trans rfl,(h.2 q (List.mem_of_getElem? hi)).below hw (Nat.le_refl _)⟩
theorem OpsR.snoc {wI W:World}{base:Nat}{v:Value}{os:List OpC}(h:OpsR wI base W v os)(hbase:base≤W.heap.size)(q:OpC)(hq:RowS wI q.row q.o.v)(hn:os.length≤1000):
  ∃ o c W',(Builtin.append_ #[44,44] 44 #[v,.slice (some ⟨W.heap.size,0,none⟩) 1 1]).run Tryz.prog (W.alloc (.cells #[.int .i64 q.o.kind,.string q.o.name,.int .i64 q.o.n,q.row] 43))=.ok (.slice o (os.length+1) c) W'∧OpsR wI base W' (.slice o (os.length+1) c) (os ++ [q]) ∧
   (W.alloc (.cells #[.int .i64 q.o.kind,.string q.o.name,.int .i64 q.o.n,q.row] 43)).grownBy W' v.ownBlock∧((Value.slice o (os.length+1) c).ownBlock=v.ownBlock∨(Value.slice o (os.length+1) c).ownBlock=some (W.heap.size+1)):=by
 obtain⟨j0,hj,hy0,hy1,hy2⟩:=zl Tryz.infoOpM
 have hA:=zc W (.cells #[.int .i64 q.o.kind,.string q.o.name,.int .i64 q.o.n,q.row] 43)
 obtain⟨v',W',hr,hown,hg,-,hat⟩:=run_append_own_at (P:=Tryz.prog) (W.alloc (.cells #[.int .i64 q.o.kind,.string q.o.name,.int .i64 q.o.n,q.row] 43)) base 44 44 43 j0 _ 4 56 (by kernel_rfl) hj hy0 hy1 hy2 rfl (by decide) v os.length _ (h.1.alloc _) ⟨W.heap.size,0,none⟩ 1 1 [.int .i64 q.o.kind,.string q.o.name,.int .i64 q.o.n,q.row] rfl (World.news_of_block (heap_alloc_new W _)) (fun y hy=>by
  simp only [List.mem_cons,List.not_mem_nil,or_false] at hy
  rcases hy with rfl | rfl | rfl | rfl <;> rfl) (by unfold maxLen;omega) (by omega) (Nat.le_trans hbase hA.size)
 obtain⟨o,c,rfl,-⟩:=zj hown
 refine⟨o,c,W',hr,⟨?_,fun p hp=>?_⟩,hg,by simpa using hat⟩
 ·rw [List.length_append,List.flatMap_append,List.flatMap_cons,List.flatMap_nil,List.append_nil]
  exact hown
 ·rcases List.mem_append.1 hp with h1 | h1
  ·exact h.2 p h1
  ·rw [List.mem_singleton] at h1
   rw [h1]
   exact hq
theorem zik {wI w0:World}{base Q M B:Nat}{oo vo:Option Addr}{on oc vc:Nat}{nv:Value}{kd nn:Int}{nm:ByteArray}{vs:List Int}{os:List OpC}
  (hX:RsB w0 Q M true nv (.slice oo on oc)) (hO:OpsR wI base w0 (.slice oo on oc) os) (hon:os.length=on) (hon12:on≤12) (hB:OpBx w0 B kd nm nn (.slice vo vs.length vc)) (hv:RowS wI (.slice vo vs.length vc) vs) (hbase:base≤w0.heap.size):
  ∃ o8 c8 w8,(Builtin.append_ #[44,44] 44 #[.slice oo on oc,.slice (some ⟨w0.heap.size,0,none⟩) 1 1]).run Tryz.prog (w0.alloc (.cells #[.int .i64 kd,.string nm,.int .i64 nn,.slice vo vs.length vc] 43))=.ok (.slice o8 (on+1) c8) w8 ∧
   RsB (w0.alloc (.cells #[.int .i64 kd,.string nm,.int .i64 nn,.slice vo vs.length vc] 43)) Q M true nv (.slice oo on oc)∧OpBx (w0.alloc (.cells #[.int .i64 kd,.string nm,.int .i64 nn,.slice vo vs.length vc] 43)) B kd nm nn (.slice vo vs.length vc)∧RsB w8 Q M true nv (.slice oo on oc) ∧
   RsB (w8.setCell ⟨Q,3,none⟩ (.slice o8 (on+1) c8)) Q M true nv (.slice o8 (on+1) c8)∧OpsR wI base (w8.setCell ⟨Q,3,none⟩ (.slice o8 (on+1) c8)) (.slice o8 (on+1) c8) (os ++ [⟨⟨kd,nm,nn,vs⟩,vo,vc⟩]) ∧
   KeepK w0 (w8.setCell ⟨Q,3,none⟩ (.slice o8 (on+1) c8))∧ButE (fun b=>b=Q∨(Value.slice oo on oc).ownBlock=some b) w0 (w8.setCell ⟨Q,3,none⟩ (.slice o8 (on+1) c8))∧((Value.slice o8 (on+1) c8).ownBlock=(Value.slice oo on oc).ownBlock∨(Value.slice o8 (on+1) c8).ownBlock=some (w0.heap.size+1)):=by
 obtain⟨o8,c8,w8,hr,hops,hg,hat⟩:=hO.snoc hbase ⟨⟨kd,nm,nn,vs⟩,vo,vc⟩ hv (by omega)
 have hb7:=zc w0 (.cells #[.int .i64 kd,.string nm,.int .i64 nn,.slice vo vs.length vc] 43)
 have hO7:=hO.later hb7
 have hX7:=hX.later hb7
 have hB7:=hB.later hb7
 obtain⟨w7,hw7⟩:∃ w7,w0.alloc (.cells #[.int .i64 kd,.string nm,.int .i64 nn,.slice vo vs.length vc] 43)=w7:=⟨_,rfl⟩
 rw [show w0.alloc (.cells #[.int .i64 kd,.string nm,.int .i64 nn,OpC.row ⟨⟨kd,nm,nn,vs⟩,vo,vc⟩] 43)=w7 from hw7] at hg hr
 rw [hw7] at hO7 hX7 hB7 hb7 ⊢
 rw [hon] at hr hops hat
 have hQL:Q < w0.heap.size:=zd (show w0.heap[Q]?=_ from hX)
 have nQ:∀ g,(Value.slice oo on oc).ownBlock=some g→g≠Q:=fun g hgg e=>by
  subst e
  obtain⟨-,-,cs,hcs⟩:=hO.lt hgg
  rw [show w0.heap[g]?=_ from hX] at hcs
  simp only [Option.some.injEq,Obj.cells.injEq] at hcs
  exact absurd hcs.2.1 (by decide)
 have hX8:RsB w8 Q M true nv (.slice oo on oc):=(hg.block Q (zd (show w7.heap[Q]?=_ from hX7)) (fun e=>nQ Q e.symm rfl)).trans hX7
 have nT:∀ g,(Value.slice o8 (on+1) c8).ownBlock=some g→g≠Q:=fun g hgg=>by
  rcases hat with e | e
  ·rw [e] at hgg;exact nQ g hgg
  ·rw [e] at hgg
   simp only [Option.some.injEq] at hgg
   omega
 refine⟨o8,c8,w8,hr,hX7,hB7,hX8,hX8.set3 _,hops.off (fun g hgg=>heap_setCell_other _ _ _ _ (nT g hgg)),?_,⟨hg.os.trans hb7.os,hg.tape.trans hb7.tape,hg.output.trans hb7.output,?_,fun b hb hn=>?_⟩,hat⟩
 ·have h1:KeepK w0 w7:=fun b hb=>hb7.block b hb.lt
  have h2:KeepK w7 w8:=zes hO7.1 hg
  have h3:=zw hX8 zag 3 (.slice o8 (on+1) c8)
  intro b hb
  have hb1:Kin w7 b:=by
   obtain⟨cs,t,fz,hx,ht⟩:=hb
   exact⟨cs,t,fz,(hb7.block b (zd hx)).trans hx,ht⟩
  have hb2:Kin w8 b:=by
   obtain⟨cs,t,fz,hx,ht⟩:=hb1
   exact⟨cs,t,fz,(h2 b ⟨cs,t,fz,hx,ht⟩).trans hx,ht⟩
  exact(h3 b hb2).trans ((h2 b hb1).trans (h1 b hb))
 ·exact Nat.le_trans hb7.size (by simpa using hg.size)
 ·rw [heap_setCell_other _ _ _ _ (fun e=>hn (.inl e)),hg.block b (Nat.lt_of_lt_of_le hb hb7.size) (fun e=>hn (.inr e.symm))]
  exact hb7.block b hb
def RinG (wI W:World)(base Q M:Nat)(g:Option Nat)(os:List OpC)(made:List Nmd):Prop:=
 ∃ oo on oc o n k qs,RsB W Q M true (.slice o n k) (.slice oo on oc)∧OpsR wI base W (.slice oo on oc) os∧os.length=on∧on≤12∧CatN W (.slice o n k) qs∧qs.map (·.x)=made∧CatOk made∧(Value.slice oo on oc).ownBlock=g
def RdoP (wI w:World)(base Q M:Nat)(g:Option Nat)(os:List OpC)(made:List Nmd)(op:OpV)(e:Ending)(w':World):Prop:=
 e=.returned (.int .i64 ((addO made os.length op:Nat):Int))∧∃ os' g',RinG wI w' base Q M g' os' (if addO made os.length op=0 then (applyC made op).2 else made)∧os'.map (·.o)=(if addO made os.length op=0 then os.map (·.o) ++ [op] else os.map (·.o)) ∧
  ButE (fun b=>b=Q∨g=some b) w w'∧(g'=g∨∀ b,g'=some b→w.heap.size≤b)
set_option linter.unusedSimpArgs false in
set_option maxRecDepth 100000 in
set_option maxHeartbeats 3200000 in
theorem zis (wI w:World)(base Q M:Nat)(g:Option Nat)(os:List OpC)(made:List Nmd)(op:OpV)(vo:Option Addr)(vc:Nat)(x:RinG wI w base Q M g os made)(hbase:base≤w.heap.size)(hw:Below wI.heap.size wI w)(hv:RowS wI (.slice vo op.v.length vc) op.v)(hvl:op.v.length≤20):
  Calls Tryz.prog 29 #[.pointer (some ⟨Q,0,none⟩),.agg #[.int .i64 op.kind,.string op.name,.int .i64 op.n,.slice vo op.v.length vc]] w fun e w'=>RdoP wI w base Q M g os made op e w':=by
 obtain⟨oo,on,oc,o,n,k,qs,hx,ho,hl,h12,hc,hq,hok,hg⟩:=id x
 obtain⟨kd,nm,nn,vs⟩:=op
 dsimp only at hv hvl ⊢
 have hb1:=zc w (.cells #[.int .i64 kd,.string nm,.int .i64 nn,.slice vo vs.length vc] 43)
 have hB1:=OpBx.new w kd nm nn (.slice vo vs.length vc)
 have hX1:=hx.later hb1
 have HIN:=hide x
 have HX1:=hide hX1;have HO1:=hide (ho.later hb1);have HC1:=hide (hc.below hb1);have HB1:=hide hB1;have HW1:=hide hb1;have HWI:=hide hw;have HV:=hide hv;have HVL:=hide hvl;have HL:=hide hl;have HG:=hide hg;have HBA:=hide hbase
 have HLT:Hid (∀ b,g=some b→b < w.heap.size):=fun b hb=>(ho.lt (hg.trans hb)).1
 have HQL:Hid (Q < w.heap.size):=zd (show w.heap[Q]?=_ from hx)
 have HOK:Hid (CatOk (qs.map (·.x))):=by rw [hq];exact hok
 obtain⟨⟨rc,rl⟩,hr⟩:∃ r,applyC made ⟨kd,nm,nn,vs⟩=r:=⟨_,rfl⟩
 have HR:Hid (applyC (qs.map (·.x)) ⟨kd,nm,nn,vs⟩=(rc,rl)):=by show _=_;rw [hq];exact hr
 have HOK2:Hid (rc=0→CatOk rl):=fun h0=>by have:=zJ HOK.out ⟨kd,nm,nn,vs⟩ (by rw [HR.out];exact h0);rwa [HR.out] at this
 have HRM:=hide hr
 have hS0:(w.alloc (.cells #[.int .i64 kd,.string nm,.int .i64 nn,.slice vo vs.length vc] 43)).drew.cell? ⟨Q,2,none⟩=some (.slice o n k)∧(w.alloc (.cells #[.int .i64 kd,.string nm,.int .i64 nn,.slice vo vs.length vc] 43)).drew.cell? ⟨w.heap.size,0,none⟩=some (.int .i64 kd)∧(w.alloc (.cells #[.int .i64 kd,.string nm,.int .i64 nn,.slice vo vs.length vc] 43)).drew.cell? ⟨w.heap.size,1,none⟩=some (.string nm)∧(w.alloc (.cells #[.int .i64 kd,.string nm,.int .i64 nn,.slice vo vs.length vc] 43)).drew.cell? ⟨w.heap.size,2,none⟩=some (.int .i64 nn)∧(w.alloc (.cells #[.int .i64 kd,.string nm,.int .i64 nn,.slice vo vs.length vc] 43)).drew.cell? ⟨w.heap.size,3,none⟩=some (.slice vo vs.length vc):=⟨hX1.cells.2.2.1,hB1.cells.1,hB1.cells.2.1,hB1.cells.2.2.1,hB1.cells.2.2.2.1⟩
 obtain⟨c0,c1,c2,c3,-⟩:=hX1.cells
 clear x hx ho hl hc hq hok hg hbase hw hv hvl hb1 hB1 hX1 hr
 go_enter Tryz.func29,Tryz.ntmps29
 by_cases h13:on=12
 ·subst h13
  have HAD:addO made os.length ⟨kd,nm,nn,vs⟩=2:=by unfold addO;rw [HL.out,if_pos (by decide)]
  have HFIN:Hid (RdoP wI w base Q M g os made ⟨kd,nm,nn,vs⟩ (.returned (.int .i64 2)) (w.alloc (.cells #[.int .i64 kd,.string nm,.int .i64 nn,.slice vo vs.length vc] 43))):=by
   refine⟨by rw [HAD];rfl,os,g,?_,by rw [HAD];rfl,⟨HW1.out.os,HW1.out.tape,HW1.out.output,HW1.out.size,fun b hb _=>HW1.out.block b hb⟩,.inl rfl⟩
   rw [HAD]
   obtain⟨oo',on',oc',o',n',k',qs',h1,h2,h3,h4,h5,h6,h7,h8⟩:=HIN.out
   exact⟨oo',on',oc',o',n',k',qs',h1.later HW1.out,h2.later HW1.out,h3,h4,h5.below HW1.out,h6,h7,h8⟩
  clear HAD hS0
  go_wp2
  go_ret
  exact HFIN.out
 have HAD:Hid (addO made os.length ⟨kd,nm,nn,vs⟩=rc):=by show _=_;unfold addO;rw [HL.out,if_neg (by omega),HRM.out]
 have g1:(((on:Nat):Int) == 12)=false:=beq_eq_false_iff_ne.2 (by omega)
 go_wp2_with fail
 generalize w.alloc (.cells #[.int .i64 kd,.string nm,.int .i64 nn,.slice vo vs.length vc] 43)=w1 at *
 refine zo (A:=fun j=>decide (j < 5)) (S:=(fun w'=>w'.cell? ⟨Q,2,none⟩=some (.slice o n k)∧w'.cell? ⟨w.heap.size,0,none⟩=some (.int .i64 kd)∧w'.cell? ⟨w.heap.size,1,none⟩=some (.string nm)∧w'.cell? ⟨w.heap.size,2,none⟩=some (.int .i64 nn)∧w'.cell? ⟨w.heap.size,3,none⟩=some (.slice vo vs.length vc))) (by kernel_rfl) (by exact hS0) (fun hHeld=>?_)
 refine zb (v:=?_) 0 26 [1,2,3,5,6,7,8,9,10] rfl rfl (by kernel_rfl) (by kernel_rfl) (by kernel_rfl) (by kernel_rfl) (fun _ _ _ h=>h) (by rfl) ?_ (by assumption) ?_
 rotate_left
 ·(intro w hSw;(try dsimp only at hSw);go_simp;with_reducible rfl)
 simp only [Act.put,List.setIfInBounds_toArray,List.set_cons_zero,List.set_cons_succ]
 refine zb (v:=?_) 1 27 [2,3,5,6,7,8,9,10] rfl rfl (by kernel_rfl) (by kernel_rfl) (by kernel_rfl) (by kernel_rfl) (fun _ _ _ h=>h) (by rfl) ?_ (by assumption) ?_
 rotate_left
 ·(intro w hSw;(try dsimp only at hSw);go_simp;with_reducible rfl)
 simp only [Act.put,List.setIfInBounds_toArray,List.set_cons_zero,List.set_cons_succ]
 refine zb (v:=?_) 2 28 [3,5,6,7,8,9,10] rfl rfl (by kernel_rfl) (by kernel_rfl) (by kernel_rfl) (by kernel_rfl) (fun _ _ _ h=>h) (by rfl) ?_ (by assumption) ?_
 rotate_left
 ·(intro w hSw;(try dsimp only at hSw);go_simp;with_reducible rfl)
 simp only [Act.put,List.setIfInBounds_toArray,List.set_cons_zero,List.set_cons_succ]
 refine zb (v:=?_) 3 29 [5,6,7,8,9,10] rfl rfl (by kernel_rfl) (by kernel_rfl) (by kernel_rfl) (by kernel_rfl) (fun _ _ _ h=>h) (by rfl) ?_ (by assumption) ?_
 rotate_left
 ·(intro w hSw;(try dsimp only at hSw);go_simp;with_reducible rfl)
 simp only [Act.put,List.setIfInBounds_toArray,List.set_cons_zero,List.set_cons_succ]
 refine zb (v:=?_) 4 30 [5,6,7,8,9,10] rfl rfl (by kernel_rfl) (by kernel_rfl) (by kernel_rfl) (by kernel_rfl) (fun _ _ _ h=>h) (by rfl) ?_ (by assumption) ?_
 rotate_left
 ·(intro w hSw;(try dsimp only at hSw);go_simp;with_reducible rfl)
 simp only [Act.put,List.setIfInBounds_toArray,List.set_cons_zero,List.set_cons_succ]
 clear hS0 hHeld
 have h0:Below w1.heap.size w1 w1.drew:=(Below.refl _ _).drew
 have HX1:=hide (HX1.out.later h0);have HB1:=hide (HB1.out.later h0);have HO1:=hide (HO1.out.later h0);have HC1:=hide (HC1.out.below h0);have HW1:=hide (HW1.out.trans (h0.mono HW1.out.size))
 clear h0
 generalize w1.drew=w2 at *
 refine ze 5 (by kernel_rfl) rfl (fun K hK=>?_)
 go_simp
 refine(zdw w2 _ qs ⟨kd,nm,nn,vs⟩ vo vc HC1.out HOK.out (HV.out.below (HWI.out.trans (HW1.out.mono HWI.out.size)) (Nat.le_refl _)) (by have:=HVL.out;show vs.length≤100000;omega)).mono ?_
 rintro e w3 hres
 rw [HR.out] at hres
 obtain⟨m2,l2,k2,rfl,HM2,hb3⟩:=zcP hres
 have HX3:=hide (HX1.out.later hb3);have HB3:=hide (HB1.out.later hb3);have HO3:=hide (HO1.out.later hb3);have HC3:=hide (HC1.out.below hb3);have HW3:=hide (HW1.out.trans (hb3.mono HW1.out.size))
 clear hres hb3 HX1 HB1 HO1 HC1 HW1
 refine hK.out _ _ (fun h=>absurd h (by decide)) ?_
 clear hK K
 try simp only [Act.put,List.setIfInBounds_toArray,List.set_cons_zero,List.set_cons_succ]
 refine zf (v:=?_) 6 25 rfl rfl (by kernel_rfl) (by kernel_rfl) (by kernel_rfl) (by kernel_rfl) (fun _ _ _ h=>h) (by rfl) ?_ ?_
 rotate_left
 ·(intro w;go_simp;with_reducible rfl)
 simp only [Act.put,List.setIfInBounds_toArray,List.set_cons_zero,List.set_cons_succ]
 refine zf (v:=?_) 7 32 rfl rfl (by kernel_rfl) (by kernel_rfl) (by kernel_rfl) (by kernel_rfl) (fun _ _ _ h=>h) (by rfl) ?_ ?_
 rotate_left
 ·(intro w;go_simp;with_reducible rfl)
 simp only [Act.put,List.setIfInBounds_toArray,List.set_cons_zero,List.set_cons_succ]
 refine zf (v:=?_) 8 33 rfl rfl (by kernel_rfl) (by kernel_rfl) (by kernel_rfl) (by kernel_rfl) (fun _ _ _ h=>h) (by rfl) ?_ ?_
 rotate_left
 ·(intro w;go_simp;with_reducible rfl)
 simp only [Act.put,List.setIfInBounds_toArray,List.set_cons_zero,List.set_cons_succ]
 refine zf (v:=?_) 9 5 rfl rfl (by kernel_rfl) (by kernel_rfl) (by kernel_rfl) (by kernel_rfl) (fun _ _ _ h=>h) (by rfl) ?_ ?_
 rotate_left
 ·(intro w;go_simp;with_reducible rfl)
 simp only [Act.put,List.setIfInBounds_toArray,List.set_cons_zero,List.set_cons_succ]
 refine zf (v:=?_) 10 6 rfl rfl (by kernel_rfl) (by kernel_rfl) (by kernel_rfl) (by kernel_rfl) (fun _ _ _ h=>h) (by rfl) ?_ ?_
 rotate_left
 ·(intro w;go_simp;with_reducible rfl)
 simp only [Act.put,List.setIfInBounds_toArray,List.set_cons_zero,List.set_cons_succ]
 refine zm (by kernel_rfl) ?_
 clear c0 c1 c2 c3
 by_cases hc0:rc=0
 rotate_left
 ·have hpos:(0:Int) < (rc:Int):=by omega
  have hpos2:0 < rc:=by omega
  have HFIN:Hid (RdoP wI w base Q M g os made ⟨kd,nm,nn,vs⟩ (.returned (.int .i64 ((rc:Nat):Int))) w3):=by
   refine⟨by rw [HAD.out],os,g,?_,by rw [HAD.out,if_neg hc0],⟨HW3.out.os,HW3.out.tape,HW3.out.output,HW3.out.size,fun b hb _=>HW3.out.block b hb⟩,.inl rfl⟩
   rw [HAD.out,if_neg hc0]
   obtain⟨oo',on',oc',o',n',k',qs',h1,h2,h3,h4,h5,h6,h7,h8⟩:=HIN.out
   exact⟨oo',on',oc',o',n',k',qs',h1.later HW3.out,h2.later HW3.out,h3,h4,h5.below HW3.out,h6,h7,h8⟩
  clear HM2 HX3 HB3 HO3 HC3
  go_wp2
  go_ret
  exact HFIN.out
 ·subst hc0
  obtain⟨p2,hp2,hq2⟩:=HM2.out rfl
  have hX4:=HX3.out.set2 (.slice m2 l2 k2)
  have hown:∀ b,(Value.slice oo on oc).ownBlock=some b→b < w.heap.size:=fun b hb=>HLT.out b (HG.out.symm.trans hb)
  have nQ:∀ b,(Value.slice oo on oc).ownBlock=some b→b≠Q:=fun b hb e=>by
   subst e
   obtain⟨-,-,cs,hcs⟩:=HO3.out.lt hb
   rw [show w3.heap[b]?=_ from HX3.out] at hcs
   simp only [Option.some.injEq,Obj.cells.injEq] at hcs
   exact absurd hcs.2.1 (by decide)
  have hO4:OpsR wI base (w3.setCell ⟨Q,2,none⟩ (.slice m2 l2 k2)) (.slice oo on oc) os:=HO3.out.off fun b hb=>heap_setCell_other _ _ _ _ (nQ b hb)
  have hB4:=HB3.out.setOther (T:=Q) (by have:=HQL.out;omega) 2 (.slice m2 l2 k2)
  have hC4:=hp2.keepK (zw HX3.out zag 2 (.slice m2 l2 k2))
  obtain⟨a0,a1,a2,a3,az⟩:=HX3.out.cells
  have z2:=az 2
  clear az hp2
  have HE4:Hid (ButE (fun b=>b=Q) w (w3.setCell ⟨Q,2,none⟩ (.slice m2 l2 k2))):=⟨HW3.out.os,HW3.out.tape,HW3.out.output,by simpa using HW3.out.size,fun b hb hn=>(heap_setCell_other _ _ _ _ hn).trans (HW3.out.block b hb)⟩
  have HX4:=hide hX4;have HO4:=hide hO4;have HB4:=hide hB4;have HC4:=hide hC4
  clear hX4 hO4 hB4 hC4 HX3 HO3 HB3 HC3 HW3 HM2
  go_wp2_with fail
  clear a0 a1 a2 a3 z2
  generalize w3.setCell ⟨Q,2,none⟩ (.slice m2 l2 k2)=w4 at *
  have h0:Below w4.heap.size w4 w4.drew:=(Below.refl _ _).drew
  obtain⟨o8,c8,w8,hrun,hX7,hB7,hX8,hXF,hOF,hKF,hEF,hat⟩:=zik (HX4.out.later h0) (HO4.out.later h0) HL.out h12 (HB4.out.later h0) HV.out (Nat.le_trans HBA.out (Nat.le_trans HE4.out.size h0.size))
  have hCF:=(HC4.out.below h0).keepK hKF
  have HFIN:Hid (RdoP wI w base Q M g os made ⟨kd,nm,nn,vs⟩ (.returned (.int .i64 0)) (w8.setCell ⟨Q,3,none⟩ (.slice o8 (on+1) c8))):=by
   refine⟨by rw [HAD.out];rfl,os ++ [⟨⟨kd,nm,nn,vs⟩,vo,vc⟩],(Value.slice o8 (on+1) c8).ownBlock,?_,by rw [HAD.out,if_pos rfl,List.map_append];rfl,⟨hEF.os.trans (h0.os.trans HE4.out.os),hEF.tape.trans (h0.tape.trans HE4.out.tape),hEF.output.trans (h0.output.trans HE4.out.output),Nat.le_trans HE4.out.size (Nat.le_trans h0.size hEF.size),fun b hb hn=>?_⟩,?_⟩
   ·rw [HAD.out,if_pos rfl,HRM.out]
    exact⟨o8,on+1,c8,m2,l2,k2,p2,hXF,hOF,by rw [List.length_append,HL.out];rfl,by omega,hCF,hq2,HOK2.out (by first | trivial | rfl),rfl⟩
   ·have hb4:=Nat.lt_of_lt_of_le hb HE4.out.size
    exact(hEF.block b (Nat.lt_of_lt_of_le hb4 h0.size) (fun e=>hn (e.imp id (fun e=>HG.out.symm.trans e)))).trans ((h0.block b hb4).trans (HE4.out.block b hb (fun e=>hn (.inl e))))
   ·rcases hat with e | e
    ·exact .inl (e.trans HG.out)
    ·exact .inr fun b hb=>by
      rw [e] at hb
      simp only [Option.some.injEq] at hb
      have:=HE4.out.size
      have:=h0.size
      omega
  have hS0:w4.drew.cell? ⟨Q,3,none⟩=some (.slice oo on oc)∧w4.drew.cell? ⟨w.heap.size,0,none⟩=some (.int .i64 kd)∧w4.drew.cell? ⟨w.heap.size,1,none⟩=some (.string nm)∧w4.drew.cell? ⟨w.heap.size,2,none⟩=some (.int .i64 nn)∧w4.drew.cell? ⟨w.heap.size,3,none⟩=some (.slice vo vs.length vc):=⟨(HX4.out.later h0).cells.2.2.2.1,(HB4.out.later h0).cells.1,(HB4.out.later h0).cells.2.1,(HB4.out.later h0).cells.2.2.1,(HB4.out.later h0).cells.2.2.2.1⟩
  have hS7:Hid ((w4.drew.alloc (.cells #[.int .i64 kd,.string nm,.int .i64 nn,.slice vo vs.length vc] 43)).cell? ⟨Q,3,none⟩=some (.slice oo on oc)∧(w4.drew.alloc (.cells #[.int .i64 kd,.string nm,.int .i64 nn,.slice vo vs.length vc] 43)).cell? ⟨w.heap.size,0,none⟩=some (.int .i64 kd)∧(w4.drew.alloc (.cells #[.int .i64 kd,.string nm,.int .i64 nn,.slice vo vs.length vc] 43)).cell? ⟨w.heap.size,1,none⟩=some (.string nm)∧(w4.drew.alloc (.cells #[.int .i64 kd,.string nm,.int .i64 nn,.slice vo vs.length vc] 43)).cell? ⟨w.heap.size,2,none⟩=some (.int .i64 nn)∧(w4.drew.alloc (.cells #[.int .i64 kd,.string nm,.int .i64 nn,.slice vo vs.length vc] 43)).cell? ⟨w.heap.size,3,none⟩=some (.slice vo vs.length vc)):=⟨hX7.cells.2.2.2.1,hB7.cells.1,hB7.cells.2.1,hB7.cells.2.2.1,hB7.cells.2.2.2.1⟩
  have HRUN:=hide hrun;have HX8:=hide hX8
  clear hrun hX7 hB7 hX8 hXF hOF hKF hEF hat hCF h0 HX4 HO4 HB4 HC4 HE4 hown nQ
  refine zo (A:=fun j=>decide (0 < j∧j < 7)) (S:=(fun w'=>w'.cell? ⟨Q,3,none⟩=some (.slice oo on oc)∧w'.cell? ⟨w.heap.size,0,none⟩=some (.int .i64 kd)∧w'.cell? ⟨w.heap.size,1,none⟩=some (.string nm)∧w'.cell? ⟨w.heap.size,2,none⟩=some (.int .i64 nn)∧w'.cell? ⟨w.heap.size,3,none⟩=some (.slice vo vs.length vc))) (by kernel_rfl) (by exact hS0) (fun hHeld=>?_)
  refine zf (v:=?_) 0 41 rfl rfl (by kernel_rfl) (by kernel_rfl) (by kernel_rfl) (by kernel_rfl) (fun _ _ _ h=>h) (by rfl) ?_ ?_
  rotate_left
  ·(intro w;go_simp;with_reducible rfl)
  simp only [Act.put,List.setIfInBounds_toArray,List.set_cons_zero,List.set_cons_succ]
  refine zb (v:=?_) 1 42 [2,3,4,7,8,9,10] rfl rfl (by kernel_rfl) (by kernel_rfl) (by kernel_rfl) (by kernel_rfl) (fun _ _ _ h=>h) (by rfl) ?_ (by assumption) ?_
  rotate_left
  ·(intro w hSw;(try dsimp only at hSw);go_simp;with_reducible rfl)
  simp only [Act.put,List.setIfInBounds_toArray,List.set_cons_zero,List.set_cons_succ]
  refine zb (v:=?_) 2 43 [3,4,7,8,9,10] rfl rfl (by kernel_rfl) (by kernel_rfl) (by kernel_rfl) (by kernel_rfl) (fun _ _ _ h=>h) (by rfl) ?_ (by assumption) ?_
  rotate_left
  ·(intro w hSw;(try dsimp only at hSw);go_simp;with_reducible rfl)
  simp only [Act.put,List.setIfInBounds_toArray,List.set_cons_zero,List.set_cons_succ]
  refine zb (v:=?_) 3 44 [4,7,8,9,10] rfl rfl (by kernel_rfl) (by kernel_rfl) (by kernel_rfl) (by kernel_rfl) (fun _ _ _ h=>h) (by rfl) ?_ (by assumption) ?_
  rotate_left
  ·(intro w hSw;(try dsimp only at hSw);go_simp;with_reducible rfl)
  simp only [Act.put,List.setIfInBounds_toArray,List.set_cons_zero,List.set_cons_succ]
  refine zb (v:=?_) 4 45 [7,8,9,10] rfl rfl (by kernel_rfl) (by kernel_rfl) (by kernel_rfl) (by kernel_rfl) (fun _ _ _ h=>h) (by rfl) ?_ (by assumption) ?_
  rotate_left
  ·(intro w hSw;(try dsimp only at hSw);go_simp;with_reducible rfl)
  simp only [Act.put,List.setIfInBounds_toArray,List.set_cons_zero,List.set_cons_succ]
  refine zb (v:=?_) 5 46 [6,7,8,9,10] rfl rfl (by kernel_rfl) (by kernel_rfl) (by kernel_rfl) (by kernel_rfl) (fun _ _ _ h=>h) (by rfl) ?_ (by assumption) ?_
  rotate_left
  ·(intro w hSw;(try dsimp only at hSw);go_simp;with_reducible rfl)
  simp only [Act.put,List.setIfInBounds_toArray,List.set_cons_zero,List.set_cons_succ]
  clear hS0 hHeld
  generalize w4.drew=w0 at *
  refine ze 6 (by kernel_rfl) rfl (fun K hK=>?_)
  go_simp
  refine hK.out _ _ (fun _=>hS7.out) ?_
  clear hK K
  try simp only [Act.put,List.setIfInBounds_toArray,List.set_cons_zero,List.set_cons_succ]
  refine ze 7 (by kernel_rfl) rfl (fun K hK=>?_)
  rw [if_pos (by kernel_rfl)]
  refine zcE rfl rfl rfl HRUN.out ?_
  refine hK.out _ _ (fun h=>absurd h (by decide)) ?_
  clear hK K
  try simp only [Act.put,List.setIfInBounds_toArray,List.set_cons_zero,List.set_cons_succ]
  refine zf (v:=?_) 8 49 rfl rfl (by kernel_rfl) (by kernel_rfl) (by kernel_rfl) (by kernel_rfl) (fun _ _ _ h=>h) (by rfl) ?_ ?_
  rotate_left
  ·(intro w;go_simp;with_reducible rfl)
  simp only [Act.put,List.setIfInBounds_toArray,List.set_cons_zero,List.set_cons_succ]
  refine zf (v:=?_) 9 50 rfl rfl (by kernel_rfl) (by kernel_rfl) (by kernel_rfl) (by kernel_rfl) (fun _ _ _ h=>h) (by rfl) ?_ ?_
  rotate_left
  ·(intro w;go_simp;with_reducible rfl)
  simp only [Act.put,List.setIfInBounds_toArray,List.set_cons_zero,List.set_cons_succ]
  obtain⟨a0,a1,a2,a3,az⟩:=HX8.out.cells
  have z3:=az 3
  clear az
  refine ze 10 (by kernel_rfl) rfl (fun K hK=>?_)
  go_simp
  refine hK.out _ _ (fun h=>absurd h (by decide)) ?_
  clear hK K
  try simp only [Act.put,List.setIfInBounds_toArray,List.set_cons_zero,List.set_cons_succ]
  refine zm (by kernel_rfl) ?_
  go_wp2
  go_ret
  exact HFIN.out
end Go.Proofs.YtnhbfehfipafoaaGreatDoor
/- A session's state, the program's and the reference's; what each step leaves of the other's. -/
namespace Go.Proofs.YtnhbfehfipafoaaGreatDoor
open Go.RowKit
structure StepX (B:Nat)(ex:Nat→TypeId→Prop)(W W':World):Prop where
 os:W'.os=W.os
 tape:W'.tape=W.tape
 output:W'.output=W.output
 size:W.heap.size≤W'.heap.size
 low:∀ b,b < B→b < W.heap.size→W'.heap[b]?=W.heap[b]?
 block:∀ b cs t fz,W.heap[b]?=some (.cells cs t fz)→¬ ex b t→W'.heap[b]?=W.heap[b]?
section
variable {B:Nat}{ex:Nat→TypeId→Prop}{W W':World}
theorem StepX.trans {W'':World}(h:StepX B ex W W')(k:StepX B ex W' W''):StepX B ex W W'' where
 os:=k.os.trans h.os
 tape:=k.tape.trans h.tape
 output:=k.output.trans h.output
 size:=Nat.le_trans h.size k.size
 low:=fun b hb hs=>(k.low b hb (Nat.lt_of_lt_of_le hs h.size)).trans (h.low b hb hs)
 block:=fun b cs t fz hx hn=>(k.block b cs t fz ((h.block b cs t fz hx hn).trans hx) hn).trans (h.block b cs t fz hx hn)
theorem StepX.of_below (h:Below W.heap.size W W'):StepX B ex W W':=⟨h.os,h.tape,h.output,h.size,fun b _ hs=>h.block b hs,fun b _ _ _ hx _=>h.block b (zd hx)⟩
theorem StepX.of_keptS (h:KeptS B W W')(hex:∀ b t,B≤b→stoT t→ex b t):StepX B ex W W':=by
 refine⟨h.os,h.tape,h.output,h.size,fun b hb hs=>h.block b hs (.inl hb),fun b cs t fz hx hn=>h.block b (zd hx) ?_⟩
 by_cases hb:b < B
 ·exact .inl hb
 ·refine .inr fun cs' t' fz' hx' hs=>hn ?_
  rw [hx] at hx'
  simp only [Option.some.injEq,Obj.cells.injEq] at hx'
  exact hex b t (by omega) (by rw [hx'.2.1];exact hs)
theorem StepX.of_butE {ex':Nat→Prop}(h:ButE ex' W W')(hlow:∀ b,ex' b→B≤b)(hx:∀ b cs t fz,W.heap[b]?=some (.cells cs t fz)→ex' b→ex b t):StepX B ex W W':=
 ⟨h.os,h.tape,h.output,h.size,fun b hb hs=>h.block b hs (fun e=>by have:=hlow b e;omega),fun b cs t fz hh hn=>h.block b (zd hh) (fun e=>hn (hx b cs t fz hh e))⟩
theorem StepX.of_butB {M:Nat}(h:ButB W.heap.size M W W')(hlow:B≤M)(hx:∀ cs t fz,W.heap[M]?=some (.cells cs t fz)→ex M t):StepX B ex W W':=
 ⟨h.os,h.tape,h.output,h.size,fun b hb hs=>h.block b hs (by omega),fun b cs t fz hh hn=>h.block b (zd hh) (fun e=>hn (by subst e;exact hx cs t fz hh))⟩
theorem StepX.below {K:Nat}{w:World}(h:StepX B ex W W')(hb:Below K w W)(hK:K≤B)(hs:K≤W.heap.size):Below K w W':=
 ⟨h.os.trans hb.os,h.tape.trans hb.tape,h.output.trans hb.output,Nat.le_trans hb.size h.size,fun k hk=>(h.low k (by omega) (by omega)).trans (hb.block k hk)⟩
theorem StepX.keepK (h:StepX B ex W W')(hx:∀ b t,ex b t→¬ kinT t):KeepK W W':=fun b hb=>by
 obtain⟨cs,t,fz,hh,ht⟩:=hb
 exact h.block b cs t fz hh (fun e=>hx b t e ht)
theorem StepX.stay (h:StepX B ex W W'){b:Nat}{cs:Array Value}{t:TypeId}{fz:Nat × Nat}(hb:W.heap[b]?=some (.cells cs t fz))(hn:¬ ex b t):W'.heap[b]?=some (.cells cs t fz):=(h.block b cs t fz hb hn).trans hb
theorem StepX.disk {D:Dsk}{base C:Nat}(k:StepX B ex W W')(hx:∀ b t,ex b t→¬ stoT t)(h:DiskO W base C D):DiskO W' base C D:=by
 obtain⟨sv,ls,h⟩:=h
 have key:∀(b:Nat) (cs':Array Value) (t':TypeId) (fz:Nat × Nat),W.heap[b]?=some (.cells cs' t' fz)→diskT t'→W'.heap[b]?=W.heap[b]?:=fun b cs' t' fz hb hd=>k.block b cs' t' fz hb (fun e=>hx b t' e (.inl (.inl hd)))
 exact⟨sv,ls,h.low,(key _ _ _ _ h.head (.inl rfl)).trans h.head,h.len,ownsKeep h.own (fun b cs' fz hb=>key b cs' _ fz hb (.inr (.inl rfl))),fun i s v h1 h2=>ownsKeep (h.loose i s v h1 h2) (fun b cs' fz hb=>key b cs' _ fz hb (.inr (.inr rfl))),h.apart,h.ok,h.num,h.left⟩
theorem StepX.store {base S C:Nat}{D:Dsk}{m:Nat}{h:Hd}{l:List Nmd}{en:Nat}(k:StepX B ex W W')(hx:∀ b t,ex b t→¬ stoT t∧¬ kinT t)(x:StoreP W base S C D m h l en):StoreP W' base S C D m h l en:=by
 obtain⟨⟨L,o,n,c,qs,x1,x2,x3,x4,x5,x6⟩,hd,hi⟩:=x
 exact⟨⟨L,o,n,c,qs,k.stay x1 (fun e=>(hx _ _ e).1 (.inr rfl)),x2.keepK (k.keepK fun b t e=>(hx b t e).2),x3,k.stay x4 (fun e=>(hx _ _ e).1 (.inl (.inr rfl))),x5,x6⟩,k.disk (fun b t e=>(hx b t e).1) hd,hi⟩
end
def InG (W:World)(base X S:Nat)(g:Option Nat)(os:List OpC)(made:List Nmd):Prop:=
 ∃ T oo oc o n k qs,SesB W X S (.pointer (some ⟨T,0,none⟩))∧DeeB W T (.slice oo os.length oc) (.slice o n k)∧OpsT base W (.slice oo os.length oc) os∧os.length≤12∧CatN W (.slice o n k) qs∧qs.map (·.x)=made∧CatOk made∧base≤T∧(Value.slice oo os.length oc).ownBlock=g
theorem InG.inP {W:World}{base X S:Nat}{g:Option Nat}{os:List OpC}{made:List Nmd}(h:InG W base X S g os made):InP W base X S os made:=by
 obtain⟨T,oo,oc,o,n,k,qs,h1,h2,h3,h4,h5,h6,h7,h8,-⟩:=h
 exact⟨T,oo,_,oc,o,n,k,qs,h1,h2,h3,rfl,h4,h5,h6,h7,h8⟩
def exP (B:Nat)(g:Option Nat)(b:Nat)(t:TypeId):Prop:=B≤b∧(stoT t∨t=113∨t=111∨(t=43∧g=some b))
def exR (B:Nat)(g:Option Nat)(b:Nat)(t:TypeId):Prop:=B≤b∧(t=64∨t=39∨(t=43∧g=some b))
theorem zd0 {B:Nat}{g:Option Nat}{b:Nat}{t:TypeId}(h:exP B g b t):¬ kinT t:=by
 intro hk
 rcases h.2 with h | rfl | rfl |⟨rfl,-⟩
 ·exact zhg hk h
 ·exact zcb hk
 ·exact za0 hk
 ·exact zbz hk
theorem zbl {B:Nat}{g:Option Nat}{b:Nat}{t:TypeId}(h:exR B g b t):¬ kinT t:=by
 intro hk
 rcases h.2 with rfl | rfl |⟨rfl,-⟩
 ·exact zag hk
 ·exact zZ hk
 ·exact zbz hk
theorem zgQ {B:Nat}{g:Option Nat}{b:Nat}{t:TypeId}(h:exR B g b t):¬ stoT t:=by
 intro hk
 rcases h.2 with rfl | rfl |⟨rfl,-⟩
 ·exact zfe hk
 ·exact zfg hk
 ·exact zcD hk
theorem InG.stepR {W W':World}{B base X S:Nat}{g gr:Option Nat}{os:List OpC}{made:List Nmd}(h:InG W base X S g os made)(k:StepX B (exR B gr) W W')(hne:∀ i,g=some i→gr≠some i):InG W' base X S g os made:=by
 obtain⟨T,oo,oc,o,n,kk,qs,h1,h2,h3,h4,h5,h6,h7,h8,h9⟩:=h
 have nx:∀ b t,¬ exR B gr b t∨(t=64∨t=39∨(t=43∧gr=some b)):=fun b t=>by
  by_cases h:exR B gr b t
  ·exact .inr h.2
  ·exact .inl h
 refine⟨T,oo,oc,o,n,kk,qs,k.stay h1 (fun e=>?_),k.stay h2 (fun e=>?_),h3.off (fun i hi=>?_) (fun b cs fz hb=>k.block b cs _ fz hb (fun e=>zbl e zbp)),h4,h5.keepK (k.keepK fun b t e=>zbl e),h6,h7,h8,h9⟩
 ·rcases e.2 with e | e |⟨e,-⟩ <;> exact absurd e (by decide)
 ·rcases e.2 with e | e |⟨e,-⟩ <;> exact absurd e (by decide)
 ·rcases h3.1.2 with⟨hn,-⟩ |⟨g',cap,cur,ev,-,hgg,-⟩
  ·rw [hn] at hi;cases hi
  ·have hi0:=hi
   rw [ev] at hi
   simp only [Value.ownBlock,Option.some.injEq] at hi
   subst hi
   refine k.block _ _ _ _ hgg (fun e=>?_)
   rcases e.2 with e | e |⟨-,e⟩
   ·exact absurd e (by decide)
   ·exact absurd e (by decide)
   ·exact hne _ (h9.symm.trans hi0) e
theorem RsB.stepP {W W':World}{B Q M:Nat}{g:Option Nat}{b:Bool}{cv ov:Value}(x:RsB W Q M b cv ov)(k:StepX B (exP B g) W W'):RsB W' Q M b cv ov:=k.stay x fun e=>by
 rcases e.2 with e | e | e |⟨e,-⟩
 ·exact zfe e
 ·exact absurd e (by decide)
 ·exact absurd e (by decide)
 ·exact absurd e (by decide)
theorem RstB.stepP {W W':World}{B M:Nat}{g:Option Nat}{v:Value}{us mn:Int}(x:RstB W M v us mn)(k:StepX B (exP B g) W W'):RstB W' M v us mn:=k.stay x fun e=>by
 rcases e.2 with e | e | e |⟨e,-⟩
 ·exact zfg e
 ·exact absurd e (by decide)
 ·exact absurd e (by decide)
 ·exact absurd e (by decide)
theorem RinG.stepP {wI W W':World}{B base Q M:Nat}{g gr:Option Nat}{os:List OpC}{made:List Nmd}(h:RinG wI W base Q M gr os made)(k:StepX B (exP B g) W W')(hne:∀ i,g=some i→gr≠some i):RinG wI W' base Q M gr os made:=by
 obtain⟨oo,on,oc,o,n,kk,qs,h1,h2,h3,h4,h5,h6,h7,h8⟩:=h
 refine⟨oo,on,oc,o,n,kk,qs,h1.stepP k,h2.off (fun i hi=>?_),h3,h4,h5.keepK (k.keepK fun b t e=>zd0 e),h6,h7,h8⟩
 obtain⟨-,-,cs,hcs⟩:=h2.lt hi
 refine k.block _ _ _ _ hcs (fun e=>?_)
 rcases e.2 with e | e | e |⟨-,e⟩
 ·exact zcD e
 ·exact absurd e (by decide)
 ·exact absurd e (by decide)
 ·exact hne _ e (h8.symm.trans hi)
def PrS (W:World)(B m X:Nat)(l:List Nmd)(en:Nat)(st:Option (List OpV × List Nmd))(g:Option Nat):Prop:=
 ∃ S D h,StoreP W B S B D m h l en∧Free D∧B≤X∧B≤W.heap.size∧(∀ i,g=some i→B≤i∧i < W.heap.size) ∧
  match st with
  | none=>SesB W X S (.pointer none)
  | some (os,made)=>∃ osC,InG W B X S g osC made∧osC.map (·.o)=os∧∀ q∈osC,q.o.v.length≤20
def RfS (wI W:World)(B Q M mn:Nat)(l:List Nmd)(us:Nat)(st:Option (List OpV × List Nmd))(g:Option Nat):Prop:=
 ∃ so sn sk qs,RstB W M (.slice so sn sk) ((us:Nat):Int) ((mn:Nat):Int)∧CatN W (.slice so sn sk) qs∧qs.map (·.x)=l∧CatOk l∧us≤mn∧B≤Q∧B≤M∧B≤W.heap.size∧(∀ i,g=some i→i < W.heap.size) ∧
  match st with
  | none=>∃ cv ov,RsB W Q M false cv ov
  | some (os,made)=>∃ osC,RinG wI W B Q M g osC made∧osC.map (·.o)=os∧∀ q∈osC,q.o.v.length≤20
theorem PrS.stepR {W W':World}{B m X:Nat}{l:List Nmd}{en:Nat}{st:Option (List OpV × List Nmd)}{g gr:Option Nat}(h:PrS W B m X l en st g)(k:StepX B (exR B gr) W W')(hne:∀ i,g=some i→gr≠some i):PrS W' B m X l en st g:=by
 obtain⟨S,D,h,h1,h2,h3,h4,h5,h6⟩:=h
 refine⟨S,D,h,k.store (fun b t e=>⟨zgQ e,zbl e⟩) h1,h2,h3,Nat.le_trans h4 k.size,fun i hi=>⟨(h5 i hi).1,Nat.lt_of_lt_of_le (h5 i hi).2 k.size⟩,?_⟩
 match st,h6 with
 | none,h6=>exact k.stay h6 fun e=>by rcases e.2 with e | e |⟨e,-⟩ <;> exact absurd e (by decide)
 | some (os,made),⟨osC,h7,h8,h9⟩=>exact⟨osC,h7.stepR k hne,h8,h9⟩
theorem RfS.stepP {wI W W':World}{B Q M mn:Nat}{l:List Nmd}{us:Nat}{st:Option (List OpV × List Nmd)}{g gr:Option Nat}(h:RfS wI W B Q M mn l us st gr)(k:StepX B (exP B g) W W')(hne:∀ i,g=some i→gr≠some i):RfS wI W' B Q M mn l us st gr:=by
 obtain⟨so,sn,sk,qs,h1,h2,h3,h4,h5,h6,h7,h8,h9,h10⟩:=h
 refine⟨so,sn,sk,qs,h1.stepP k,h2.keepK (k.keepK fun b t e=>zd0 e),h3,h4,h5,h6,h7,Nat.le_trans h8 k.size,fun i hi=>Nat.lt_of_lt_of_le (h9 i hi) k.size,?_⟩
 match st,h10 with
 | none,⟨cv,ov,h⟩=>exact⟨cv,ov,h.stepP k⟩
 | some (os,made),⟨osC,ha,hb,hc⟩=>exact⟨osC,ha.stepP k hne,hb,hc⟩
end Go.Proofs.YtnhbfehfipafoaaGreatDoor
