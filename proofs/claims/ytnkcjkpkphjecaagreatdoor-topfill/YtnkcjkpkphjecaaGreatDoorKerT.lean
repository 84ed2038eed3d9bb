import Derived.Test.YtnkcjkpkphjecaaGreatDoorGrowV
import Derived.Test.YtnkcjkpkphjecaaGreatDoorBeside
import Derived.Test.YtnkcjkpkphjecaaGreatDoorVecW
import Derived.Test.YtnkcjkpkphjecaaGreatDoorShare
namespace Go.Proofs.YtnkcjkpkphjecaaGreatDoor
open Go.RowKit Limbs
def updN {α:Type}(f:Nat→α)(k:Nat)(x:α):Nat→α:=fun i=>if i=k then x else f i
theorem zaA {α:Type}(f:Nat→α)(k:Nat)(x:α):updN f k x k=x:=if_pos rfl
theorem zao {α:Type}(f:Nat→α)(k:Nat)(x:α){i:Nat}(h:i≠k):updN f k x i=f i:=if_neg h
structure OutG (w W:World)(O m:Nat)(vs:Nat→Value)(ps:Nat→List (Nm × Int))(N:Nat):Prop where
 low:Below w.heap.size w W
 high:w.heap.size≤O
 blk:∃ cs,W.heap[O]?=some (.cells cs 53)
 cell:∀ i,i < m→W.cell? ⟨O,i,none⟩=some (vs i)
 grow:∀ i,i < m→Grow W w.heap.size (vs i) (ps i) N
 two:∀ i k,i < m→k < m→i≠k→∀ g,(vs i).ownBlock=some g→(vs k).ownBlock≠some g
 lim:∀ i k,i < m→k < m→∀ p∈ps i,apart (vs k).ownBlock p.1.sl
theorem OutG.start {w W0:World}(hb:Below w.heap.size w W0)(m N:Nat):OutG w (W0.alloc (.cells (madeCells #[.slice none 0 0] m) 53)) W0.heap.size m (fun _=>.slice none 0 0) (fun _=>[]) N where
 low:=hb.alloc hb.size _
 high:=hb.size
 blk:=⟨_,heap_alloc_new W0 _⟩
 cell:=fun i hi=>by
  rw [World.cell?_alloc_new]
  exact zfL m i hi
 grow:=fun _ _=>Grow.nil _ _ _
 two:=fun _ _ _ _ _ g h=>by cases h
 lim:=fun _ _ _ _ p hp=>by cases hp
theorem OutG.lt {w W:World}{O m:Nat}{vs:Nat→Value}{ps:Nat→List (Nm × Int)}{N:Nat}(h:OutG w W O m vs ps N):O < W.heap.size:=by
 obtain⟨cs,e⟩:=h.blk
 exact zn e
theorem OutG.thaw {w W:World}{O m:Nat}{vs:Nat→Value}{ps:Nat→List (Nm × Int)}{N:Nat}(h:OutG w W O m vs ps N)(k:Nat):W.frozen? ⟨O,k,none⟩=false:=by
 obtain⟨cs,e⟩:=h.blk
 simp [World.frozen?,e]
theorem OutG.later {w W W':World}{O m:Nat}{vs:Nat→Value}{ps:Nat→List (Nm × Int)}{N:Nat}(h:OutG w W O m vs ps N)(hb:Below W.heap.size W W'):OutG w W' O m vs ps N where
 low:=h.low.trans (hb.mono h.low.size)
 high:=h.high
 blk:=by obtain⟨cs,e⟩:=h.blk;exact⟨cs,(hb.block _ (zn e)).trans e⟩
 cell:=fun i hi=>(hb.cell (p:=⟨O,i,none⟩) h.lt).trans (h.cell i hi)
 grow:=fun i hi=>(h.grow i hi).later hb
 two:=h.two
 lim:=h.lim
theorem OutG.own_ne {w W:World}{O m:Nat}{vs:Nat→Value}{ps:Nat→List (Nm × Int)}{N:Nat}(h:OutG w W O m vs ps N){i:Nat}(hi:i < m):some O≠(vs i).ownBlock:=fun e=>by
 obtain⟨cs,hO⟩:=h.blk
 rcases(h.grow i hi).1.2 with⟨e1,-⟩ |⟨g,cap,cur,e1,-,hh,-⟩
 ·rw [e1] at e;cases e
 ·rw [e1] at e
  simp only [Value.ownBlock,Option.some.injEq] at e
  rw [← e,hO] at hh
  simp only [Option.some.injEq,Obj.cells.injEq] at hh
  exact absurd hh.2.1 (by decide)
theorem zfP {W W':World}{base:Nat}{e:TypeId}{size:Nat}{v:Value}{n:Nat}{xs:List Value}(h:W.ownsRow base e size v n xs)(hk:∀ g,v.ownBlock=some g→W'.heap[g]?=W.heap[g]?):W'.ownsRow base e size v n xs:=by
 refine⟨h.1,?_⟩
 rcases h.2 with hn |⟨g,cap,cur,ev,hbg,hg,rest⟩
 ·exact .inl hn
 ·exact .inr ⟨g,cap,cur,ev,hbg,(hk g (by rw [ev];rfl)).trans hg,rest⟩
theorem zcH {W:World}{base n:Nat}{v:Value}{ps:List (Nm × Int)}(h:Grow W base v ps n){g:Nat}(hg:v.ownBlock=some g):g < W.heap.size:=(h.1.lt g hg).2
theorem OutG.push {w W W3:World}{O m:Nat}{vs:Nat→Value}{ps:Nat→List (Nm × Int)}{N:Nat}(h:OutG w W O m vs ps N){k:Nat}(hk:k < m)(qs:List (Nm × Int))(hq:∀ p∈qs,NumL W p.1.val p.2 N)(hqa:∀ i,i < m→∀ p∈qs,apart (vs i).ownBlock p.1.sl)
  {g L cap:Nat} (hL:L=(ps k).length+qs.length) (hown:W3.ownsRow w.heap.size 42 2 (.slice (some ⟨g,0,none⟩) L cap) L ((ps k).flatMap ncells ++ qs.flatMap ncells)) (hg:W.grownBy W3 (vs k).ownBlock) (hat:(vs k).ownBlock=some g∨W.heap.size≤g):
  OutG w (W3.setCell ⟨O,k,none⟩ (.slice (some ⟨g,0,none⟩) L cap)) O m (updN vs k (.slice (some ⟨g,0,none⟩) L cap)) (updN ps k (ps k ++ qs)) N:=by
 obtain⟨cs,hO⟩:=h.blk
 have hOlt:=h.lt
 have hO3:W3.heap[O]?=some (.cells cs 53):=(hg.block O hOlt (h.own_ne hk)).trans hO
 have hc3:∀ i,i < m→W3.cell? ⟨O,i,none⟩=some (vs i):=fun i hi=>hg.cell (h.cell i hi) (h.own_ne hk)
 have hgO:g≠O:=by
  intro e
  rcases hown.2 with⟨e1,-⟩ |⟨g',cap',cur,e1,-,hh,-⟩
  ·cases e1
  ·simp only [Value.slice.injEq,Option.some.injEq,Addr.mk.injEq,and_true] at e1
   rw [← e1.1,e,hO3] at hh
   simp only [Option.some.injEq,Obj.cells.injEq] at hh
   exact absurd hh.2.1 (by decide)
 have hslice:∃ o l c,vs k=.slice o l c:=by
  rcases(h.grow k hk).1.2 with⟨e1,-⟩ |⟨g',cap',cur,e1,-⟩
  ·exact⟨_,_,_,e1⟩
  ·exact⟨_,_,_,e1⟩
 have hu:∀ z,vs k≠.int .u32 z:=fun z e=>by
  obtain⟨o,l,c,e1⟩:=hslice
  rw [e1] at e;cases e
 have hnum:∀ p:Nm × Int,NumL W p.1.val p.2 N→apart (vs k).ownBlock p.1.sl→NumL (W3.setCell ⟨O,k,none⟩ (.slice (some ⟨g,0,none⟩) L cap)) p.1.val p.2 N:=fun p h1 h2=>(h1.grown hg h2).setCell (hc3 k hk) hu
 have hnew:∀ p:Nm × Int,NumL W p.1.val p.2 N→apart (vs k).ownBlock p.1.sl→apart (some g) p.1.sl:=fun p h1 h2 a l c e h0 hb=>by
  rcases hat with hat | hat
  ·exact h2 a l c e h0 (hb.trans hat.symm)
  ·have:=h1.inside a l c e h0
   simp only [Option.some.injEq] at hb
   omega
 have hall:∀ i,i < m→∀ p∈updN ps k (ps k ++ qs) i,NumL W p.1.val p.2 N∧∀ j,j < m→apart (vs j).ownBlock p.1.sl:=fun i hi p hp=>by
  by_cases e:i=k
  ·rw [e,zaA] at hp
   rcases List.mem_append.1 hp with hp | hp
   ·exact⟨((h.grow k hk).2 p hp).1,fun j hj=>h.lim k j hk hj p hp⟩
   ·exact⟨hq p hp,fun j hj=>hqa j hj p hp⟩
  ·rw [zao _ _ _ e] at hp
   exact⟨((h.grow i hi).2 p hp).1,fun j hj=>h.lim i j hi hj p hp⟩
 have hlim:∀ i j,i < m→j < m→∀ p∈updN ps k (ps k ++ qs) i,apart (updN vs k (.slice (some ⟨g,0,none⟩) L cap) j).ownBlock p.1.sl:=fun i j hi hj p hp=>by
  obtain⟨h1,h2⟩:=hall i hi p hp
  by_cases e:j=k
  ·rw [e,zaA];exact hnew p h1 (h2 k hk)
  ·rw [zao _ _ _ e];exact h2 j hj
 have hheap:∀ b,b≠O→(W3.setCell ⟨O,k,none⟩ (.slice (some ⟨g,0,none⟩) L cap)).heap[b]?=W3.heap[b]?:=fun b hb=>heap_setCell_other _ _ b _ (fun e=>hb e)
 have hb3:Below w.heap.size w W3:=h.low.grown hg h.low.size (fun b hb=>((h.grow k hk).1.lt b hb).1)
 refine⟨hb3.setCell (p:=⟨O,k,none⟩) h.high _,h.high,⟨_,heap_setCell_same W3 O k _ _ _ hO3⟩,fun i hi=>?_,fun i hi=>⟨?_,fun p hp=>⟨?_,hlim i i hi hi p hp⟩⟩,fun i j hi hj hij b h1 h2=>?_,hlim⟩
 ·by_cases e:i=k
  ·rw [e,zaA];exact World.cell?_setCell_same (h:=hc3 k hk) ..
  ·rw [zao _ _ _ e];exact(World.cell?_setCell_other (h:=fun e'=>by simp at e' <;> omega) ..).trans (hc3 i hi)
 ·by_cases e:i=k
  ·rw [e,zaA,zaA,List.length_append,← hL,List.flatMap_append]
   exact zfP hown fun b hb=>hheap b (by
    simp only [Value.ownBlock,Option.some.injEq] at hb
    omega)
  ·rw [zao _ _ _ e,zao _ _ _ e]
   refine zfP (h.grow i hi).1 fun b hb=>(hheap b fun e'=>h.own_ne hi (by rw [hb,e'])).trans ?_
   exact hg.block b (zcH (h.grow i hi) hb) fun e'=>h.two i k hi hk e b hb e'.symm
 ·obtain⟨h1,h2⟩:=hall i hi p hp
  exact hnum p h1 (h2 k hk)
 ·by_cases e:i=k
  ·rw [e,zaA] at h1
   have ej:j≠k:=by omega
   rw [zao _ _ _ ej] at h2
   simp only [Value.ownBlock,Option.some.injEq] at h1
   rcases hat with hat | hat
   ·exact h.two k j hk hj (by omega) b (by rw [hat,h1]) h2
   ·have:=zcH (h.grow j hj) h2
    omega
  ·rw [zao _ _ _ e] at h1
   by_cases ej:j=k
   ·rw [ej,zaA] at h2
    simp only [Value.ownBlock,Option.some.injEq] at h2
    rcases hat with hat | hat
    ·exact h.two k i hk hi (by omega) b (by rw [hat,h2]) h1
    ·have:=zcH (h.grow i hi) h1
     omega
   ·rw [zao _ _ _ ej] at h2
    exact h.two i j hi hj hij b h1 h2
theorem OutG.mat {w W:World}{O m:Nat}{vs:Nat→Value}{ps:Nat→List (Nm × Int)}{N:Nat}(h:OutG w W O m vs ps N)(zss:List (List Int))(hl:zss.length=m)(hz:∀ i,i < m→(ps i).map (·.2)=zss.getD i []):MatN W (.slice (some ⟨O,0,none⟩) m m) zss N:=by
 subst hl
 refine⟨_,_,rfl,Nat.le_refl _,fun h0=>⟨_,_,rfl,h.lt,fun i zs hi=>?_⟩⟩
 obtain⟨hi',e⟩:=List.getElem?_eq_some_iff.1 hi
 refine⟨vs i,by rw [Nat.zero_add];exact h.cell i hi',?_⟩
 have:=(h.grow i hi').vec
 rw [hz i hi',zk hi',e] at this
 exact this
theorem OutG.old {w W:World}{O m:Nat}{vs:Nat→Value}{ps:Nat→List (Nm × Int)}{N:Nat}(h:OutG w W O m vs ps N){r:Nm}{z:Int}{n:Nat}(hr:NumL w r.val z n){i:Nat}(hi:i < m):apart (vs i).ownBlock r.sl:=fun a l c e h0 hb=>by
 have h1:=hr.inside a l c e h0
 have h2:=((h.grow i hi).1.lt a.block hb.symm).1
 omega
end Go.Proofs.YtnkcjkpkphjecaaGreatDoor
/- mat.turned: rows become places, and places rows. -/
namespace Go.Proofs.YtnkcjkpkphjecaaGreatDoor
open Go.RowKit Limbs
theorem zj1 (m:Nat)(hm:m≤1000)(W:World):(Instr.makeSlice 27 (.int .i64 (m:Int)) (.int .i64 (m:Int))).run Tryz.prog W=.ok (.slice (some ⟨W.heap.size,0,none⟩) m m) (W.alloc (.cells (madeCells #[.slice none 0 0] m) 53)):=by
 obtain⟨i0,hi,hz0,hz1,hz2⟩:=info_parts Tryz.infoVec
 have h:=run_make (P:=Tryz.prog) W 27 53 i0 (.slice none 0 0) (by kernel_rfl) hi hz0 .i64 .i64 m m (by omega) (by omega) (by rw [hz2];omega) (by omega)
 rw [hz1,Int.toNat_natCast,Nat.mul_one] at h
 exact h
def colL (hs:List (List Int))(k:Nat):List Int:=hs.map fun r=>r.getD k 0
set_option linter.unusedSimpArgs false in
set_option maxRecDepth 100000 in
set_option maxHeartbeats 4000000 in
theorem zd7 (w:World)(va:Value)(n nv:Nat)(hs:List (List Int))(ha:MatN w va hs nv)(hl:∀ r∈hs,r.length=n)(hn:n≤100)(hm:hs.length≤100):
  Calls Tryz.prog 67 #[va,.int .i64 (n:Int)] w fun e w'=>∃ O vs ps,e=.returned (.slice (some ⟨O,0,none⟩) n n)∧OutG w w' O n vs ps nv∧∀ i,i < n→(ps i).map (·.2)=colL hs i:=by
 obtain⟨i0,hi,hz0,hz1,hz2⟩:=info_parts Tryz.infoNum
 have HA:=hide ha;have HL:=hide hl
 obtain⟨ao,acap,rfl,-,-⟩:=ha
 clear hl
 have hmk:=zj1 n (by omega)
 have HO0:=hide (OutG.start (Below.refl w.heap.size w) n nv)
 go_enter Tryz.func67,Tryz.ntmps67
 go_wp2
 clear hmk
 go_loopw [11] (fun x wr=>∃(k:Nat) (vs:Nat→Value) (ps:Nat→List (Nm × Int)),k≤n∧x=.int .i64 k∧Hid (OutG w wr w.heap.size n vs ps nv)∧Hid (∀ i,i < k→(ps i).map (·.2)=colL hs i)∧Hid (∀ i,k≤i→ps i=[])) (fun x _=>n - (intOf x).toNat)
 case atStart=>exact⟨0,_,_,Nat.zero_le _,rfl,HO0,hide (fun i hi=>absurd hi (Nat.not_lt_zero i)),hide (fun _ _=>rfl)⟩
 case round=>
  clear HO0
  obtain⟨k,vs,ps,hk,rfl,HO,HD,HE⟩:=hrel
  by_cases hkl:k < n
  ·go_wp2
   go_loopw [16] (fun y wr=>∃(q:Nat) (vs:Nat→Value) (ps:Nat→List (Nm × Int)),q≤hs.length∧y=.int .i64 q∧Hid (OutG w wr w.heap.size n vs ps nv)∧Hid (∀ i,i < k→(ps i).map (·.2)=colL hs i)∧Hid ((ps k).map (·.2)=colL (hs.take q) k)∧Hid (∀ i,k < i→ps i=[])) (fun y _=>hs.length - (intOf y).toNat)
   case atStart=>exact⟨0,_,_,Nat.zero_le _,rfl,HO,HD,hide (by rw [HE.out k zL];rfl),hide (fun i hi=>HE.out i (Nat.le_of_lt hi))⟩
   case round=>
    clear HO HD HE vs ps
    obtain⟨q,vs,ps,hq,rfl,HO,HD,HM,HE⟩:=hrel
    by_cases hql:q < hs.length
    ·obtain⟨rb,roff,_,e,lr,ru,cu,hru⟩:=HA.out.at q hql
     simp only [Value.slice.injEq,true_and] at e
     obtain⟨rfl,rfl⟩:=e
     have hul:hs[q].length=n:=HL.out _ (List.getElem_mem hql)
     have HTK:Hid (colL (hs.take (q+1)) k=colL (hs.take q) k ++ [hs[q].getD k 0]):=by
      show _=_
      unfold colL
      rw [List.take_succ_eq_append_getElem hql,List.map_append];rfl
     obtain⟨vb,voff,vcap,rfl⟩:=hru.form (by omega)
     obtain⟨lv,neg,lo,ll,lc,z0,z1,nz⟩:=hru.at k (by omega)
     have c9:=(HO.out.low.cell (p:=⟨rb,roff+q,none⟩) lr).trans cu
     have c12:=(HO.out.low.cell (p:=⟨vb,voff+k * 2,none⟩) lv).trans z0
     have c13:=(HO.out.low.cell (p:=⟨vb,voff+k * 2+1,none⟩) lv).trans z1
     have HNZ:Hid (NumL w (Nm.val ⟨neg,lo,ll,lc⟩) (hs[q].getD k 0) nv):=nz
     have HPL:Hid ((ps k).length=q):=by
      have h1:=congrArg List.length HM.out
      unfold colL at h1
      rw [List.length_map,List.length_map,List.length_take] at h1
      show _=_
      omega
     rw [hul] at c9
     clear hru cu z0 z1 nz hul
     generalize hs[q].getD k 0=z at *
     have c5:=HO.out.cell k hkl
     have HC5:=hide c5
     obtain⟨vo,vl,vc,hvk⟩:∃ vo vl vc,vs k=.slice vo vl vc:=by
      rcases(HO.out.grow k hkl).1.2 with⟨e1,-⟩ |⟨g',cap',cur,e1,-⟩
      ·exact⟨_,_,_,e1⟩
      ·exact⟨_,_,_,e1⟩
     rw [hvk] at c5
     have hOlt:=HO.out.lt
     have hfO:=HO.out.thaw k
     have HVK:=hide hvk
     clear hvk
     have HOA:=hide (HO.out.later (W':=wr.drew.alloc (.cells #[.bool neg,.slice lo ll lc] 42)) ((Below.refl _ _).drew.alloc zL _))
     have hrb:rb < wr.heap.size:=zT lr HO.out.low.size
     have hvb:vb < wr.heap.size:=zT lv HO.out.low.size
     have HRB:Hid (some rb≠(vs k).ownBlock):=fun e=>by have:=((HO.out.grow k hkl).1.lt rb e.symm).1;omega
     have HVB:Hid (some vb≠(vs k).ownBlock):=fun e=>by have:=((HO.out.grow k hkl).1.lt vb e.symm).1;omega
     have HON:=hide (HO.out.own_ne hkl)
     have hws:=HO.out.low.size
     go_wp2_with fail
     refine zp (S:=(fun w'=>w'.cell? ⟨w.heap.size,k,none⟩=some (.slice vo vl vc)∧w'.cell? ⟨rb,roff+q,none⟩=some (.slice (some ⟨vb,voff,none⟩) n vcap)∧w'.cell? ⟨vb,voff+k * 2,none⟩=some (.bool neg)∧w'.cell? ⟨vb,voff+k * 2+1,none⟩=some (.slice lo ll lc))) (k:=16) (by kernel_rfl) (by exact⟨c5,c9,c12,c13⟩) (fun hHeld=>?_)
     refine zc (v:=?_) 0 19 [16] rfl rfl (by kernel_rfl) (by kernel_rfl) (by kernel_rfl) (by kernel_rfl) (by kernel_rfl) (fun _ _ _ h=>h) (by rfl) ?_ (by assumption) ?_
     rotate_left
     ·(intro w hSw;(try dsimp only at hSw);obtain⟨hS1,hS2,hS3,hS4⟩:=hSw;go_simp;with_reducible rfl)
     try simp only [zA]
     refine zc (v:=?_) 1 20 [16] rfl rfl (by kernel_rfl) (by kernel_rfl) (by kernel_rfl) (by kernel_rfl) (by kernel_rfl) (fun _ _ _ h=>h) (by rfl) ?_ (by assumption) ?_
     rotate_left
     ·(intro w hSw;(try dsimp only at hSw);obtain⟨hS1,hS2,hS3,hS4⟩:=hSw;go_simp;with_reducible rfl)
     try simp only [zA]
     refine zc (v:=?_) 2 21 [16] rfl rfl (by kernel_rfl) (by kernel_rfl) (by kernel_rfl) (by kernel_rfl) (by kernel_rfl) (fun _ _ _ h=>h) (by rfl) ?_ (by assumption) ?_
     rotate_left
     ·(intro w hSw;(try dsimp only at hSw);obtain⟨hS1,hS2,hS3,hS4⟩:=hSw;go_simp;with_reducible rfl)
     try simp only [zA]
     refine zc (v:=?_) 3 22 [16] rfl rfl (by kernel_rfl) (by kernel_rfl) (by kernel_rfl) (by kernel_rfl) (by kernel_rfl) (fun _ _ _ h=>h) (by rfl) ?_ (by assumption) ?_
     rotate_left
     ·(intro w hSw;(try dsimp only at hSw);obtain⟨hS1,hS2,hS3,hS4⟩:=hSw;go_simp;with_reducible rfl)
     try simp only [zA]
     refine zc (v:=?_) 4 23 [16] rfl rfl (by kernel_rfl) (by kernel_rfl) (by kernel_rfl) (by kernel_rfl) (by kernel_rfl) (fun _ _ _ h=>h) (by rfl) ?_ (by assumption) ?_
     rotate_left
     ·(intro w hSw;(try dsimp only at hSw);obtain⟨hS1,hS2,hS3,hS4⟩:=hSw;go_simp;with_reducible rfl)
     try simp only [zA]
     refine zc (v:=?_) 5 24 [16] rfl rfl (by kernel_rfl) (by kernel_rfl) (by kernel_rfl) (by kernel_rfl) (by kernel_rfl) (fun _ _ _ h=>h) (by rfl) ?_ (by assumption) ?_
     rotate_left
     ·(intro w hSw;(try dsimp only at hSw);obtain⟨hS1,hS2,hS3,hS4⟩:=hSw;go_simp;with_reducible rfl)
     try simp only [zA]
     refine zc (v:=?_) 6 25 [16] rfl rfl (by kernel_rfl) (by kernel_rfl) (by kernel_rfl) (by kernel_rfl) (by kernel_rfl) (fun _ _ _ h=>h) (by rfl) ?_ (by assumption) ?_
     rotate_left
     ·(intro w hSw;(try dsimp only at hSw);obtain⟨hS1,hS2,hS3,hS4⟩:=hSw;go_simp;with_reducible rfl)
     try simp only [zA]
     refine zc (v:=?_) 7 26 [16] rfl rfl (by kernel_rfl) (by kernel_rfl) (by kernel_rfl) (by kernel_rfl) (by kernel_rfl) (fun _ _ _ h=>h) (by rfl) ?_ (by assumption) ?_
     rotate_left
     ·(intro w hSw;(try dsimp only at hSw);obtain⟨hS1,hS2,hS3,hS4⟩:=hSw;go_simp;with_reducible rfl)
     try simp only [zA]
     refine zc (v:=?_) 8 27 [16] rfl rfl (by kernel_rfl) (by kernel_rfl) (by kernel_rfl) (by kernel_rfl) (by kernel_rfl) (fun _ _ _ h=>h) (by rfl) ?_ (by assumption) ?_
     rotate_left
     ·(intro w hSw;(try dsimp only at hSw);obtain⟨hS1,hS2,hS3,hS4⟩:=hSw;go_simp;with_reducible rfl)
     try simp only [zA]
     refine zc (v:=?_) 9 28 [16] rfl rfl (by kernel_rfl) (by kernel_rfl) (by kernel_rfl) (by kernel_rfl) (by kernel_rfl) (fun _ _ _ h=>h) (by rfl) ?_ (by assumption) ?_
     rotate_left
     ·(intro w hSw;(try dsimp only at hSw);obtain⟨hS1,hS2,hS3,hS4⟩:=hSw;go_simp;with_reducible rfl)
     try simp only [zA]
     refine zc (v:=?_) 10 29 [16] rfl rfl (by kernel_rfl) (by kernel_rfl) (by kernel_rfl) (by kernel_rfl) (by kernel_rfl) (fun _ _ _ h=>h) (by rfl) ?_ (by assumption) ?_
     rotate_left
     ·(intro w hSw;(try dsimp only at hSw);obtain⟨hS1,hS2,hS3,hS4⟩:=hSw;go_simp;with_reducible rfl)
     try simp only [zA]
     refine zc (v:=?_) 11 30 [16] rfl rfl (by kernel_rfl) (by kernel_rfl) (by kernel_rfl) (by kernel_rfl) (by kernel_rfl) (fun _ _ _ h=>h) (by rfl) ?_ (by assumption) ?_
     rotate_left
     ·(intro w hSw;(try dsimp only at hSw);obtain⟨hS1,hS2,hS3,hS4⟩:=hSw;go_simp;with_reducible rfl)
     try simp only [zA]
     refine zc (v:=?_) 12 31 [16] rfl rfl (by kernel_rfl) (by kernel_rfl) (by kernel_rfl) (by kernel_rfl) (by kernel_rfl) (fun _ _ _ h=>h) (by rfl) ?_ (by assumption) ?_
     rotate_left
     ·(intro w hSw;(try dsimp only at hSw);obtain⟨hS1,hS2,hS3,hS4⟩:=hSw;go_simp;with_reducible rfl)
     try simp only [zA]
     refine zf 13 (by kernel_rfl) rfl (fun K hK=>?_)
     go_simp
     have hbA:Below wr.heap.size wr (wr.drew.alloc (.cells #[.bool neg,.slice lo ll lc] 42)):=(Below.refl _ _).drew.alloc zL _
     have d5:=(hbA.cell (p:=⟨w.heap.size,k,none⟩) hOlt).trans c5
     have d9:=(hbA.cell (p:=⟨rb,roff+q,none⟩) hrb).trans c9
     have d12:=(hbA.cell (p:=⟨vb,voff+k * 2,none⟩) hvb).trans c12
     have d13:=(hbA.cell (p:=⟨vb,voff+k * 2+1,none⟩) hvb).trans c13
     refine hK.out _ _ (fun _=>⟨d5,d9,d12,d13⟩) ?_
     clear hK K
     try simp only [zA]
     refine zf 14 (by kernel_rfl) rfl (fun K hK=>?_)
     refine step_append_lies _ rfl (.tmp 24) (.tmp 32) 53 rfl w.heap.size 42 i0 (.agg #[.bool false,.slice none 0 0]) 2 32 (by kernel_rfl) hi hz0 hz1 hz2 rfl (by decide) (.slice vo vl vc) (ps k).length ((ps k).flatMap ncells) rfl (by have:=(HOA.out.grow k hkl).1;rw [HVK.out] at this;exact this) ⟨wr.heap.size,0,none⟩ 1 1 [.bool neg,.slice lo ll lc] rfl rfl (World.news_of_block (heap_alloc_new wr.drew _)) (fun u hu=>by simp only [List.mem_cons,List.mem_nil_iff,or_false] at hu;rcases hu with rfl | rfl <;> rfl) (by decide) (by unfold maxLen;have:=HPL.out;omega) (by have:=HPL.out;omega) (by simp;omega) (wr.heap.size+1) (by simp) ?_
     intro g5 cap5 w5 hown5 hgrow5 hat5 hlt5
     have HO5:=hide hown5;have HG5:=hide hgrow5;have HA5:=hide hat5
     clear hown5 hgrow5 hat5 hlt5
     have e5:=HG5.out.cell d5 (by rw [← HVK.out];exact HON.out)
     have e9:=HG5.out.cell d9 (by rw [← HVK.out];exact HRB.out)
     have e12:=HG5.out.cell d12 (by rw [← HVK.out];exact HVB.out)
     have e13:=HG5.out.cell d13 (by rw [← HVK.out];exact HVB.out)
     refine hK.out _ _ (fun _=>⟨e5,e9,e12,e13⟩) ?_
     clear hK K
     try simp only [zA]
     have hHeld5:(fun w'=>w'.cell? ⟨w.heap.size,k,none⟩=some (.slice vo vl vc)∧w'.cell? ⟨rb,roff+q,none⟩=some (.slice (some ⟨vb,voff,none⟩) n vcap)∧w'.cell? ⟨vb,voff+k * 2,none⟩=some (.bool neg)∧w'.cell? ⟨vb,voff+k * 2+1,none⟩=some (.slice lo ll lc)) w5:=⟨e5,e9,e12,e13⟩
     clear hHeld
     refine zc (v:=?_) 15 34 [16] rfl rfl (by kernel_rfl) (by kernel_rfl) (by kernel_rfl) (by kernel_rfl) (by kernel_rfl) (fun _ _ _ h=>h) (by rfl) ?_ (by assumption) ?_
     rotate_left
     ·(intro w hSw;(try dsimp only at hSw);obtain⟨hS1,hS2,hS3,hS4⟩:=hSw;go_simp;with_reducible rfl)
     try simp only [zA]
     have HP:=hide (HOA.out.push hkl [(⟨neg,lo,ll,lc⟩,z)] (fun p hp=>by rw [List.mem_singleton] at hp;subst hp;exact HNZ.out.below HOA.out.low zL) (fun i hi p hp=>by rw [List.mem_singleton] at hp;subst hp;exact HOA.out.old HNZ.out hi) (L:=(ps k).length+1) rfl (by have:=HO5.out;simpa [ncells] using this) (by rw [HVK.out];exact HG5.out) (by rw [HVK.out];exact HA5.out.imp id fun h=>by rw [h];simp))
     have ef:w5.frozen? ⟨w.heap.size,k,none⟩=false:=by
      have h1:=HOA.out.thaw k
      rw [World.frozen?_of_block (a:=⟨w.heap.size,k,none⟩) (HG5.out.block w.heap.size HOA.out.lt (by rw [← HVK.out];exact HON.out))]
      exact h1
     refine zf 16 (by kernel_rfl) rfl (fun K hK=>?_)
     go_simp
     refine hK.out _ _ (fun h=>absurd h (by decide)) ?_
     clear hK K
     try simp only [zA]
     refine zl (by kernel_rfl) ?_
     have HD':Hid (∀ i,i < k→(updN ps k (ps k ++ [(⟨neg,lo,ll,lc⟩,z)]) i).map (·.2)=colL hs i):=fun i hi=>by rw [zao _ _ _ (by omega)];exact HD.out i hi
     have HM':Hid ((updN ps k (ps k ++ [(⟨neg,lo,ll,lc⟩,z)]) k).map (·.2)=colL (hs.take (q+1)) k):=by
      show _=_
      rw [zaA,List.map_append,HM.out,HTK.out];rfl
     have HE':Hid (∀ i,k < i→updN ps k (ps k ++ [(⟨neg,lo,ll,lc⟩,z)]) i=[]):=fun i hi=>by rw [zao _ _ _ (by omega)];exact HE.out i hi
     clear c5 c9 c12 c13 d5 d9 d12 d13 e5 e9 e12 e13 ef HO5 HG5 HA5 HOA HO HD HM HE hHeld5
     go_wp2
     go_roundw
     case rel=>exact⟨q+1,_,_,by omega,by go_num,HP,HD',HM',HE'⟩
     case measure=>simp [intOf];omega
    ·obtain rfl:q=hs.length:=by omega
     rw [List.take_length] at HM
     have HD':Hid (∀ i,i < k+1→(ps i).map (·.2)=colL hs i):=fun i hi=>by
      by_cases e:i=k
      ·rw [e];exact HM.out
      ·exact HD.out i (by omega)
     clear HD HM
     go_wp2
     go_roundw
     case rel=>exact⟨k+1,_,_,by omega,by go_num,HO,HD',hide (fun i hi=>HE.out i (by omega))⟩
     case measure=>simp [intOf];omega
  ·obtain rfl:k=n:=by omega
   go_wp2
   go_ret
   exact⟨_,_,_,rfl,HO.out,HD.out⟩
end Go.Proofs.YtnkcjkpkphjecaaGreatDoor
/- Of rows in the one form those that are nought in the first half. -/
namespace Go.Proofs.YtnkcjkpkphjecaaGreatDoor
open Go.RowKit Limbs
def behindL (n:Nat)(ts:List (List Int)):List (List Int):=(ts.filter fun r=>decide ((n:Int)≤first r)).map (·.drop n)
theorem zfW (n:Nat)(p:Nat→Nat)(r:Nat)(inc:∀ i k,i < k→k < r→p i < p k):∀ m,m≤r→∃ c,c≤m∧(∀ k,k < c→p k < n)∧∀ k,c≤k→k < m→n≤p k
 | 0,_=>⟨0,Nat.le_refl _,fun k hk=>absurd hk (by omega),fun k _ hk=>absurd hk (by omega)⟩
 | m+1,hm=>by
  obtain⟨c,hc,h1,h2⟩:=zfW n p r inc m (by omega)
  by_cases h:p m < n
  ·refine⟨m+1,Nat.le_refl _,fun k hk=>?_,fun k h1 h2=>absurd h1 (by omega)⟩
   by_cases hkm:k=m
   ·rw [hkm];exact h
   ·exact Nat.lt_trans (inc k m (by omega) (by omega)) h
  ·refine⟨c,by omega,h1,fun k hk hkm=>?_⟩
   by_cases e:k=m
   ·rw [e];omega
   ·exact h2 k hk (by omega)
theorem zbH (r:List Int)(n j:Nat):(r.drop n).getD j 0=r.getD (n+j) 0:=by
 rw [List.getD_eq_getElem?_getD,List.getElem?_drop,List.getD_eq_getElem?_getD]
theorem zdp {n m:Nat}{ts:List (List Int)}{p:Nat→Nat}(F:FormL m ts p):∃ c,c≤ts.length∧(∀ k,k < c→p k < n)∧(∀ k,c≤k→k < ts.length→n≤p k)∧(ts.filter fun r=>decide ((n:Int)≤first r))=ts.drop c:=by
 obtain⟨c,hc,h1,h2⟩:=zfW n p ts.length F.form.inc ts.length zL
 refine⟨c,hc,h1,h2,?_⟩
 have e:ts=ts.take c ++ ts.drop c:=(List.take_append_drop c ts).symm
 conv=>lhs;rw [e]
 rw [List.filter_append]
 have e1:((ts.take c).filter fun r=>decide ((n:Int)≤first r))=[]:=by
  rw [List.filter_eq_nil_iff]
  intro r hr
  obtain⟨k,hk,e⟩:=List.getElem_of_mem hr
  rw [List.length_take] at hk
  rw [List.getElem_take] at e
  have hf:=(F.first (show k < ts.length by omega)).1
  have:=h1 k (by omega)
  rw [← e,hf]
  simp only [decide_eq_true_eq]
  omega
 have e2:((ts.drop c).filter fun r=>decide ((n:Int)≤first r))=ts.drop c:=by
  rw [List.filter_eq_self]
  intro r hr
  obtain⟨k,hk,e⟩:=List.getElem_of_mem hr
  rw [List.length_drop] at hk
  rw [List.getElem_drop] at e
  have hf:=(F.first (show c+k < ts.length by omega)).1
  have:=h2 (c+k) (by omega) (by omega)
  rw [← e,hf]
  simp only [decide_eq_true_eq]
  omega
 rw [e1,e2,List.nil_append]
theorem zby {n c:Nat}{ts:List (List Int)}(k j:Nat)(hk:c+k < ts.length):(((ts.drop c).map (·.drop n)).getD k []).getD j 0=(ts.getD (c+k) []).getD (n+j) 0:=by
 have hl:k < ((ts.drop c).map (·.drop n)).length:=by rw [List.length_map,List.length_drop];omega
 rw [zk hl,List.getElem_map,List.getElem_drop,zbH,zk hk]
theorem zc8 {f n:Nat}{ts:List (List Int)}{p:Nat→Nat}(F:FormL (f+n) ts p):∃ q,FormL n (behindL f ts) q:=by
 obtain⟨c,hc,-,h2,e⟩:=zdp (n:=f) F
 refine⟨fun k=>p (c+k) - f,?_⟩
 unfold behindL
 rw [e]
 have hl:((ts.drop c).map (·.drop f)).length=ts.length - c:=by rw [List.length_map,List.length_drop]
 refine⟨fun r hr=>?_,?_⟩
 ·obtain⟨s,hs,rfl⟩:=List.mem_map.1 hr
  rw [List.length_drop,F.len s (List.mem_of_mem_drop hs)]
  omega
 ·rw [hl]
  refine⟨fun i k hik hk=>?_,fun i hi=>?_,fun i b hi hb=>?_,fun i hi=>?_,fun i k hik hk=>?_⟩
  ·have:=F.form.inc (c+i) (c+k) (by omega) (by omega)
   have:=h2 (c+i) (by omega) (by omega)
   omega
  ·have:=F.form.lt (c+i) (by omega)
   have:=h2 (c+i) (by omega) (by omega)
   omega
  ·rw [zby i b (by omega)]
   exact F.form.zero (c+i) (f+b) (by omega) (by omega)
  ·have h3:=h2 (c+i) (by omega) (by omega)
   rw [zby i _ (by omega),show f+(p (c+i) - f)=p (c+i) by omega]
   exact F.form.pos (c+i) (by omega)
  ·have h3:=h2 (c+k) (by omega) (by omega)
   rw [zby i _ (by omega),zby k _ (by omega),show f+(p (c+k) - f)=p (c+k) by omega]
   exact F.form.red (c+i) (c+k) (by omega) (by omega)
theorem zg9 {f n:Nat}{ts:List (List Int)}{p:Nat→Nat}(F:FormL (f+n) ts p){v:List Int}(hv:v.length=n):Gens n (InL (behindL f ts)) v↔Gens (f+n) (InL ts) (List.replicate f 0 ++ v):=by
 obtain⟨c,hc,h1,h2,e⟩:=zdp (n:=f) F
 unfold behindL
 rw [e]
 constructor
 ·intro h
  clear hv
  induction h with
  | base hv hl=>
   obtain⟨s,hs,rfl⟩:=List.mem_map.1 hv
   have hst:=List.mem_of_mem_drop hs
   have hsl:=F.len s hst
   obtain⟨k,hk,es⟩:=List.getElem_of_mem hs
   rw [List.length_drop] at hk
   rw [List.getElem_drop] at es
   have es':List.replicate f 0 ++ s.drop f=s:=by
    apply zP (by rw [List.length_append,List.length_replicate,List.length_drop,hsl];omega)
    intro j hj
    rw [List.length_append,List.length_replicate,List.length_drop,hsl] at hj
    by_cases hjn:j < f
    ·rw [zbJ _ _ _ (by simpa using hjn),zbL]
     have:=F.form.zero (c+k) j (by omega) (by have:=h2 (c+k) (by omega) (by omega);omega)
     rw [zk (by omega),es] at this
     exact this.symm
    ·have hr:=zbK (List.replicate f 0) (s.drop f) (j - f)
     rw [List.length_replicate,show f+(j - f)=j by omega,zbH,show f+(j - f)=j by omega] at hr
     exact hr
   rw [es']
   exact .base hst hsl
  | zero=>
   rw [List.replicate_append_replicate]
   exact .zero
  | comb x y hu hv g1 g2=>
   have:=Gens.comb x y g1 g2
   rw [zeH x y _ _ _ _ rfl,zhE] at this
   exact this
 ·intro h
  obtain⟨d,hd⟩:=zw h
  have hz:∀ k,k < c→d k=0:=by
   intro k
   induction k using Nat.strongRecOn with
   | _ k ih=>
    intro hk
    have hp:=h1 k hk
    have ha:=F.form.at_pivot d k (by omega) (fun j hj=>ih j hj (by omega))
    have hb:(List.replicate f 0 ++ v).getD (p k) 0=sumN ts.length (fun j=>d j *(ts.getD j []).getD (p k) 0):=hd (p k) (by omega)
    rw [zbJ _ _ _ (by simpa using hp),zbL] at hb
    have hpos:=F.form.pos k (by omega)
    have h0:d k *(ts.getD k []).getD (p k) 0=0:=ha.symm.trans hb.symm
    rcases Int.mul_eq_zero.1 h0 with h | h
    ·exact h
    ·omega
  apply zdu (fun r hr=>?_) hv
  ·refine⟨fun k=>d (c+k),fun b hb=>?_⟩
   have hb':(List.replicate f 0 ++ v).getD (f+b) 0=sumN ts.length (fun j=>d j *(ts.getD j []).getD (f+b) 0):=hd (f+b) (by omega)
   show v.getD b 0=sumN ((ts.drop c).map (·.drop f)).length (fun k=>d (c+k) *(((ts.drop c).map (·.drop f)).getD k []).getD b 0)
   have hr:=zbK (List.replicate f 0) v b
   rw [List.length_replicate] at hr
   rw [hr] at hb'
   rw [hb']
   have hl:((ts.drop c).map (·.drop f)).length=ts.length - c:=by rw [List.length_map,List.length_drop]
   rw [hl]
   have hs:∀ m,c+m≤ts.length→sumN (c+m) (fun k=>d k *(ts.getD k []).getD (f+b) 0)=sumN m (fun k=>d (c+k) *(((ts.drop c).map (·.drop f)).getD k []).getD b 0):=by
    intro m
    induction m with
    | zero=>
     intro _
     refine(zj (g:=fun _=>0) fun k hk=>?_).trans (zag _)
     rw [hz k hk,Int.zero_mul]
    | succ m ih=>
     intro hm
     have e1:sumN (c+(m+1)) (fun k=>d k *(ts.getD k []).getD (f+b) 0)=sumN (c+m) (fun k=>d k *(ts.getD k []).getD (f+b) 0)+d (c+m) *(ts.getD (c+m) []).getD (f+b) 0:=rfl
     have e2:sumN (m+1) (fun k=>d (c+k) *(((ts.drop c).map (·.drop f)).getD k []).getD b 0)=sumN m (fun k=>d (c+k) *(((ts.drop c).map (·.drop f)).getD k []).getD b 0)+d (c+m) *(((ts.drop c).map (·.drop f)).getD m []).getD b 0:=rfl
     rw [e1,e2,ih (by omega),zby m b (by omega)]
   have:=hs (ts.length - c) (by omega)
   rw [show c+(ts.length - c)=ts.length by omega] at this
   exact this
  ·obtain⟨s,hs,rfl⟩:=List.mem_map.1 hr
   rw [List.length_drop,F.len s (List.mem_of_mem_drop hs)]
   omega
end Go.Proofs.YtnkcjkpkphjecaaGreatDoor
/- What rows make nought of, by rows with units behind them. No Go in it. -/
namespace Go.Proofs.YtnkcjkpkphjecaaGreatDoor
open Go.RowKit Limbs
def dotL (n:Nat)(r v:List Int):Int:=sumN n (fun b=>r.getD b 0 * v.getD b 0)
def unitL (n j:Nat):List Int:=(List.range n).map fun b=>if b=j then 1 else 0
theorem zav (n j:Nat):(unitL n j).length=n:=by simp [unitL]
theorem zb9 (n j b:Nat)(hb:b < n):(unitL n j).getD b 0=if b=j then 1 else 0:=zam n _ b hb
def tracedL (ms:List (List Int))(n:Nat):List (List Int):=(List.range n).map fun j=>(ms.map fun r=>r.getD j 0) ++ unitL n j
theorem zaL (ms:List (List Int))(n:Nat):(tracedL ms n).length=n:=by simp [tracedL]
theorem zd5 (ms:List (List Int))(n:Nat):∀ r∈tracedL ms n,r.length=ms.length+n:=by
 intro r hr
 obtain⟨j,-,rfl⟩:=List.mem_map.1 hr
 rw [List.length_append,List.length_map,zav]
theorem zbZ (ms:List (List Int))(n j:Nat)(hj:j < n):(tracedL ms n).getD j []=(ms.map fun r=>r.getD j 0) ++ unitL n j:=by
 rw [zk (by rw [zaL];exact hj)]
 simp [tracedL]
theorem zak (ms:List (List Int))(g:List Int→Int)(i:Nat)(hi:i < ms.length):(ms.map g).getD i 0=g (ms.getD i []):=by
 rw [zk hi,List.getD_eq_getElem?_getD,List.getElem?_eq_getElem (by rw [List.length_map];exact hi),Option.getD_some,List.getElem_map]
theorem zh2 (n j:Nat)(hj:j < n)(r:List Int):dotL n r (unitL n j)=r.getD j 0:=by
 unfold dotL
 refine(zj (g:=fun b=>r.getD b 0 * unitR j b) fun b hb=>?_).trans (sum_unit' n j hj r)
 rw [zb9 n j b hb];rfl
where
 sum_unit' (n j:Nat) (hj:j < n) (r:List Int):sumN n (fun b=>r.getD b 0 * unitR j b)=r.getD j 0:=by
  have:=zK n j hj (fun b=>r.getD b 0 * unitR j b) (fun i _ hij=>by show _ *(if i=j then (1:Int) else 0)=0;rw [if_neg hij,Int.mul_zero])
  rw [this]
  show _ *(if j=j then (1:Int) else 0)=_
  rw [if_pos rfl,Int.mul_one]
theorem zh3 (n m:Nat)(r:List Int):dotL n r (List.replicate m 0)=0:=by
 unfold dotL
 refine(zj (g:=fun _=>0) fun b _=>?_).trans (zag _)
 rw [zbL,Int.mul_zero]
theorem zh4 (n m:Nat)(v:List Int):dotL n (List.replicate m 0) v=0:=by
 unfold dotL
 refine(zj (g:=fun _=>0) fun b _=>?_).trans (zag _)
 rw [zbL,Int.zero_mul]
theorem zh0 (n:Nat)(r u v:List Int)(x y:Int)(hu:u.length=n)(hv:v.length=n):dotL n r (List.zipWith (fun a b=>x * a+y * b) u v)=x * dotL n r u+y * dotL n r v:=by
 unfold dotL
 rw [← zI,← zI,← zaK]
 refine zj fun b hb=>?_
 rw [zq _ _ _ (by omega) b (by omega),Int.mul_add,← Int.mul_assoc,← Int.mul_assoc,← Int.mul_assoc,← Int.mul_assoc,Int.mul_comm _ x,Int.mul_comm _ y]
theorem zh1 (n:Nat)(r u v:List Int)(x y:Int)(hu:u.length=n)(hv:v.length=n):dotL n (List.zipWith (fun a b=>x * a+y * b) u v) r=x * dotL n u r+y * dotL n v r:=by
 unfold dotL
 rw [← zI,← zI,← zaK]
 refine zj fun b hb=>?_
 rw [zq _ _ _ (by omega) b (by omega),Int.add_mul,Int.mul_assoc,Int.mul_assoc]
theorem zkW (ms:List (List Int))(n:Nat)(z:List Int):Gens (ms.length+n) (InL (tracedL ms n)) z↔∃ v,v.length=n∧z=(ms.map fun r=>dotL n r v) ++ v:=by
 constructor
 ·intro h
  induction h with
  | base hv hl=>
   obtain⟨j,hj,rfl⟩:=List.mem_map.1 hv
   rw [List.mem_range] at hj
   refine⟨unitL n j,zav n j,?_⟩
   congr 1
   exact List.map_congr_left fun r _=>(zh2 n j hj r).symm
  | zero=>
   refine⟨List.replicate n 0,by simp,?_⟩
   rw [← List.replicate_append_replicate]
   congr 1
   rw [List.map_congr_left (g:=fun _=>(0:Int)) fun r _=>zh3 n n r,List.map_const']
  | comb x y _ _ h1 h2=>
   obtain⟨u,hu,rfl⟩:=h1
   obtain⟨v,hv,rfl⟩:=h2
   refine⟨List.zipWith (fun a b=>x * a+y * b) u v,by rw [zx _ _ _ (by omega)];omega,?_⟩
   rw [zeH x y _ _ _ _ (by rw [List.length_map,List.length_map])]
   congr 1
   apply zP (by rw [zx _ _ _ (by rw [List.length_map,List.length_map]),List.length_map,List.length_map])
   intro i hi
   rw [zx _ _ _ (by rw [List.length_map,List.length_map]),List.length_map] at hi
   rw [zq _ _ _ (by rw [List.length_map,List.length_map]) i (by rw [List.length_map];exact hi),zak _ _ _ hi,zak _ _ _ hi,zak _ _ _ hi,zh0 n _ u v x y hu hv]
 ·rintro ⟨v,hv,rfl⟩
  refine zdu (zd5 ms n) (by rw [List.length_append,List.length_map,hv]) ⟨fun k=>v.getD k 0,fun b hb=>?_⟩
  rw [zaL]
  dsimp only
  by_cases hbm:b < ms.length
  ·rw [zbJ _ _ _ (by rw [List.length_map];exact hbm),zak _ _ _ hbm]
   unfold dotL
   refine zj fun k hk=>?_
   rw [zbZ _ _ _ hk,zbJ _ _ _ (by rw [List.length_map];exact hbm),zak _ _ _ hbm,Int.mul_comm]
  ·have e:b=ms.length+(b - ms.length):=by omega
   have g1:=zbK (ms.map fun r=>dotL n r v) v (b - ms.length)
   rw [List.length_map,← e] at g1
   rw [g1]
   refine((zj (g:=fun k=>v.getD k 0 * unitR k (b - ms.length)) fun k hk=>?_).trans (zgu n (fun k=>v.getD k 0) (b - ms.length) (by omega))).symm
   have g2:=zbK (ms.map fun r=>r.getD k 0) (unitL n k) (b - ms.length)
   rw [List.length_map,← e] at g2
   rw [zbZ _ _ _ hk,g2,zb9 n k _ (by omega)]
   rfl
theorem ziT {ms ts:List (List Int)}{n:Nat}{p:Nat→Nat}(F:FormL (ms.length+n) ts p)(a:Alikes (ms.length+n) (InL ts) (InL (tracedL ms n))){v:List Int}(hv:v.length=n):
  Gens n (InL (behindL ms.length ts)) v↔∀ r∈ms,dotL n r v=0:=by
 rw [zg9 F hv,a,zkW]
 constructor
 ·rintro ⟨u,hu,e⟩
  have h:=List.append_inj' e (by omega)
  obtain⟨h1,rfl⟩:=h
  intro r hr
  have:dotL n r v∈ms.map fun r=>dotL n r v:=List.mem_map.2 ⟨r,hr,rfl⟩
  rw [← h1] at this
  exact List.eq_of_mem_replicate this
 ·intro h
  refine⟨v,hv,?_⟩
  congr 1
  rw [List.map_congr_left (g:=fun _=>(0:Int)) fun r hr=>h r hr,List.map_const']
theorem zdk {ms:List (List Int)}{n:Nat}{v:List Int}(h:∀ r∈ms,dotL n r v=0){u:List Int}(hu:Gens n (InL ms) u):dotL n u v=0:=by
 induction hu with
 | base hr _=>exact h _ hr
 | zero=>exact zh4 n n v
 | comb x y g1 g2 h1 h2=>rw [zh1 n v _ _ x y g1.len g2.len,h1,h2,Int.mul_zero,Int.mul_zero];rfl
end Go.Proofs.YtnkcjkpkphjecaaGreatDoor
/- Of rows those that are nought in the first places: one by one. -/
namespace Go.Proofs.YtnkcjkpkphjecaaGreatDoor
open Go.RowKit Limbs
theorem VecN.drop {W:World}{b off cap:Nat}{us:List Int}{nv n m:Nat}(h:VecN W (.slice (some ⟨b,off,none⟩) us.length cap) us nv)(hn:n+m=us.length)(hm:0 < m):VecN W (.slice (some ⟨b,off+n * 2,none⟩) m (cap - n)) (us.drop n) nv:=by
 have hc:us.length≤cap:=by
  obtain⟨_,_,e,h1,-⟩:=h
  simp only [Value.slice.injEq,true_and] at e
  rw [e.2];exact h1
 have hl:(us.drop n).length=m:=by rw [List.length_drop];omega
 refine⟨_,_,by rw [hl],by rw [hl];omega,fun _=>⟨b,off+n * 2,rfl,(h.at 0 (by omega)).1,fun i hi=>?_⟩⟩
 rw [hl] at hi
 obtain⟨-,neg,o,l,c,h1,h2,h3⟩:=h.at (n+i) (by omega)
 refine⟨neg,o,l,c,?_,?_,?_⟩
 ·rw [show off+n * 2+i * 2=off+(n+i) * 2 by omega];exact h1
 ·rw [show off+n * 2+i * 2+1=off+(n+i) * 2+1 by omega];exact h2
 ·rw [zbH];exact h3
theorem zg7 (n:Nat)(ts:List (List Int))(k:Nat)(hk:k < ts.length):behindL n (ts.take (k+1))=behindL n (ts.take k) ++(if (n:Int)≤first ts[k] then [ts[k].drop n] else []):=by
 unfold behindL
 rw [List.take_succ_eq_append_getElem hk,List.filter_append,List.map_append]
 by_cases h:(n:Int)≤first ts[k]
 ·rw [if_pos h,List.filter_cons_of_pos (by simpa using h)];rfl
 ·rw [if_neg h,List.filter_cons_of_neg (by simpa using h)];rfl
theorem zg6 (n:Nat)(ts:List (List Int))(k:Nat):(behindL n (ts.take k)).length≤k:=by
 unfold behindL
 rw [List.length_map]
 exact Nat.le_trans (List.length_filter_le _ _) (by rw [List.length_take];omega)
end Go.Proofs.YtnkcjkpkphjecaaGreatDoor
/- Rows in the one form are bounded by what generates the same. -/
namespace Go.Proofs.YtnkcjkpkphjecaaGreatDoor
open Go.RowKit Limbs
theorem FormL.short {n:Nat}{hs:List (List Int)}{p:Nat→Nat}(h:FormL n hs p):hs.length≤n:=by
 have hrm:∀ k,k < hs.length→k≤p k:=fun k=>by
  induction k with
  | zero=>exact fun _=>Nat.zero_le _
  | succ k ih=>intro hk;have:=ih (by omega);have:=h.form.inc k (k+1) (by omega) hk;omega
 by_cases h0:hs.length=0
 ·omega
 ·have:=hrm (hs.length - 1) (by omega);have:=h.form.lt (hs.length - 1) (by omega);omega
theorem zip {n nv:Nat}{hs l:List (List Int)}{p:Nat→Nat}(h:FormL n hs p)(ha:Alikes n (InL hs) (InL l))(hl:∀ us∈l,us.length=n)(hb:∀ us∈l,∀ j,j < n→ab (us.getD j 0) < bp nv)(hn:n≤16):
  ∀ r∈hs,∀ j,j < r.length→ab (r.getD j 0) < bp (n * nv+2):=by
 obtain⟨C,hC⟩:=zG (r:=hs.length) (n:=n) (mm:=l.length) (H:=fun k b=>(hs.getD k []).getD b 0) (M:=fun k b=>(l.getD k []).getD b 0) (fun a haa=>zw ((ha _).1 (.base (zm haa) (h.len _ (zm haa)))))
 obtain⟨T,hT⟩:=zG (r:=l.length) (n:=n) (mm:=hs.length) (H:=fun k b=>(l.getD k []).getD b 0) (M:=fun k b=>(hs.getD k []).getD b 0) (fun a haa=>zw ((ha _).2 (.base (zm haa) (hl _ (zm haa)))))
 intro r hr j hj
 obtain⟨k,hk,e⟩:=List.getElem_of_mem hr
 have hlen:=h.len r hr
 have h1:=zeZ hs.length l.length n _ _ C T p (bp nv) (by have:=zC nv;omega) h.form.lt (fun i k hi hki=>h.form.zero i (p k) hi (h.form.inc k i hki hi)) (fun i hi=>h.form.pos i hi) (fun i k hi hk hik=>⟨(h.form.red i k hik hk).1,Int.le_of_lt (h.form.red i k hik hk).2⟩) hC hT (fun a b ha hb'=>Int.le_of_lt (hb _ (zm ha) b hb')) k j hk (by omega)
 have h2:=zdo (v:=nv) h.short hn
 rw [zk hk,e] at h1
 exact Int.lt_of_le_of_lt h1 h2
theorem MatN.tight {w:World}{v:Value}{zss:List (List Int)}{n m:Nat}(h:MatN w v zss n)(hz:∀ zs∈zss,∀ j,j < zs.length→ab (zs.getD j 0) < bp m):MatN w v zss m:=by
 obtain⟨ao,cap,hv,h1,h2⟩:=h
 refine⟨ao,cap,hv,h1,fun h0=>?_⟩
 obtain⟨b,off,e,hlt,hc⟩:=h2 h0
 refine⟨b,off,e,hlt,fun i zs hi=>?_⟩
 obtain⟨u,cu,hu⟩:=hc i zs hi
 exact⟨u,cu,hu.tight (hz zs (List.mem_of_getElem? hi))⟩
theorem MatN.abs {w:World}{v:Value}{ms:List (List Int)}{nv:Nat}(h:MatN w v ms nv):∀ us∈ms,∀ j,j < us.length→ab (us.getD j 0) < bp nv:=fun us hus j hj=>by
 obtain⟨i,hi,e⟩:=List.getElem_of_mem hus
 obtain⟨b,off,cap',e1,hlt,u,hc,hu⟩:=h.at i hi
 rw [e] at hu
 obtain⟨b',off',cap2,e2⟩:=hu.form (by omega)
 subst e2
 obtain⟨-,neg,o,l,c,-,-,hz⟩:=hu.at j hj
 exact hz.ab_lt
end Go.Proofs.YtnkcjkpkphjecaaGreatDoor
/- What rows make nought of: how much of it there is; of its places all is made. No Go in it. -/
namespace Go.Proofs.YtnkcjkpkphjecaaGreatDoor
open Go.RowKit Limbs
def ent (ts:List (List Int))(k b:Nat):Int:=(ts.getD k []).getD b 0
theorem zgt (c m:Nat)(f:Nat→Int)(h:∀ k,c≤k→k < c+m→f k=0):sumN (c+m) f=sumN c f:=by
 induction m with
 | zero=>rfl
 | succ m ih=>
  have e:sumN (c+(m+1)) f=sumN (c+m) f+f (c+m):=rfl
  rw [e,ih fun k h1 h2=>h k h1 (by omega),h (c+m) (by omega) (by omega),Int.add_zero]
theorem zdt {n:Nat}{hs ks:List (List Int)}{p:Nat→Nat}(F:FormL n hs p)(a:Alikes n (InL hs) (InL ks)):hs.length≤ks.length:=by
 obtain⟨C,hC⟩:=zG (r:=hs.length) (n:=n) (mm:=ks.length) (H:=ent hs) (M:=ent ks) fun k hk=>by
  have hm:hs[k]∈hs:=List.getElem_mem hk
  have g:=zw ((a hs[k]).1 (.base hm (F.len _ hm)))
  have e:ent hs k=fun b=>hs[k].getD b 0:=by funext b;unfold ent;rw [zk hk]
  rw [e];exact g
 exact zaI hs.length ks.length n (ent hs) (ent ks) C p F.form.lt (fun i k hi hki=>F.form.zero i (p k) hi (F.form.inc k i hki hi)) (fun i hi=>F.form.pos i hi) hC
section
variable {hs ts:List (List Int)}{n:Nat}{ph p:Nat→Nat}
theorem zgA (hs:List (List Int))(n j:Nat)(hj:j < n):Gens (hs.length+n) (InL (tracedL hs n)) ((tracedL hs n).getD j []):=
 .base (zm (by rw [zaL];exact hj)) (zd5 hs n _ (zm (by rw [zaL];exact hj)))
theorem zkX (hs:List (List Int))(n j b:Nat)(hj:j < n)(hb:b < hs.length):ent (tracedL hs n) j b=ent hs b j:=by
 unfold ent
 rw [zbZ hs n j hj,zbJ _ _ _ (by rw [List.length_map];exact hb),zak _ _ _ hb]
theorem zgB (hs:List (List Int))(n j b:Nat)(hj:j < n)(hb:b < n):ent (tracedL hs n) j (hs.length+b)=if b=j then 1 else 0:=by
 unfold ent
 have g:=zbK (hs.map fun r=>r.getD j 0) (unitL n j) b
 rw [List.length_map] at g
 rw [zbZ hs n j hj,g,zb9 n j b hb]
theorem zkV (F:FormL (hs.length+n) ts p)(a:Alikes (hs.length+n) (InL ts) (InL (tracedL hs n))):ts.length=n:=by
 have h1:=zdt F a
 rw [zaL] at h1
 obtain⟨C,hC⟩:=zG (r:=n) (n:=hs.length+n) (mm:=ts.length) (H:=ent (tracedL hs n)) (M:=ent ts) fun k hk=>zw ((a _).2 (zgA hs n k hk))
 have h2:=zaI n ts.length (hs.length+n) (ent (tracedL hs n)) (ent ts) C (fun k=>hs.length+k) (fun k hk=>by omega)
  (fun i k hi hki=>by rw [zgB hs n i k hi (by omega),if_neg (by omega)]) (fun i hi=>by rw [zgB hs n i i hi hi,if_pos rfl];exact Int.le_refl 1) hC
 omega
theorem zgU (G:FormL n hs ph)(F:FormL (hs.length+n) ts p)(a:Alikes (hs.length+n) (InL ts) (InL (tracedL hs n))){c:Nat}(hc:c≤ts.length)(h1:∀ k,k < c→p k < hs.length)(h2:∀ k,c≤k→k < ts.length→hs.length≤p k):c=hs.length:=by
 have hle:∀ k,k < c→k≤p k:=fun k=>by
  induction k with
  | zero=>exact fun _=>Nat.zero_le _
  | succ k ih=>intro hk;have:=ih (by omega);have:=F.form.inc k (k+1) (by omega) (by omega);omega
 have hc1:c≤hs.length:=by
  by_cases h0:c=0
  ·omega
  ·have:=hle (c - 1) (by omega);have:=h1 (c - 1) (by omega);omega
 obtain⟨C,hC⟩:=zG (r:=hs.length) (n:=hs.length) (mm:=c) (H:=fun i b=>ent hs b (ph (hs.length - 1 - i))) (M:=ent ts) fun i hi=>by
  have hj:ph (hs.length - 1 - i) < n:=G.form.lt _ (by omega)
  obtain⟨d,hd⟩:=zw ((a _).2 (zgA hs n _ hj))
  refine⟨d,fun b hb=>?_⟩
  have e1:ent (tracedL hs n) (ph (hs.length - 1 - i)) b=sumN ts.length (fun k=>d k * ent ts k b):=hd b (by omega)
  rw [zkX hs n _ b hj hb] at e1
  show ent hs b (ph (hs.length - 1 - i))=_
  rw [e1,show ts.length=c+(ts.length - c) by omega]
  refine zgt c _ _ fun k hk1 hk2=>?_
  have h3:=h2 k hk1 (by omega)
  have e0:ent ts k b=0:=F.form.zero k b (by omega) (by omega)
  rw [e0,Int.mul_zero]
 have:=zaI hs.length c hs.length (fun i b=>ent hs b (ph (hs.length - 1 - i))) (ent ts) C (fun k=>hs.length - 1 - k) (fun k hk=>by omega)
  (fun i k hi hki=>G.form.zero (hs.length - 1 - k) (ph (hs.length - 1 - i)) (by omega) (G.form.inc _ _ (by omega) (by omega)))
  (fun i hi=>G.form.pos (hs.length - 1 - i) (by omega)) hC
 omega
theorem zg8 (F:FormL (hs.length+n) ts p):∃ c,c≤ts.length∧(∀ k,k < c→p k < hs.length)∧(∀ k,c≤k→k < ts.length→hs.length≤p k)∧behindL hs.length ts=(ts.drop c).map (·.drop hs.length):=by
 obtain⟨c,h0,h1,h2,e⟩:=zdp (n:=hs.length) F
 exact⟨c,h0,h1,h2,by unfold behindL;rw [e]⟩
theorem zfe (G:FormL n hs ph)(F:FormL (hs.length+n) ts p)(a:Alikes (hs.length+n) (InL ts) (InL (tracedL hs n))):(behindL hs.length ts).length+hs.length=n:=by
 obtain⟨c,h0,h1,h2,e⟩:=zg8 F
 have hc:=zgU G F a h0 h1 h2
 have ht:=zkV F a
 rw [e,List.length_map,List.length_drop]
 omega
end
def colsL (ks:List (List Int))(n:Nat):List (List Int):=(List.range n).map fun j=>ks.map fun r=>r.getD j 0
theorem zW (ks:List (List Int))(n:Nat):(colsL ks n).length=n:=by simp [colsL]
theorem zbd (ks:List (List Int))(n:Nat):∀ r∈colsL ks n,r.length=ks.length:=fun r hr=>by
 obtain⟨j,-,rfl⟩:=List.mem_map.1 hr
 rw [List.length_map]
theorem zbc (ks:List (List Int))(n j:Nat)(hj:j < n):(colsL ks n).getD j []=ks.map fun r=>r.getD j 0:=by
 rw [zk (by rw [zW];exact hj)]
 simp [colsL]
def idL (r:Nat):List (List Int):=(List.range r).map (unitL r)
end Go.Proofs.YtnkcjkpkphjecaaGreatDoor
