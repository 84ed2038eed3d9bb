import Derived.Test.YtdedolkgcdlmeaaGreatDoorBehL
set_option maxRecDepth 100000
set_option maxHeartbeats 4000000
set_option linter.unusedSimpArgs false
namespace Go.Proofs.YtdedolkgcdlmeaaGreatDoor
open Go.RowKit Limbs
variable {W w W':World}{O m N n i base k:Nat}{v:Value}
def updN {α:Type}(f:Nat→α)(k:Nat)(x:α):Nat→α:=fun i=>if i=k then x else f i
theorem zaL {α:Type}(f:Nat→α)(k:Nat)(x:α):updN f k x k=x:=if_pos rfl
theorem zar {α:Type}(f:Nat→α)(k:Nat)(x:α)(h:i≠k):updN f k x i=f i:=if_neg h
structure OutG (w W:World)(O m:Nat)(vs:Nat→Value)(ps:Nat→List (Nm × Int))(N:Nat):Prop where
 low:Below w.heap.size w W
 high:w.heap.size≤O
 blk:∃ cs,W.heap[O]?=some (.cells cs 72)
 cell:∀ i,i<m→W.cell? ⟨O,i,none⟩=some (vs i)
 grow:∀ i,i<m→Grow W w.heap.size (vs i) (ps i) N
 two:∀ i k,i<m→k<m→i≠k→∀ g,(vs i).ownBlock=some g→(vs k).ownBlock≠some g
 lim:∀ i k,i<m→k<m→∀ p∈ps i,apart (vs k).ownBlock p.1.sl
theorem OutG.start{W0:World}(hb:Below w.heap.size w W0)(m N:Nat):OutG w (W0.alloc (.cells (madeCells #[.slice none 0 0] m) 72)) W0.heap.size m (fun _=>.slice none 0 0) (fun _=>[]) N where
 low:=hb.alloc hb.size _
 high:=hb.size
 blk:=⟨_,heap_alloc_new W0 _⟩
 cell:=fun i hi=>by
  rw [World.cell?_alloc_new];exact zd6 m i hi
 grow:=fun _ _=>Grow.nil _ _ _
 two:=fun _ _ _ _ _ g h=>by cases h
 lim:=fun _ _ _ _ p hp=>by cases hp
theorem OutG.lt{vs:Nat→Value}{ps:Nat→List (Nm × Int)}(h:OutG w W O m vs ps N):O<W.heap.size:=by
 obtain⟨cs,e⟩:=h.blk;exact zt e
theorem OutG.thaw{vs:Nat→Value}{ps:Nat→List (Nm × Int)}(h:OutG w W O m vs ps N)(k:Nat):W.frozen? ⟨O,k,none⟩=false:=by
 obtain⟨cs,e⟩:=h.blk;simp [World.frozen?,e]
theorem OutG.later{vs:Nat→Value}{ps:Nat→List (Nm × Int)}(h:OutG w W O m vs ps N)(hb:Below W.heap.size W W'):OutG w W' O m vs ps N where
 low:=h.low.trans (hb.mono h.low.size)
 high:=h.high
 blk:=by obtain⟨cs,e⟩:=h.blk;exact⟨cs,(hb.block _ (zt e)).trans e⟩
 cell:=fun i hi=>(hb.cell (p:=⟨O,i,none⟩) h.lt).trans (h.cell i hi)
 grow:=fun i hi=>(h.grow i hi).later hb
 two:=h.two
 lim:=h.lim
theorem OutG.own_ne{vs:Nat→Value}{ps:Nat→List (Nm × Int)}(h:OutG w W O m vs ps N)(hi:i<m):some O≠(vs i).ownBlock:=fun e=>by
 obtain⟨cs,hO⟩:=h.blk;rcases(h.grow i hi).1.2 with⟨e1,-⟩ |⟨g,cap,cur,e1,-,hh,-⟩
 ·rw [e1] at e;cases e
 ·rw [e1] at e;simp only [Value.ownBlock,Option.some.injEq] at e;rw [← e,hO] at hh;simp only [Option.some.injEq,Obj.cells.injEq] at hh;exact absurd hh.2.1 (by decide)
theorem zgu{e:TypeId}{size:Nat}{xs:List Value}(h:W.ownsRow base e size v n xs)(hk:∀ g,v.ownBlock=some g→W'.heap[g]?=W.heap[g]?):W'.ownsRow base e size v n xs:=by
 refine⟨h.1,?_⟩;rcases h.2 with hn |⟨g,cap,cur,ev,hbg,hg,rest⟩
 ·exact .inl hn
 ·exact .inr ⟨g,cap,cur,ev,hbg,(hk g (by rw [ev];rfl)).trans hg,rest⟩
theorem zcZ{ps:List (Nm × Int)}(h:Grow W base v ps n){g:Nat}(hg:v.ownBlock=some g):g<W.heap.size:=(h.1.lt g hg).2
theorem OutG.push{W3:World}{vs:Nat→Value}{ps:Nat→List (Nm × Int)}(h:OutG w W O m vs ps N)(hk:k<m)(qs:List (Nm × Int))(hq:∀ p∈qs,NumL W p.1.val p.2 N)(hqa:∀ i,i<m→∀ p∈qs,apart (vs i).ownBlock p.1.sl)
  {g L cap:Nat} (hL:L=(ps k).length+qs.length) (hown:W3.ownsRow w.heap.size 29 2 (.slice (some ⟨g,0,none⟩) L cap) L ((ps k).flatMap ncells++qs.flatMap ncells)) (hg:W.grownBy W3 (vs k).ownBlock) (hat:(vs k).ownBlock=some g∨W.heap.size≤g):
  OutG w (W3.setCell ⟨O,k,none⟩ (.slice (some ⟨g,0,none⟩) L cap)) O m (updN vs k (.slice (some ⟨g,0,none⟩) L cap)) (updN ps k (ps k++qs)) N:=by
 obtain⟨cs,hO⟩:=h.blk;have hOlt:=h.lt;have hO3:W3.heap[O]?=some (.cells cs 72):=(hg.block O hOlt (h.own_ne hk)).trans hO;have hc3:∀ i,i<m→W3.cell? ⟨O,i,none⟩=some (vs i):=fun i hi=>hg.cell (h.cell i hi) (h.own_ne hk);have hgO:g≠O:=by
  intro e;rcases hown.2 with⟨e1,-⟩ |⟨g',cap',cur,e1,-,hh,-⟩
  ·cases e1
  ·simp only [zV,Option.some.injEq,Addr.mk.injEq,and_true] at e1;rw [← e1.1,e,hO3] at hh;simp only [Option.some.injEq,Obj.cells.injEq] at hh;exact absurd hh.2.1 (by decide)
 have hslice:∃ o l c,vs k=.slice o l c:=by
  rcases(h.grow k hk).1.2 with⟨e1,-⟩ |⟨g',cap',cur,e1,-⟩
  ·exact⟨_,_,_,e1⟩
  ·exact⟨_,_,_,e1⟩
 have hu:∀ z,vs k≠.int .u32 z:=fun z e=>by
  obtain⟨o,l,c,e1⟩:=hslice;rw [e1] at e;cases e
 have hnum:∀ p:Nm × Int,NumL W p.1.val p.2 N→apart (vs k).ownBlock p.1.sl→NumL (W3.setCell ⟨O,k,none⟩ (.slice (some ⟨g,0,none⟩) L cap)) p.1.val p.2 N:=fun p h1 h2=>(h1.grown hg h2).setCell (hc3 k hk) hu;have hnew:∀ p:Nm × Int,NumL W p.1.val p.2 N→apart (vs k).ownBlock p.1.sl→apart (some g) p.1.sl:=fun p h1 h2 a l c e h0 hb=>by
  rcases hat with hat | hat
  ·exact h2 a l c e h0 (hb.trans hat.symm)
  ·have:=h1.inside a l c e h0;simp only [Option.some.injEq] at hb;omega
 have hall:∀ i,i<m→∀ p∈updN ps k (ps k++qs) i,NumL W p.1.val p.2 N∧∀ j,j<m→apart (vs j).ownBlock p.1.sl:=fun i hi p hp=>by
  by_cases e:i=k
  ·rw [e,zaL] at hp;rcases List.mem_append.1 hp with hp | hp
   ·exact⟨((h.grow k hk).2 p hp).1,fun j hj=>h.lim k j hk hj p hp⟩
   ·exact⟨hq p hp,fun j hj=>hqa j hj p hp⟩
  ·rw [zar _ _ _ e] at hp;exact⟨((h.grow i hi).2 p hp).1,fun j hj=>h.lim i j hi hj p hp⟩
 have hlim:∀ i j,i<m→j<m→∀ p∈updN ps k (ps k++qs) i,apart (updN vs k (.slice (some ⟨g,0,none⟩) L cap) j).ownBlock p.1.sl:=fun i j hi hj p hp=>by
  obtain⟨h1,h2⟩:=hall i hi p hp;by_cases e:j=k
  ·rw [e,zaL];exact hnew p h1 (h2 k hk)
  ·rw [zar _ _ _ e];exact h2 j hj
 have hheap:∀ b,b≠O→(W3.setCell ⟨O,k,none⟩ (.slice (some ⟨g,0,none⟩) L cap)).heap[b]?=W3.heap[b]?:=fun b hb=>heap_setCell_other _ _ b _ (fun e=>hb e);have hb3:Below w.heap.size w W3:=h.low.grown hg h.low.size (fun b hb=>((h.grow k hk).1.lt b hb).1);refine⟨hb3.setCell (p:=⟨O,k,none⟩) h.high _,h.high,⟨_,heap_setCell_same W3 O k _ _ _ hO3⟩,fun i hi=>?_,fun i hi=>⟨?_,fun p hp=>⟨?_,hlim i i hi hi p hp⟩⟩,fun i j hi hj hij b h1 h2=>?_,hlim⟩
 ·by_cases e:i=k
  ·rw [e,zaL];exact World.cell?_setCell_same (h:=hc3 k hk) ..
  ·rw [zar _ _ _ e];exact(World.cell?_setCell_other (h:=fun e'=>by simp at e' <;> omega) ..).trans (hc3 i hi)
 ·by_cases e:i=k
  ·rw [e,zaL,zaL,List.length_append,← hL,List.flatMap_append];exact zgu hown fun b hb=>hheap b (by
    simp only [Value.ownBlock,Option.some.injEq] at hb;omega)
  ·rw [zar _ _ _ e,zar _ _ _ e];refine zgu (h.grow i hi).1 fun b hb=>(hheap b fun e'=>h.own_ne hi (by rw [hb,e'])).trans ?_;exact hg.block b (zcZ (h.grow i hi) hb) fun e'=>h.two i k hi hk e b hb e'.symm
 ·obtain⟨h1,h2⟩:=hall i hi p hp;exact hnum p h1 (h2 k hk)
 ·by_cases e:i=k
  ·rw [e,zaL] at h1;have ej:j≠k:=by omega
   rw [zar _ _ _ ej] at h2;simp only [Value.ownBlock,Option.some.injEq] at h1;rcases hat with hat | hat
   ·exact h.two k j hk hj (by omega) b (by rw [hat,h1]) h2
   ·have:=zcZ (h.grow j hj) h2;omega
  ·rw [zar _ _ _ e] at h1;by_cases ej:j=k
   ·rw [ej,zaL] at h2;simp only [Value.ownBlock,Option.some.injEq] at h2;rcases hat with hat | hat
    ·exact h.two k i hk hi (by omega) b (by rw [hat,h2]) h1
    ·have:=zcZ (h.grow i hi) h1;omega
   ·rw [zar _ _ _ ej] at h2;exact h.two i j hi hj hij b h1 h2
theorem OutG.mat{vs:Nat→Value}{ps:Nat→List (Nm × Int)}(h:OutG w W O m vs ps N)(zss:List (List Int))(hl:zss.length=m)(hz:∀ i,i<m→(ps i).map (·.2)=zss.getD i []):MatN W (.slice (some ⟨O,0,none⟩) m m) zss N:=by
 subst hl;refine⟨_,_,rfl,Nat.le_refl _,fun h0=>⟨_,_,rfl,h.lt,fun i zs hi=>?_⟩⟩;obtain⟨hi',e⟩:=List.getElem?_eq_some_iff.1 hi;refine⟨vs i,by rw [Nat.zero_add];exact h.cell i hi',?_⟩;have:=(h.grow i hi').vec;rw [hz i hi',zm hi',e] at this;exact this
theorem OutG.old{vs:Nat→Value}{ps:Nat→List (Nm × Int)}(h:OutG w W O m vs ps N){r:Nm}{z:Int}(hr:NumL w r.val z n)(hi:i<m):apart (vs i).ownBlock r.sl:=fun a l c e h0 hb=>by
 have h1:=hr.inside a l c e h0;have h2:=((h.grow i hi).1.lt a.block hb.symm).1;omega
theorem zlr (m:Nat)(hm:m≤1000)(W:World):(Instr.makeSlice 23 (.int .i64 (m:Int)) (.int .i64 (m:Int))).run Tryz.prog W=.ok (.slice (some ⟨W.heap.size,0,none⟩) m m) (W.alloc (.cells (madeCells #[.slice none 0 0] m) 72)):=by
 obtain⟨i0,hi,hz0,hz1,hz2⟩:=info_parts Tryz.infoVec;have h:=run_make (P:=Tryz.prog) W 23 72 i0 (.slice none 0 0) (by kernel_rfl) hi hz0 .i64 .i64 m m (by omega) (by omega) (by rw [hz2];omega) (by omega);rw [hz1,Int.toNat_natCast,Nat.mul_one] at h;exact h
def colL (hs:List (List Int))(k:Nat):List Int:=hs.map fun r=>r.getD k 0
theorem zes (w:World)(va:Value)(n nv:Nat)(hs:List (List Int))(ha:MatN w va hs nv)(hl:∀ r∈hs,r.length=n)(hn:n≤100)(hm:hs.length≤100):
  Calls Tryz.prog 65 #[va,.int .i64 (n:Int)] w fun e w'=>∃ O vs ps,e=.returned (.slice (some ⟨O,0,none⟩) n n)∧OutG w w' O n vs ps nv∧∀ i,i<n→(ps i).map (·.2)=colL hs i:=by
 obtain⟨i0,hi,hz0,hz1,hz2⟩:=info_parts Tryz.infoNum;have HA:=hide ha;have HL:=hide hl;obtain⟨ao,acap,rfl,-,-⟩:=ha;clear hl;have hmk:=zlr n (by omega);have HO0:=hide (OutG.start (zB w.heap.size w) n nv);go_enter Tryz.func65,Tryz.ntmps65;go_wp2;clear hmk;go_loopw [11] (fun x wr=>∃(k:Nat) (vs:Nat→Value) (ps:Nat→List (Nm × Int)),k≤n∧x=.int .i64 k∧Hid (OutG w wr w.heap.size n vs ps nv)∧Hid (∀ i,i<k→(ps i).map (·.2)=colL hs i)∧Hid (∀ i,k≤i→ps i=[])) (fun x _=>n-(intOf x).toNat)
 case atStart=>exact⟨0,_,_,Nat.zero_le _,rfl,HO0,hide (fun i hi=>absurd hi (Nat.not_lt_zero i)),hide (fun _ _=>rfl)⟩
 case round=>
  clear HO0;obtain⟨k,vs,ps,hk,rfl,HO,HD,HE⟩:=hrel;by_cases hkl:k<n
  ·go_wp2;go_loopw [16] (fun y wr=>∃(q:Nat) (vs:Nat→Value) (ps:Nat→List (Nm × Int)),q≤hs.length∧y=.int .i64 q∧Hid (OutG w wr w.heap.size n vs ps nv)∧Hid (∀ i,i<k→(ps i).map (·.2)=colL hs i)∧Hid ((ps k).map (·.2)=colL (hs.take q) k)∧Hid (∀ i,k<i→ps i=[])) (fun y _=>hs.length-(intOf y).toNat)
   case atStart=>exact⟨0,_,_,Nat.zero_le _,rfl,HO,HD,hide (by rw [HE.out k zL];rfl),hide (fun i hi=>HE.out i (Nat.le_of_lt hi))⟩
   case round=>
    clear HO HD HE vs ps;obtain⟨q,vs,ps,hq,rfl,HO,HD,HM,HE⟩:=hrel;by_cases hql:q<hs.length
    ·obtain⟨rb,roff,_,e,lr,ru,cu,hru⟩:=HA.out.at q hql;simp only [zV,true_and] at e;obtain⟨rfl,rfl⟩:=e;have hul:hs[q].length=n:=HL.out _ (List.getElem_mem hql);have HTK:Hid (colL (hs.take (q+1)) k=colL (hs.take q) k++[hs[q].getD k 0]):=by
      show _=_;unfold colL;rw [List.take_succ_eq_append_getElem hql,List.map_append];rfl
     obtain⟨vb,voff,vcap,rfl⟩:=hru.form (by omega);obtain⟨lv,neg,lo,ll,lc,z0,z1,nz⟩:=hru.at k (by omega);have c9:=(HO.out.low.cell (p:=⟨rb,roff+q,none⟩) lr).trans cu;have c12:=(HO.out.low.cell (p:=⟨vb,voff+k*2,none⟩) lv).trans z0;have c13:=(HO.out.low.cell (p:=⟨vb,voff+k*2+1,none⟩) lv).trans z1;have HNZ:Hid (NumL w (Nm.val ⟨neg,lo,ll,lc⟩) (hs[q].getD k 0) nv):=nz;have HPL:Hid ((ps k).length=q):=by
      have h1:=congrArg List.length HM.out;unfold colL at h1;rw [zM,zM,List.length_take] at h1;show _=_;omega
     rw [hul] at c9;clear hru cu z0 z1 nz hul;generalize hs[q].getD k 0=z at *;have c5:=HO.out.cell k hkl;have HC5:=hide c5;obtain⟨vo,vl,vc,hvk⟩:∃ vo vl vc,vs k=.slice vo vl vc:=by
      rcases(HO.out.grow k hkl).1.2 with⟨e1,-⟩ |⟨g',cap',cur,e1,-⟩
      ·exact⟨_,_,_,e1⟩
      ·exact⟨_,_,_,e1⟩
     rw [hvk] at c5;have hOlt:=HO.out.lt;have hfO:=HO.out.thaw k;have HVK:=hide hvk;clear hvk;have HOA:=hide (HO.out.later (W':=wr.drew.alloc (.cells #[.bool neg,.slice lo ll lc] 29)) ((zB _ _).drew.alloc zL _));have hrb:rb<wr.heap.size:=zT lr HO.out.low.size;have hvb:vb<wr.heap.size:=zT lv HO.out.low.size;have HRB:Hid (some rb≠(vs k).ownBlock):=fun e=>by have:=((HO.out.grow k hkl).1.lt rb e.symm).1;omega
     have HVB:Hid (some vb≠(vs k).ownBlock):=fun e=>by have:=((HO.out.grow k hkl).1.lt vb e.symm).1;omega
     have HON:=hide (HO.out.own_ne hkl);have hws:=HO.out.low.size;go_wp2_with fail;refine zr (S:=(fun w'=>w'.cell? ⟨w.heap.size,k,none⟩=some (.slice vo vl vc)∧w'.cell? ⟨rb,roff+q,none⟩=some (.slice (some ⟨vb,voff,none⟩) n vcap)∧w'.cell? ⟨vb,voff+k*2,none⟩=some (.bool neg)∧w'.cell? ⟨vb,voff+k*2+1,none⟩=some (.slice lo ll lc))) (k:=16) (by kernel_rfl) (by exact⟨c5,c9,c12,c13⟩) (fun hHeld=>?_);refine zc 0 19 [16] ?_;try simp only [zA]
     refine zc 1 20 [16] ?_;try simp only [zA]
     refine zc 2 21 [16] ?_;try simp only [zA]
     refine zc 3 22 [16] ?_;try simp only [zA]
     refine zc 4 23 [16] ?_;try simp only [zA]
     refine zc 5 24 [16] ?_;try simp only [zA]
     refine zc 6 25 [16] ?_;try simp only [zA]
     refine zc 7 26 [16] ?_;try simp only [zA]
     refine zc 8 27 [16] ?_;try simp only [zA]
     refine zc 9 28 [16] ?_;try simp only [zA]
     refine zc 10 29 [16] ?_;try simp only [zA]
     refine zc 11 30 [16] ?_;try simp only [zA]
     refine zc 12 31 [16] ?_;try simp only [zA]
     refine zf 13 (by kernel_rfl) rfl (fun K hK=>?_);go_simp;have hbA:Below wr.heap.size wr (wr.drew.alloc (.cells #[.bool neg,.slice lo ll lc] 29)):=(zB _ _).drew.alloc zL _;have d5:=(hbA.cell (p:=⟨w.heap.size,k,none⟩) hOlt).trans c5;have d9:=(hbA.cell (p:=⟨rb,roff+q,none⟩) hrb).trans c9;have d12:=(hbA.cell (p:=⟨vb,voff+k*2,none⟩) hvb).trans c12;have d13:=(hbA.cell (p:=⟨vb,voff+k*2+1,none⟩) hvb).trans c13;refine hK.out _ _ (fun _=>⟨d5,d9,d12,d13⟩) ?_;clear hK K;try simp only [zA]
     refine zf 14 (by kernel_rfl) rfl (fun K hK=>?_);refine step_append_lies _ rfl (.tmp 24) (.tmp 32) 72 rfl w.heap.size 29 i0 (.agg #[.bool false,.slice none 0 0]) 2 32 (by kernel_rfl) hi hz0 hz1 hz2 rfl (by decide) (.slice vo vl vc) (ps k).length ((ps k).flatMap ncells) rfl (by have:=(HOA.out.grow k hkl).1;rw [HVK.out] at this;exact this) ⟨wr.heap.size,0,none⟩ 1 1 [.bool neg,.slice lo ll lc] rfl rfl (World.news_of_block (heap_alloc_new wr.drew _)) (fun u hu=>by simp only [List.mem_cons,List.mem_nil_iff,or_false] at hu;rcases hu with rfl | rfl <;> rfl) (by decide) (by unfold maxLen;have:=HPL.out;omega) (by have:=HPL.out;omega) (by simp;omega) (wr.heap.size+1) (by simp) ?_;intro g5 cap5 w5 hown5 hgrow5 hat5 hlt5;have HO5:=hide hown5;have HG5:=hide hgrow5;have HA5:=hide hat5;clear hown5 hgrow5 hat5 hlt5;have e5:=HG5.out.cell d5 (by rw [← HVK.out];exact HON.out);have e9:=HG5.out.cell d9 (by rw [← HVK.out];exact HRB.out);have e12:=HG5.out.cell d12 (by rw [← HVK.out];exact HVB.out);have e13:=HG5.out.cell d13 (by rw [← HVK.out];exact HVB.out);refine hK.out _ _ (fun _=>⟨e5,e9,e12,e13⟩) ?_;clear hK K;try simp only [zA]
     have hHeld5:(fun w'=>w'.cell? ⟨w.heap.size,k,none⟩=some (.slice vo vl vc)∧w'.cell? ⟨rb,roff+q,none⟩=some (.slice (some ⟨vb,voff,none⟩) n vcap)∧w'.cell? ⟨vb,voff+k*2,none⟩=some (.bool neg)∧w'.cell? ⟨vb,voff+k*2+1,none⟩=some (.slice lo ll lc)) w5:=⟨e5,e9,e12,e13⟩;clear hHeld;refine zc 15 34 [16] ?_;try simp only [zA]
     have HP:=hide (HOA.out.push hkl [(⟨neg,lo,ll,lc⟩,z)] (fun p hp=>by rw [List.mem_singleton] at hp;subst hp;exact HNZ.out.below HOA.out.low zL) (fun i hi p hp=>by rw [List.mem_singleton] at hp;subst hp;exact HOA.out.old HNZ.out hi) (L:=(ps k).length+1) rfl (by have:=HO5.out;simpa [ncells] using this) (by rw [HVK.out];exact HG5.out) (by rw [HVK.out];exact HA5.out.imp id fun h=>by rw [h];simp));have ef:w5.frozen? ⟨w.heap.size,k,none⟩=false:=by
      have h1:=HOA.out.thaw k;rw [World.frozen?_of_block (a:=⟨w.heap.size,k,none⟩) (HG5.out.block w.heap.size HOA.out.lt (by rw [← HVK.out];exact HON.out))];exact h1
     refine zf 16 (by kernel_rfl) rfl (fun K hK=>?_);go_simp;refine hK.out _ _ (fun h=>absurd h (by decide)) ?_;clear hK K;try simp only [zA]
     refine zp (by kernel_rfl) ?_;have HD':Hid (∀ i,i<k→(updN ps k (ps k++[(⟨neg,lo,ll,lc⟩,z)]) i).map (·.2)=colL hs i):=fun i hi=>by rw [zar _ _ _ (by omega)];exact HD.out i hi
     have HM':Hid ((updN ps k (ps k++[(⟨neg,lo,ll,lc⟩,z)]) k).map (·.2)=colL (hs.take (q+1)) k):=by
      show _=_;rw [zaL,List.map_append,HM.out,HTK.out];rfl
     have HE':Hid (∀ i,k<i→updN ps k (ps k++[(⟨neg,lo,ll,lc⟩,z)]) i=[]):=fun i hi=>by rw [zar _ _ _ (by omega)];exact HE.out i hi
     clear c5 c9 c12 c13 d5 d9 d12 d13 e5 e9 e12 e13 ef HO5 HG5 HA5 HOA HO HD HM HE hHeld5;go_wp2;go_roundw
     case rel=>exact⟨q+1,_,_,by omega,by go_num,HP,HD',HM',HE'⟩
     case measure=>simp [intOf];omega
    ·obtain rfl:q=hs.length:=by omega
     rw [List.take_length] at HM;have HD':Hid (∀ i,i<k+1→(ps i).map (·.2)=colL hs i):=fun i hi=>by
      by_cases e:i=k
      ·rw [e];exact HM.out
      ·exact HD.out i (by omega)
     clear HD HM;go_wp2;go_roundw
     case rel=>exact⟨k+1,_,_,by omega,by go_num,HO,HD',hide (fun i hi=>HE.out i (by omega))⟩
     case measure=>simp [intOf];omega
  ·obtain rfl:k=n:=by omega
   go_wp2;go_ret;exact⟨_,_,_,rfl,HO.out,HD.out⟩
def SignPost (w:World)(z:Int)(n:Nat)(ao:Option Addr)(cap:Nat)(e:Ending)(w':World):Prop:=NumPost w z n e w'∧∃ b l,e=.returned (.agg #[.bool b,.slice ao l cap])
theorem zhd (w:World)(neg:Bool)(ao:Option Addr)(cap:Nat)(zs:List Int)(n:Nat)(h:Lim w (.slice ao zs.length cap) zs)(hn:zs.length≤n):
  Calls Tryz.prog 95 #[.bool neg,.slice ao zs.length cap] w fun e w'=>SignPost w (if neg=true then-lv zs else lv zs) n ao cap e w':=by
 have HL:Hid (Lim w (.slice ao zs.length cap) zs):=h;obtain⟨ao',cap',hv,hcap,hlen,hlb,hc⟩:=h;simp only [zV,true_and] at hv;obtain⟨rfl,rfl⟩:=hv;clear hc;go_enter Tryz.func95,Tryz.ntmps95;go_wp2_with fail;refine(zer _ _ _ zs (HL.out.below ((zB _ _).alloc zL _) zL)).mono ?_;rintro e w' ⟨m,hm,rfl,hv,hnr,rfl⟩;have HV:Hid (lv (zs.take m)=lv zs):=hv;clear hv;have hl:(zs.take m).length=m:=by rw [List.length_take];omega
 have HL2:=HL.out.take m hm;cases neg
 ·have HF:Hid (NumPost w (lv zs) n (.returned (.agg #[.bool false,.slice ao m cap])) (w.alloc (Obj.cells #[Value.bool false,.slice ao m cap] 29))):=
   ⟨_,rfl,⟨false,_,zs.take m,rfl,HL2.below ((zB _ _).alloc zL _) zL,hnr,fun _=>rfl,HV.out.symm,by omega⟩,(zB _ _).alloc zL _⟩
  go_wp2;exact bodyPost_ret (v:=.agg #[.bool false,.slice ao m cap]) (by simp [results,Tryz.results95,go_sem]) rfl ⟨HF.out,_,_,rfl⟩
 ·by_cases h0:m=0
  ·subst h0;have HF:Hid (NumPost w (-lv zs) n (.returned (.agg #[.bool false,.slice ao 0 cap])) (w.alloc (Obj.cells #[Value.bool false,.slice ao 0 cap] 29))):=
    ⟨_,rfl,⟨false,_,zs.take 0,rfl,HL2.below ((zB _ _).alloc zL _) zL,hnr,fun _=>rfl,by have:=HV.out;simp [lv] at this ⊢;omega,by omega⟩,(zB _ _).alloc zL _⟩
   go_wp2;exact bodyPost_ret (v:=.agg #[.bool false,.slice ao 0 cap]) (by simp [results,Tryz.results95,go_sem]) rfl ⟨HF.out,_,_,rfl⟩
  ·have HF:Hid (NumPost w (-lv zs) n (.returned (.agg #[.bool true,.slice ao m cap])) (w.alloc (Obj.cells #[Value.bool true,.slice ao m cap] 29))):=
    ⟨_,rfl,⟨true,_,zs.take m,rfl,HL2.below ((zB _ _).alloc zL _) zL,hnr,fun h=>absurd h (by omega),by rw [if_pos rfl,HV.out],by omega⟩,(zB _ _).alloc zL _⟩
   have hd:decide (0<m)=true:=by simp;omega
   go_wp2;exact bodyPost_ret (v:=.agg #[.bool true,.slice ao m cap]) (by simp [results,Tryz.results95,go_sem]) rfl ⟨HF.out,_,_,rfl⟩
theorem zkQ (w:World)(n:Int)(h0:-9223372036854775808≤n)(h1:n≤9223372036854775807):
  Calls Tryz.prog 53 #[.int .i64 n] w fun e w'=>IntPost w n 2 e w':=by
 by_cases hn:n<0
 ·have hw:IntKind.u64.wrap (-IntKind.u64.wrap n)=-n:=by rw [IntKind.wrap_u64,IntKind.wrap_u64];omega
  have hw2:-n/4294967296%4294967296=-n/4294967296:=by omega
  have HN:=hide (zcV (-n));go_enter Tryz.func53,Tryz.ntmps53;go_wp2_with fail;refine(zhd _ _ _ _ [-n%4294967296,-n/4294967296] 2 (zcS _ _ _ _ (by omega) (by omega) _ (by simp)) zL).mono ?_;rintro e w2 ⟨⟨r,rfl,hr,hb2⟩,sb,sl,es⟩;simp only [Ending.returned.injEq] at es;subst es;obtain⟨c0,c1,f0,f1⟩:=Box.later (B:=w.heap.size) ((zg w _ _ _ _ rfl).later ((zB _ _).alloc (by simp) _:Below (w.heap.size+1) _ _) (by omega)) hb2 (by simp;omega);rw [HN.out,if_pos rfl,Int.neg_neg] at hr;have HF:=hide (fun rn rs (h:NumL w2 (.agg #[.bool rn,rs]) n 2)=>boxed (w:=w) h c0 c1 (by simp) (by simp) ((((zB _ _).alloc zL _).alloc (by simp) _).trans (hb2.mono (by simp;omega))) zL);have HR:=hide hr;clear hb2 hr;go_wp2;exact bodyPost_ret (v:=_) (by simp [results,Tryz.results53,go_sem,c0,c1]) rfl ⟨HF.out _ _ HR.out,fun neg s e a l c h=>by simp only [Ending.returned.injEq,Value.agg.injEq,Array.mk.injEq,List.cons.injEq,and_true] at e;rw [← e.2] at h;simp only [zV,Option.some.injEq] at h;rw [← h.1];simp⟩
 ·have HN:=hide (zcV n);go_enter Tryz.func53,Tryz.ntmps53;go_wp2_with fail;refine(zhd _ _ _ _ [n%4294967296,n/4294967296] 2 (zcS _ _ _ _ (by omega) (by omega) _ (by simp)) zL).mono ?_;rintro e w2 ⟨⟨r,rfl,hr,hb2⟩,sb,sl,es⟩;simp only [Ending.returned.injEq] at es;subst es;obtain⟨c0,c1,f0,f1⟩:=Box.later (B:=w.heap.size) ((zg w _ _ _ _ rfl).later ((zB _ _).alloc (by simp) _:Below (w.heap.size+1) _ _) (by omega)) hb2 (by simp;omega);rw [HN.out,if_neg (by decide)] at hr;have HF:=hide (fun rn rs (h:NumL w2 (.agg #[.bool rn,rs]) n 2)=>boxed (w:=w) h c0 c1 (by simp) (by simp) ((((zB _ _).alloc zL _).alloc (by simp) _).trans (hb2.mono (by simp;omega))) zL);have HR:=hide hr;clear hb2 hr;go_wp2;exact bodyPost_ret (v:=_) (by simp [results,Tryz.results53,go_sem,c0,c1]) rfl ⟨HF.out _ _ HR.out,fun neg s e a l c h=>by simp only [Ending.returned.injEq,Value.agg.injEq,Array.mk.injEq,List.cons.injEq,and_true] at e;rw [← e.2] at h;simp only [zV,Option.some.injEq] at h;rw [← h.1];simp⟩
def NewV (w W:World)(P k:Nat):Prop:=∀ i,i<k→∀ o l c,W.cell? ⟨P,i*2+1,none⟩=some (.slice o l c)→NewSl w (.slice o l c)
theorem NewV.set{W2:World}{P:Nat}{zs:List Int}(h:NewV w W P k)(hv:VecO w W P zs n)(hk:k<zs.length)(hb:Below W.heap.size W W2){o:Option Addr}{l c:Nat}(hn:NewSl W (.slice o l c))(rn:Bool):
  NewV w ((W2.setCell ⟨P,k*2,none⟩ (.bool rn)).setCell ⟨P,k*2+1,none⟩ (.slice o l c)) P (k+1):=fun i hi o' l' c' e=>by
 by_cases e1:i=k
 ·subst e1;obtain⟨neg0,o0,l0,c0,k0,k1,-⟩:=(hv.later hb).at i hk;have k1':(W2.setCell ⟨P,i*2,none⟩ (.bool rn)).cell? ⟨P,i*2+1,none⟩=some (.slice o0 l0 c0):=(World.cell?_setCell_other (h:=fun e=>by simp at e) ..).trans k1;rw [World.cell?_setCell_same (h:=k1')] at e;simp only [Option.some.injEq] at e;rw [← e];intro a l2 c2 h2;exact Nat.le_trans hv.below.size (hn a l2 c2 h2)
 ·have e2:((W2.setCell ⟨P,k*2,none⟩ (.bool rn)).setCell ⟨P,k*2+1,none⟩ (.slice o l c)).cell? ⟨P,i*2+1,none⟩=W2.cell? ⟨P,i*2+1,none⟩:=
   (World.cell?_setCell_other (h:=fun e=>by simp at e <;> omega) ..).trans (World.cell?_setCell_other (h:=fun e=>by simp at e <;> omega) ..)
  rw [e2,hb.cell (p:=⟨P,i*2+1,none⟩) hv.lt] at e;exact h i (by omega) o' l' c' e
theorem zkP (w:World)(v:Value)(ks:List Int)(hv:RowS w v ks)(h8:ks.length≤1000):
  Calls Tryz.prog 49 #[v] w fun e w'=>∃ P,e=.returned (.slice (some ⟨P,0,none⟩) ks.length ks.length)∧VecO w w' P ks 2∧NewV w w' P ks.length:=by
 have HV:=hide hv;obtain⟨ao,cap,rfl,-,hk64,-⟩:=hv;have HK:=hide hk64;have hmk:=zbf ks.length (by omega);have HI:=hide (VecO.made w w (zB _ _) ks.length 2);clear hk64;go_enter Tryz.func49,Tryz.ntmps49;go_wp2;clear hmk;go_loopw [10] (fun i wr=>∃ k:Nat,k≤ks.length∧i=.int .i64 k∧VecO w wr w.heap.size (ks.take k++List.replicate (ks.length-k) 0) 2∧Hid (NewV w wr w.heap.size k)) (fun i _=>ks.length-(intOf i).toNat)
 case atStart=>exact⟨0,Nat.zero_le _,rfl,HI.out,hide fun i hi=>absurd hi (Nat.not_lt_zero i)⟩
 case round=>
  clear HI;obtain⟨k,hk,rfl,hinv,HNV⟩:=hrel;have HI:=hide hinv;clear hinv;by_cases hkl:k<ks.length
  ·obtain⟨_,_,e,-,-,hc⟩:=HV.out.below HI.out.below zL;simp only [zV,true_and] at e;obtain⟨rfl,rfl⟩:=e;obtain⟨b,off,rfl,-,hc⟩:=hc (by omega);have c0:=hc k hkl;have HFS:=hide (zba ks k hkl);have hfl:=zaQ ks k hk;have hkl':k<(ks.take k++List.replicate (ks.length-k) 0).length:=by omega
   have H64:=hide (HK.out k);clear hc;generalize ks.getD k 0=z at *;go_wp2_with fail;refine(zkQ wr z H64.out.1 H64.out.2).mono ?_;rintro e w2 ⟨⟨r,rfl,hr,hb⟩,hnew⟩;obtain⟨⟨rn,ro,rl,rc⟩,rfl⟩:=hr.nm;have HN2:=hide (HNV.out.set HI.out hkl' hb (hnew _ _ rfl) rn);have HI2:=hide (HI.out.later hb);obtain⟨neg0,o0,l0,c0',k0,k1,-⟩:=HI2.out.at k (by omega);have f0:=HI2.out.thaw (k*2);have f1:=HI2.out.thaw (k*2+1);have hP:=HI2.out.lt;have HN:=hide (HI2.out.set (k:=k) (by omega) hr);rw [HFS.out] at HN;clear hb hr hnew HNV HI HI2 HFS H64 c0;go_wp2;go_roundw
   case rel=>exact⟨k+1,by omega,by go_num,HN.out,HN2⟩
   case measure=>simp [intOf];omega
  ·obtain rfl:k=ks.length:=by omega
   have HF:=hide HI.out.full;clear HI;go_wp2;go_ret;exact⟨_,rfl,HF.out,HNV.out⟩
def dotL (n:Nat)(r v:List Int):Int:=sumN n (fun b=>r.getD b 0*v.getD b 0)
def unitL (n j:Nat):List Int:=(List.range n).map fun b=>if b=j then 1 else 0
theorem zaC (n j:Nat):(unitL n j).length=n:=by simp [unitL]
theorem zcq (n j b:Nat)(hb:b<n):(unitL n j).getD b 0=if b=j then 1 else 0:=zaI n _ b hb
def tracedL (ms:List (List Int))(n:Nat):List (List Int):=(List.range n).map fun j=>(ms.map fun r=>r.getD j 0)++unitL n j
theorem zaX (ms:List (List Int))(n:Nat):(tracedL ms n).length=n:=by simp [tracedL]
theorem zeq (ms:List (List Int))(n:Nat):∀ r∈tracedL ms n,r.length=ms.length+n:=by
 intro r hr;obtain⟨j,-,rfl⟩:=List.mem_map.1 hr;rw [List.length_append,zM,zaC]
theorem zco (ms:List (List Int))(n j:Nat)(hj:j<n):(tracedL ms n).getD j []=(ms.map fun r=>r.getD j 0)++unitL n j:=by
 rw [zm (by rw [zaX];exact hj)];simp [tracedL]
theorem zaq (ms:List (List Int))(g:List Int→Int)(i:Nat)(hi:i<ms.length):(ms.map g).getD i 0=g (ms.getD i []):=by
 rw [zm hi,zG,List.getElem?_eq_getElem (by rw [zM];exact hi),Option.getD_some,List.getElem_map]
theorem ziW (n j:Nat)(hj:j<n)(r:List Int):dotL n r (unitL n j)=r.getD j 0:=by
 unfold dotL;refine(zk (g:=fun b=>r.getD b 0*unitR j b) fun b hb=>?_).trans (sum_unit' n j hj r);rw [zcq n j b hb];rfl
where
 sum_unit' (n j:Nat) (hj:j<n) (r:List Int):sumN n (fun b=>r.getD b 0*unitR j b)=r.getD j 0:=by
  have:=zW n j hj (fun b=>r.getD b 0*unitR j b) (fun i _ hij=>by show _ *(if i=j then (1:Int) else 0)=0;rw [if_neg hij,Int.mul_zero]);rw [this];show _ *(if j=j then (1:Int) else 0)=_;rw [if_pos rfl,Int.mul_one]
theorem ziX (n m:Nat)(r:List Int):dotL n r (List.replicate m 0)=0:=by
 unfold dotL;refine(zk (g:=fun _=>0) fun b _=>?_).trans (zaA _);rw [zaG,Int.mul_zero]
theorem ziV (n:Nat)(r u v:List Int)(x y:Int)(hu:u.length=n)(hv:v.length=n):dotL n r (List.zipWith (fun a b=>x*a+y*b) u v)=x*dotL n r u+y*dotL n r v:=by
 unfold dotL;rw [← zah,← zah,← zbh];refine zk fun b hb=>?_;rw [zl _ _ _ (by omega) b (by omega),Int.mul_add,← Int.mul_assoc,← Int.mul_assoc,← Int.mul_assoc,← Int.mul_assoc,Int.mul_comm _ x,Int.mul_comm _ y]
theorem zmk (ms:List (List Int))(n:Nat)(z:List Int):Gens (ms.length+n) (InL (tracedL ms n)) z↔∃ v,v.length=n∧z=(ms.map fun r=>dotL n r v)++v:=by
 constructor
 ·intro h
  induction h with
  | base hv hl=>
   obtain⟨j,hj,rfl⟩:=List.mem_map.1 hv;rw [List.mem_range] at hj;refine⟨unitL n j,zaC n j,?_⟩;congr 1;exact List.map_congr_left fun r _=>(ziW n j hj r).symm
  | zero=>
   refine⟨List.replicate n 0,by simp,?_⟩;rw [← List.replicate_append_replicate];congr 1;rw [List.map_congr_left (g:=fun _=>(0:Int)) fun r _=>ziX n n r,List.map_const']
  | comb x y _ _ h1 h2=>
   obtain⟨u,hu,rfl⟩:=h1;obtain⟨v,hv,rfl⟩:=h2;refine⟨List.zipWith (fun a b=>x*a+y*b) u v,by rw [zj _ _ _ (by omega)];omega,?_⟩;rw [zbt x y _ _ _ _ (by rw [zM,zM])];congr 1;apply zK (by rw [zj _ _ _ (by rw [zM,zM]),zM,zM]);intro i hi;rw [zj _ _ _ (by rw [zM,zM]),zM] at hi;rw [zl _ _ _ (by rw [zM,zM]) i (by rw [zM];exact hi),zaq _ _ _ hi,zaq _ _ _ hi,zaq _ _ _ hi,ziV n _ u v x y hu hv]
 ·rintro ⟨v,hv,rfl⟩;refine zdI (zeq ms n) (by rw [List.length_append,zM,hv]) ⟨fun k=>v.getD k 0,fun b hb=>?_⟩;rw [zaX];dsimp only;by_cases hbm:b<ms.length
  ·rw [zbZ _ _ _ (by rw [zM];exact hbm),zaq _ _ _ hbm];unfold dotL;refine zk fun k hk=>?_;rw [zco _ _ _ hk,zbZ _ _ _ (by rw [zM];exact hbm),zaq _ _ _ hbm,Int.mul_comm]
  ·have e:b=ms.length+(b-ms.length):=by omega
   have g1:=zb8 (ms.map fun r=>dotL n r v) v (b-ms.length);rw [zM,← e] at g1;rw [g1];refine((zk (g:=fun k=>v.getD k 0*unitR k (b-ms.length)) fun k hk=>?_).trans (zhl n (fun k=>v.getD k 0) (b-ms.length) (by omega))).symm;have g2:=zb8 (ms.map fun r=>r.getD k 0) (unitL n k) (b-ms.length);rw [zM,← e] at g2;rw [zco _ _ _ hk,g2,zcq n k _ (by omega)];rfl
theorem zjZ {ms ts:List (List Int)}{p:Nat→Nat}(F:FormL (ms.length+n) ts p)(a:Alikes (ms.length+n) (InL ts) (InL (tracedL ms n))){v:List Int}(hv:v.length=n):
  Gens n (InL (behindL ms.length ts)) v↔∀ r∈ms,dotL n r v=0:=by
 rw [zeX F hv,a,zmk];constructor
 ·rintro ⟨u,hu,e⟩;have h:=List.append_inj' e (by omega);obtain⟨h1,rfl⟩:=h;intro r hr;have:dotL n r v∈ms.map fun r=>dotL n r v:=List.mem_map.2 ⟨r,hr,rfl⟩;rw [← h1] at this;exact List.eq_of_mem_replicate this
 ·intro h;refine⟨v,hv,?_⟩;congr 1;rw [List.map_congr_left (g:=fun _=>(0:Int)) fun r hr=>h r hr,List.map_const']
end Go.Proofs.YtdedolkgcdlmeaaGreatDoor
