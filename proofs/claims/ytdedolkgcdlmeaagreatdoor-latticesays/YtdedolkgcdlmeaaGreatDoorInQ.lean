import Derived.Test.YtdedolkgcdlmeaaGreatDoorKerQ
import Derived.Lib.AppendZerosOnto
set_option maxRecDepth 100000
set_option maxHeartbeats 4000000
set_option linter.unusedSimpArgs false
namespace Go.Proofs.YtdedolkgcdlmeaaGreatDoor
open Go.RowKit Limbs Digs
variable{n sb base cap k d g a0 b off j c:Nat}{W w wr W':World}{v u:Value}{zs us:List Int}{nb D:Nat→Nat}
theorem RowR.toQ(h:RowR w v zs n):RowQ w v zs n:=by
 obtain⟨ao,cap,hv,h3,h4⟩:=h;refine⟨ao,cap,hv,h3,fun h0=>?_⟩;obtain⟨b,cur,fz',e,hh,hc⟩:=h4 h0;exact⟨b,0,cur,fz',e,hh,fun i hi=>by simpa using hc i hi⟩
theorem RowQ.setTyped(h:RowQ w v zs n){B:Nat}{c:Array Value}{t:TypeId}{fz:Nat × Nat}(hB:w.heap[B]?=some (.cells c t fz))(h1:t≠3)(h2:t≠40)(k:Nat)(u:Value):RowQ (w.setCell ⟨B,k,none⟩ u) v zs n:=by
 obtain⟨ao,cap,hv,h3,h4⟩:=h;refine⟨ao,cap,hv,h3,fun h0=>?_⟩;obtain⟨b,off,cur,fz',e,hh,hc⟩:=h4 h0;have hne:b≠B:=fun e=>by
  subst e;rw [hh] at hB;simp only [Option.some.injEq,Obj.cells.injEq] at hB;exact h2 hB.2.1.symm
 refine⟨b,off,cur,fz',e,(heap_setCell_other w ⟨B,k,none⟩ b u hne).trans hh,fun i hi=>?_⟩;obtain⟨s,o,l,c',h5,h6,h7⟩:=hc i hi;exact⟨s,o,l,c',(World.cell?_setCell_other (h:=fun e=>by simp at e <;> omega) ..).trans h5,(World.cell?_setCell_other (h:=fun e=>by simp at e <;> omega) ..).trans h6,h7.setTyped hB h1 k u⟩
theorem RowQ.mono{m:Nat}(h:RowQ w v zs n)(hm:n≤m):RowQ w v zs m:=by
 obtain⟨ao,cap,hv,h3,h4⟩:=h;refine⟨ao,cap,hv,h3,fun h0=>?_⟩;obtain⟨b,off,cur,fz',e,hh,hc⟩:=h4 h0;refine⟨b,off,cur,fz',e,hh,fun i hi=>?_⟩;obtain⟨s,o,l,c',h5,h6,h7⟩:=hc i hi;exact⟨s,o,l,c',h5,h6,h7.mono hm⟩
theorem RowQ.form(h:RowQ w v zs n)(h0:0<zs.length):∃ b off cap,v=.slice (some ⟨b,off,none⟩) zs.length cap:=by
 obtain⟨ao,cap,rfl,h3,h4⟩:=h;obtain⟨b,off,-,-,rfl,-⟩:=h4 h0;exact⟨b,off,cap,rfl⟩
structure StairQ (w W:World)(sb n:Nat)(R:Nat→Option (List Int))(D:Nat→Nat):Prop where
 low:w.heap.size≤sb
 below:Below w.heap.size w W
 blk:∃ cs,W.heap[sb]?=some (.cells cs 106)
 nil:∀ i,i<n→R i=none→W.cell? ⟨sb,i,none⟩=some (.slice none 0 0)
 row:∀ i,i<n→∀ r,R i=some r→∃ b off cap,W.cell? ⟨sb,i,none⟩=some (.slice (some ⟨b,off,none⟩) r.length cap)∧RowQ W (.slice (some ⟨b,off,none⟩) r.length cap) r (D i)
theorem StairQ.lt{R:Nat→Option (List Int)}(h:StairQ w W sb n R D):sb<W.heap.size:=by
 obtain⟨cs,e⟩:=h.blk;exact zj e
theorem StairQ.later{R:Nat→Option (List Int)}(h:StairQ w W sb n R D)(hb:Below W.heap.size W W'):StairQ w W' sb n R D where
 low:=h.low
 below:=h.below.trans (hb.mono h.below.size)
 blk:=by obtain⟨cs,e⟩:=h.blk;exact⟨cs,(hb.block _ (zj e)).trans e⟩
 nil:=fun i hi e=>(hb.cell (p:=⟨sb,i,none⟩) h.lt).trans (h.nil i hi e)
 row:=fun i hi r e=>by
  obtain⟨b,off,cap,hc,hv⟩:=h.row i hi r e;exact⟨b,off,cap,(hb.cell (p:=⟨sb,i,none⟩) h.lt).trans hc,hv.below hb zL⟩
theorem StairQ.mono{R:Nat→Option (List Int)}{D':Nat→Nat}(h:StairQ w W sb n R D)(hn:∀ i,i<n→D i≤D' i):StairQ w W sb n R D':=
 ⟨h.low,h.below,h.blk,h.nil,fun i hi r e=>by
  obtain⟨b,off,cap,hc,hv⟩:=h.row i hi r e;exact⟨b,off,cap,hc,hv.mono (hn i hi)⟩⟩
theorem StairQ.cell{R:Nat→Option (List Int)}(h:StairQ w W sb n R D){i:Nat}(hi:i<n):∃ o l c,W.cell? ⟨sb,i,none⟩=some (.slice o l c):=by
 cases e:R i with
 | none=>exact⟨_,_,_,h.nil i hi e⟩
 | some r=>obtain⟨b,off,cap,hc,-⟩:=h.row i hi r e;exact⟨_,_,_,hc⟩
theorem StairQ.thaw{R:Nat→Option (List Int)}(h:StairQ w W sb n R D)(k:Nat):W.frozen? ⟨sb,k,none⟩=false:=by
 obtain⟨cs,e⟩:=h.blk;simp [World.frozen?,e]
theorem StairQ.set{R:Nat→Option (List Int)}(h:StairQ w W sb n R D)(hk:k<n){r:List Int}(hr:RowQ W (.slice (some ⟨b,off,none⟩) r.length cap) r d):
  StairQ w (W.setCell ⟨sb,k,none⟩ (.slice (some ⟨b,off,none⟩) r.length cap)) sb n (putRow R k r) (fun i=>if i=k then d else D i):=by
 obtain⟨cs,hcs⟩:=h.blk;obtain⟨o,l,c,hc⟩:=h.cell hk
 have oth:∀ i u,i≠k→W.cell? ⟨sb,i,none⟩=some u→(W.setCell ⟨sb,k,none⟩ (.slice (some ⟨b,off,none⟩) r.length cap)).cell? ⟨sb,i,none⟩=some u:=fun i u hi e=>
  (World.cell?_setCell_other (h:=fun e=>by simp at e <;> omega) ..).trans e
 refine⟨h.low,h.below.setCell h.low _,⟨_,heap_setCell_same W sb k _ _ _ hcs⟩,?_,?_⟩
 ·intro i hi e;unfold putRow at e;by_cases hik:i=k
  ·rw [if_pos hik] at e;cases e
  ·rw [if_neg hik] at e;exact oth i _ hik (h.nil i hi e)
 ·intro i hi r' e;unfold putRow at e;by_cases hik:i=k
  ·rw [if_pos hik] at e;obtain rfl:=zI e;subst hik;exact⟨b,off,cap,World.cell?_setCell_same (h:=hc) ..,by rw [if_pos rfl];exact hr.setTyped hcs (by decide) (by decide) _ _⟩
  ·rw [if_neg hik] at e;obtain⟨b',off',cap',hc',hv'⟩:=h.row i hi r' e;exact⟨b',off',cap',oth i _ hik hc',by rw [if_neg hik];exact hv'.setTyped hcs (by decide) (by decide) _ _⟩
theorem StairQ.made (w:World)(n:Nat)(D:Nat→Nat):StairQ w (w.alloc (.cells (madeCells #[.slice none 0 0] n) 106)) w.heap.size n (fun _=>none) D where
 low:=Nat.le_refl _
 below:=(zB _ _).alloc zL _
 blk:=⟨_,heap_alloc_new w _⟩
 nil:=fun i hi _=>by
  rw [World.cell?_alloc_new];simp [madeCells,hi,Nat.mod_one]
 row:=fun i hi r e=>by cases e
structure GrowBQ (W:World)(base:Nat)(v:Value)(qs:List (Value × List Int))(nb:Nat→Nat):Prop where
 own:W.ownsRow base 106 1 v qs.length (qs.map (·.1))
 row:∀ j q,qs[j]?=some q→RowQ W q.1 q.2 (nb j)
theorem GrowBQ.nil (W:World)(base:Nat)(nb:Nat→Nat):GrowBQ W base (.slice none 0 0) [] nb:=⟨World.ownsRow_nil _ _ _ _,fun j q h=>by simp at h⟩
theorem GrowBQ.later{qs:List (Value × List Int)}(h:GrowBQ W base v qs nb)(hb:Below W.heap.size W W'):GrowBQ W' base v qs nb:=
 ⟨zcd h.own hb,fun j q e=>(h.row j q e).below hb zL⟩
theorem GrowBQ.mono{qs:List (Value × List Int)}{nb':Nat→Nat}(h:GrowBQ W base v qs nb)(hn:∀ j,j<qs.length→nb j≤nb' j):GrowBQ W base v qs nb':=
 ⟨h.own,fun j q e=>(h.row j q e).mono (hn j (List.getElem?_eq_some_iff.1 e).1)⟩
theorem GrowBQ.form{qs:List (Value × List Int)}(h:GrowBQ W base v qs nb):∃ o cap,v=.slice o qs.length cap∧(0<qs.length→∃ g,o=some ⟨g,0,none⟩):=by
 rcases h.own.2 with⟨rfl,hn⟩ |⟨g,cap,cur,rfl,-⟩
 ·exact⟨none,0,by rw [hn],fun h=>by omega⟩
 ·exact⟨_,cap,rfl,fun _=>⟨g,rfl⟩⟩
theorem GrowBQ.cell{qs:List (Value × List Int)}(h:GrowBQ W base (.slice (some ⟨g,0,none⟩) qs.length cap) qs nb){q:Value × List Int}(e:qs[j]?=some q):W.cell? ⟨g,j,none⟩=some q.1∧g<W.heap.size∧base≤g∧W.frozen? ⟨g,j,none⟩=false∧∃ cs,W.heap[g]?=some (.cells cs 106):=by
 rcases h.own.2 with⟨e',-⟩ |⟨g',cap',cur,e',hb,hh,hc1,hc2,hc3,hc4⟩
 ·cases e'
 ·simp only [zV,Option.some.injEq,Addr.mk.injEq,and_true,true_and] at e';obtain⟨rfl,rfl⟩:=e';refine⟨?_,zj hh,hb,by simp [World.frozen?,hh],cur,hh⟩;have:=World.news_of_block hh j q.1 (by
   have hj:=(List.getElem?_eq_some_iff.1 e).1;have e2:(qs.map (·.1))[j]?=some q.1:=by rw [List.getElem?_map,e];rfl
   rw [← hc4,List.getElem?_take,if_pos (by omega)] at e2;exact e2)
  have ea:(⟨g,0,none⟩:Addr).add j=⟨g,j,none⟩:=by unfold Addr.add;split <;> simp_all
  rwa [ea] at this
theorem GrowBQ.set{qs:List (Value × List Int)}(h:GrowBQ W base (.slice (some ⟨g,0,none⟩) qs.length cap) qs nb)(hj:j<qs.length)(hz:RowQ W u zs d):
  GrowBQ (W.setCell ⟨g,j,none⟩ u) base (.slice (some ⟨g,0,none⟩) (qs.set j (u,zs)).length cap) (qs.set j (u,zs)) (fun i=>if i=j then d else nb i):=by
 obtain⟨-,-,-,-,cs,hcs⟩:=h.cell (List.getElem?_eq_getElem hj);refine⟨?_,fun i q e=>?_⟩
 ·rw [List.length_set,List.map_set];exact(h.own.stored j u).1
 ·rw [List.getElem?_set] at e;by_cases hij:j=i
  ·rw [if_pos hij,if_pos hj] at e;obtain rfl:=zI e;rw [if_pos hij.symm];exact hz.setTyped hcs (by decide) (by decide) _ _
  ·rw [if_neg hij] at e;rw [if_neg (fun e=>hij e.symm)];exact(h.row i q e).setTyped hcs (by decide) (by decide) _ _
theorem zfd{w':World}{qs:List (Value × List Int)}(h:GrowBQ W base v qs nb)(hz:RowQ W u zs d)
  (hown:w'.ownsRow base 106 1 (.slice (some ⟨g,0,none⟩) (qs.length+1) cap) (qs.length+1) (qs.map (·.1)++[u]))
  (hg:W.grownBy w' v.ownBlock):GrowBQ w' base (.slice (some ⟨g,0,none⟩) (qs.length+1) cap) (qs++[(u,zs)]) (fun i=>if i<qs.length then nb i else d):=by
 have hty:Typed W v.ownBlock [3,40]:=zaK h.own (by decide);refine⟨by rw [List.length_append,List.length_singleton,List.map_append];exact hown,fun i q e=>?_⟩;by_cases hi:i<qs.length
 ·rw [List.getElem?_append_left hi] at e;rw [if_pos hi];exact(h.row i q e).grown hg hty
 ·rw [List.getElem?_append_right (by omega)] at e;have h0:i-qs.length=0:=by
   have:=(List.getElem?_eq_some_iff.1 e).1;simpa using this
  rw [h0] at e;simp only [List.getElem?_cons_zero,Option.some.injEq] at e;rw [if_neg hi,← e];exact hz.grown hg hty
theorem GrowBQ.mat{qs:List (Value × List Int)}(h:GrowBQ W base v qs nb)(hd:∀ j,j<qs.length→nb j≤d):MatQ W v (qs.map (·.2)) d:=by
 have hg:GrowQ W base v qs d:=⟨h.own,fun q hq=>by
  obtain⟨j,hj,e⟩:=List.getElem_of_mem hq;exact(h.row j q (by rw [List.getElem?_eq_getElem hj,e])).mono (hd j hj)⟩
 exact hg.mat
theorem zbC (qs:List (Rn × Int)):(qs.flatMap rcells).length=qs.length*2:=by
 induction qs with
 | nil=>rfl
 | cons p qs ih=>rw [List.flatMap_cons,List.length_append,ih,List.length_cons];simp [rcells];omega
theorem zcZ (qs:List (Rn × Int))(u:Value)(hu:u∈qs.flatMap rcells):u.oneCell'=true:=by
 obtain⟨p,-,h⟩:=List.mem_flatMap.1 hu;simp only [rcells,List.mem_cons,List.mem_nil_iff,or_false] at h;rcases h with rfl | rfl <;> rfl
theorem RowR.rows{P:Nat}(h:RowR W (.slice (some ⟨P,0,none⟩) zs.length cap) zs n):
  ∃ qs:List (Rn × Int),qs.map (·.2)=zs∧(∀ j u,(qs.flatMap rcells)[j]?=some u→W.cell? ((⟨P,0,none⟩:Addr).add j)=some u)∧∀ p∈qs,NumR W p.1.val p.2 n:=by
 have key:∀ i,i<zs.length→∃ r:Rn,W.cell? ⟨P,i*2,none⟩=some (.int .i64 r.s)∧W.cell? ⟨P,i*2+1,none⟩=some (.slice r.o r.l r.c)∧NumR W r.val (zs.getD i 0) n:=fun i hi=>by
  obtain⟨b,cap',e,-,s,o,l,c,h1,h2,h3⟩:=h.at i hi;simp only [zV,Option.some.injEq,Addr.mk.injEq,and_true,true_and] at e;obtain⟨rfl,-⟩:=e;exact⟨⟨s,o,l,c⟩,h1,h2,h3⟩
 let f:Nat→Rn:=fun i=>if hi:i<zs.length then Classical.choose (key i hi) else ⟨0,none,0,0⟩
 have hf:∀ i,i<zs.length→W.cell? ⟨P,i*2,none⟩=some (.int .i64 (f i).s)∧W.cell? ⟨P,i*2+1,none⟩=some (.slice (f i).o (f i).l (f i).c)∧NumR W (f i).val (zs.getD i 0) n:=fun i hi=>by
  have:=Classical.choose_spec (key i hi);simpa only [f,dif_pos hi] using this
 let qs:List (Rn × Int):=(List.range zs.length).map fun i=>(f i,zs.getD i 0)
 have hl:qs.length=zs.length:=by simp [qs]
 have hq:∀ i (hi:i<qs.length),qs[i]=(f i,zs.getD i 0):=fun i hi=>by simp [qs]
 refine⟨qs,?_,fun j u hj=>?_,fun p hp=>?_⟩
 ·apply List.ext_getElem (by rw [zM,hl]);intro i h1 h2;rw [List.getElem_map,hq i (by omega),zG,List.getElem?_eq_getElem h2];rfl
 ·have hjl:j<(qs.flatMap rcells).length:=(List.getElem?_eq_some_iff.1 hj).1;rw [zbC,hl] at hjl;have ea:(⟨P,0,none⟩:Addr).add j=⟨P,j,none⟩:=by unfold Addr.add;split <;> simp_all
  rw [ea];obtain⟨e1,e2⟩:=zd1 qs (j/2) (by omega);rw [hq _ (by omega)] at e1 e2;obtain⟨c1,c2,-⟩:=hf (j/2) (by omega);rcases(by omega:j=j/2*2∨j=j/2*2+1) with e | e
  ·rw [← e] at e1 c1;rw [hj] at e1;rw [c1,e1]
  ·rw [← e] at e2 c2;rw [hj] at e2;rw [c2,e2]
 ·obtain⟨i,hi,rfl⟩:=List.getElem_of_mem hp;rw [hq i hi];exact(hf i (by omega)).2.2
theorem zik{w3:World}{ps qs:List (Rn × Int)}(h:GrowR wr base v ps n)(hz:∀ p∈qs,NumR wr p.1.val p.2 n)
  (hown:w3.ownsRow base 40 2 (.slice (some ⟨g,0,none⟩) (ps.length+qs.length) cap) (ps.length+qs.length) (ps.flatMap rcells++qs.flatMap rcells))
  (hg:wr.grownBy w3 v.ownBlock):GrowR w3 base (.slice (some ⟨g,0,none⟩) (ps.length+qs.length) cap) (ps++qs) n:=by
 have hty:Typed wr v.ownBlock [3]:=zaK h.1 (by decide);refine⟨by rw [List.length_append,List.flatMap_append];exact hown,fun p hp=>?_⟩;rcases List.mem_append.1 hp with h' | h'
 ·exact(h.2 p h').grown hg hty
 ·exact(hz p h').grown hg hty
theorem zka {P:Program}(w:World)(t tn ty e:TypeId)(i:TypeInfo)(z:Value)(kq kn:IntKind)(ht:P.underlying t=some (.slice e))(htn:P.underlying tn=some (.int kn))(hi:P.info? e=some i)(hz:i.zero=some z)
  (g sLen sCap:Nat) (cur:Array Value) (hg:w.heap[g]?=some (.cells cur e (0,0))) (k:Nat) (h0:0<k) (hs:0<i.size) (hroom:sLen+k≤sCap) (h63:((k:Nat):Int)≤9223372036854775807) (h48:k*i.bytes≤281474976710656)
  (news:List Value) (hn:Builtin.zeroCells z.cells k=news.toArray) (hfit:sLen*i.size+news.length≤cur.size) (h1:∀ u∈news,u.oneCell'=true):
  (Builtin.append_ #[t,tn] ty #[.slice (some ⟨g,0,none⟩) sLen sCap,.int kq k]).run P w =
   .ok (.slice (some ⟨g,0,none⟩) (sLen+k) sCap) (w.setRow g (cur.toList.take (sLen*i.size)++news++cur.toList.drop (sLen*i.size+news.length)).toArray):=by
 have hk:k≠0:=by omega
 have hw:IntKind.i64.wrap (k:Int)=k:=by rw [IntKind.wrap_i64];omega
 have h48i:¬(281474976710656<(k:Int) *(i.bytes:Int)):=by
  rw [← Int.natCast_mul];omega
 have hneg:¬((k:Int)<0):=by omega
 have hns:¬(k*i.size=0):=Nat.mul_ne_zero hk (by omega);have hst:=run_storeCells_at P g (sLen*i.size) e news 0 cur w hg (by simpa using hfit) h1;simp only [Nat.add_zero] at hst;simp [Builtin.append_,run_underlying ht,run_underlying htn,sizeOf,typeInfo,zeroValue,hi,hz,asInt,asIntOf,hw,hroom,hneg,hns,h48i,hn,Addr.add_lit,hst]
theorem zeroNums (k:Nat):Builtin.zeroCells (Value.agg #[.int .i64 0,.slice none 0 0]).cells k=(((List.replicate k (⟨0,none,0,0⟩,(0:Int))):List (Rn × Int)).flatMap rcells).toArray:=by
 have hc:(Value.agg #[.int .i64 0,.slice none 0 0]).cells=#[.int .i64 0,.slice none 0 0]:=rfl;rw [hc];apply Array.ext';apply List.ext_getElem?;intro j;have hl:(((List.replicate k (⟨0,none,0,0⟩,(0:Int))):List (Rn × Int)).flatMap rcells).length=k*2:=by rw [zbC,List.length_replicate]
 by_cases hj:j<k*2
 ·obtain⟨e1,e2⟩:=zd1 (List.replicate k ((⟨0,none,0,0⟩,(0:Int)):Rn × Int)) (j/2) (by rw [List.length_replicate];omega);rw [List.getElem_replicate] at e1 e2;have hz:(Builtin.zeroCells #[Value.int .i64 0,.slice none 0 0] k).toList[j]?=some ((#[Value.int .i64 0,.slice none 0 0]:Array Value)[j%2]!):=by
   simp [Builtin.zeroCells,hj]
  rw [hz];show _=(((List.replicate k (⟨0,none,0,0⟩,(0:Int))):List (Rn × Int)).flatMap rcells)[j]?;rcases(by omega:j=j/2*2∨j=j/2*2+1) with e | e
  ·have hm:j%2=0:=by omega
   rw [← e] at e1;rw [e1,hm];rfl
  ·have hm:j%2=1:=by omega
   rw [← e] at e2;rw [e2,hm];rfl
 ·rw [List.getElem?_eq_none (by simp [Builtin.zeroCells];omega),List.getElem?_eq_none (by show(((List.replicate k (⟨0,none,0,0⟩,(0:Int))):List (Rn × Int)).flatMap rcells).length≤j;omega)]
theorem zj9 {P:Program}(w:World)(base:Nat)(t tn e:TypeId)(i:TypeInfo)(kq kn:IntKind)(ht:P.underlying t=some (.slice e))(htn:P.underlying tn=some (.int kn))(hi:P.info? e=some i)(hz:i.zero=some (.agg #[.int .i64 0,.slice none 0 0]))
  (hsize:i.size=2) (hby:i.bytes=32) (g cap n:Nat) (xs:List Value) (hown:w.ownsRow base e 2 (.slice (some ⟨g,0,none⟩) n cap) n xs) (k:Nat) (h0:0<k) (hk:n+k≤1000000) (hbase:base≤w.heap.size):
  ∃ g' cap' w',(∀ ty,(Builtin.append_ #[t,tn] ty #[.slice (some ⟨g,0,none⟩) n cap,.int kq k]).run P w=.ok (.slice (some ⟨g',0,none⟩) (n+k) cap') w') ∧
   w'.ownsRow base e 2 (.slice (some ⟨g',0,none⟩) (n+k) cap') (n+k) (xs ++((List.replicate k (⟨0,none,0,0⟩,(0:Int))):List (Rn × Int)).flatMap rcells)∧w.grownBy w' (some g):=by
 have hzn:=zeroNums k;generalize hN:((List.replicate k (⟨0,none,0,0⟩,(0:Int))):List (Rn × Int)).flatMap rcells=news at *;have hnl:news.length=k*2:=by rw [← hN,zbC,List.length_replicate]
 have h1:∀ u∈news,u.oneCell'=true:=by rw [← hN];exact zcZ _
 have hlen:(xs++news).length=(n+k)*2:=by rw [List.length_append,hown.1,hnl,Nat.add_mul]
 have holds:∀ j u,xs[j]?=some u→w.cell? ((⟨g,0,none⟩:Addr).add j)=some u:=hown.cells (g:=g) rfl;have hxl:=hown.1;rcases hown.2 with⟨e2,-⟩ |⟨g',cap',cur,e2,hbg,hg,hnc,hcm,hcs,htake⟩
 ·cases e2
 ·obtain⟨rfl,rfl⟩:g=g'∧cap=cap':=by simpa using e2
  by_cases hroom:n+k≤cap
  ·have hfit:n*i.size+news.length≤cur.size:=by rw [hnl,hcs,hsize,← Nat.add_mul];exact Nat.mul_le_mul_right _ hroom
   have hr:=fun ty=>zka (P:=P) w t tn ty e i _ kq kn ht htn hi hz g n cap cur hg k h0 (by omega) hroom (by omega) (by rw [hby];omega) news hzn hfit h1;refine⟨_,_,_,hr,⟨hlen,.inr ⟨g,cap,_,rfl,hbg,setRow_heap w g cur _ _ _ hg,hroom,hcm,?_,?_⟩⟩,⟨rfl,rfl,rfl,by simp,fun j _ hj=>setRow_other w g j _ (fun e=>hj (by simp [e]))⟩⟩
   ·simp only [List.size_toArray,List.length_append,List.length_take,List.length_drop,Array.length_toList];omega
   ·rw [hsize,htake,← hlen];exact List.take_left
  ·have hold:=run_firstCells_some (P:=P) w.drew i.size n ⟨g,0,none⟩ n cap xs (by rw [hsize];exact hxl) (by simpa using holds);have hr:=fun ty=>Lib.run_append_grow_zeros (P:=P) w t tn ty e i _ kq kn ht htn hi hz (some ⟨g,0,none⟩) n cap xs hold k h0 (by omega) (by omega) (by omega) (by rw [hby];omega) (by rw [hby];exact growslice_fits (by omega) (by omega));have hge:=grownCap_ge w (n+k) cap e;have hcm':grownCap w (n+k) cap e≤maxLen:=grownCap_le_maxLen w (n+k) cap e (by unfold maxLen;omega);simp only [hzn] at hr;refine⟨_,_,_,hr,⟨hlen,.inr ⟨w.heap.size,_,_,rfl,hbase,heap_alloc_new w.drew _,hge,hcm',?_,?_⟩⟩,⟨rfl,rfl,rfl,by simp,fun j hj _=>heap_alloc_old w.drew _ hj⟩⟩
   ·have hz2:(Value.agg #[.int .i64 0,.slice none 0 0]).cells.size=2:=rfl;simp only [Array.size_append,List.size_toArray,size_zeroCells,hz2,hxl,hnl,← Nat.add_mul];congr 1;omega
   ·simp only [Array.toList_append,List.append_assoc];rw [← List.append_assoc,← hlen];exact List.take_left
theorem zhy (w:World)(vx va vy vb:Value)(x y:Int)(us vs:List Int)(nx na ny nb m:Nat)(hx:NumR w vx x nx)(ha:RowQ w va us na)(hy:NumR w vy y ny)(hb:RowQ w vb vs nb)(hl:us.length=vs.length)(h8:us.length≤1000)
  (h1:nx+na+1≤m) (h2:ny+nb+1≤m) (hm:m≤100000000000):
  Calls Tryz.prog 85 #[vx,va,vy,vb] w fun e w'=>RowPostN w (List.zipWith (fun p q=>x*p+y*q) us vs) (m+1) e w':=by
 obtain⟨i0,hi,hz0,hz1,hz2⟩:=info_parts Tryz.infoRNum;have HI0:=hide hi;have HZ0:=hide hz0;have HZ1:=hide hz1;have HZ2:=hide hz2;clear hi hz0 hz1 hz2;have HA:=hide ha;have HB:=hide hb;have HX:=hide hx;have HY:=hide hy;have hlt:=zg (fun p q=>x*p+y*q) us vs hl;have HZ:=hide (zi (fun p q=>x*p+y*q) us vs hl);obtain⟨xs,xo,xl,xc,rfl,-⟩:=hx.form;obtain⟨ys,yo,yl,yc,rfl,-⟩:=hy.form;obtain⟨ao',acap,rfl,-,-⟩:=ha;obtain⟨bo',bcap,rfl,-,-⟩:=hb;clear hx hy;have HL:=hide hl;clear hl;have hT:=two w (.int .i64 xs) (.slice xo xl xc) (.int .i64 ys) (.slice yo yl yc) 40 40;obtain⟨W0,hW0⟩:∃ W0:World,W0=(w.alloc (.cells #[.int .i64 xs,.slice xo xl xc] 40)).alloc (.cells #[.int .i64 ys,.slice yo yl yc] 40):=⟨_,rfl⟩;have hsz:W0.heap.size=w.heap.size+2:=by rw [hW0];simp
 rw [← hW0] at hT;have HT:=hide hT;have HSZ:=hide hsz;have HLT:=hide hlt;clear hT hsz hlt;generalize List.zipWith (fun p q=>x*p+y*q) us vs=ts at *;go_enter Tryz.func85,Tryz.ntmps85;go_wp2;rw [← hW0];clear hW0;go_loopw [9,10] (fun out i wr=>∃(k:Nat) (ps:List (Rn × Int)),k≤us.length∧i=.int .i64 k∧Hid (GrowR wr (w.heap.size+2) out ps (m+1))∧Hid (ps.map (·.2)=ts.take k)∧Hid (Below (w.heap.size+2) W0 wr)) (fun _ i _=>us.length-(intOf i).toNat)
 case atStart=>exact⟨0,[],Nat.zero_le _,rfl,hide (GrowR.nil _ _ _),hide (by simp),hide (zB _ _)⟩
 case round=>
  obtain⟨k,ps,hk,rfl,HG,HP,HBE⟩:=hrel;have HPL:Hid (ps.length=k):=by
   have:=congrArg List.length HP.out;rw [zM,List.length_take] at this;show ps.length=k;have:=HLT.out;omega
  have hbs:w.heap.size+2≤wr.heap.size:=by have:=HBE.out.size;have:=HSZ.out;omega
  by_cases hkl:k<us.length
  ·have hbw:Below w.heap.size w wr:=HT.out.below.trans (HBE.out.mono (by omega));have hky:k<vs.length:=by have:=HL.out;omega
   obtain⟨ab,aof,_,e,la,sa,ao,al,ac,a2,a3,na'⟩:=(HA.out.below hbw zL).at k hkl;simp only [zV,true_and] at e;obtain⟨rfl,rfl⟩:=e;obtain⟨bb,bof,_,e,lb,sb,bo,bl,bc,a6,a7,nb'⟩:=(HB.out.below hbw zL).at k hky;simp only [zV,true_and] at e;obtain⟨rfl,rfl⟩:=e;have law:ab<w.heap.size:=by
    obtain⟨_,_,_,e,l,-⟩:=HA.out.at k hkl;simp only [zV,Option.some.injEq,Addr.mk.injEq,and_true,true_and] at e;omega
   have lbw:bb<w.heap.size:=by
    obtain⟨_,_,_,e,l,-⟩:=HB.out.at k hky;simp only [zV,Option.some.injEq,Addr.mk.injEq,and_true,true_and] at e;omega
   have NA:=hide na';have NB:=hide nb';have NX:=hide (HX.out.below hbw zL);have NY:=hide (HY.out.below hbw zL);obtain⟨a0,a1,-,-⟩:=HT.out.fst.later HBE.out (by omega);obtain⟨a4,a5,-,-⟩:=HT.out.res.later HBE.out (by omega);have lx:w.heap.size<wr.heap.size:=by omega
   have ly:w.heap.size+1<wr.heap.size:=by omega
   have HTS:Hid (∀ r:Rn,(ps++[(r,x*us.getD k 0+y*vs.getD k 0)]).map (·.2)=ts.take (k+1)):=fun r=>by
    have hkt:k<ts.length:=by have:=HLT.out;omega
    rw [List.map_append,HP.out,List.take_succ_eq_append_getElem hkt,← HZ.out k hkl,zG,List.getElem?_eq_getElem hkt];rfl
   have HBW:=hide hbw;clear na' nb' hbw;generalize us.getD k 0=p at *;generalize vs.getD k 0=q at *;go_wp2_with fail;refine zq (S:=(fun w'=>w'.cell? ⟨w.heap.size,0,none⟩=some (.int .i64 xs)∧w'.cell? ⟨w.heap.size,1,none⟩=some (.slice xo xl xc)∧w'.cell? ⟨ab,aof+k*2,none⟩=some (.int .i64 sa)∧w'.cell? ⟨ab,aof+k*2+1,none⟩=some (.slice ao al ac)∧w'.cell? ⟨w.heap.size+1,0,none⟩=some (.int .i64 ys)∧w'.cell? ⟨w.heap.size+1,1,none⟩=some (.slice yo yl yc)∧w'.cell? ⟨bb,bof+k*2,none⟩=some (.int .i64 sb)∧w'.cell? ⟨bb,bof+k*2+1,none⟩=some (.slice bo bl bc))) (k:=17) (by kernel_rfl) (by(try dsimp only);go_keep) (fun hHeld=>?_);refine zd 0 17 [] ?_;try simp only [zA]
   refine zd 1 18 [] ?_;try simp only [zA]
   refine zd 2 19 [] ?_;try simp only [zA]
   refine zd 3 20 [] ?_;try simp only [zA]
   refine zd 4 21 [] ?_;try simp only [zA]
   refine zd 5 22 [] ?_;try simp only [zA]
   refine zd 7 24 [] ?_;try simp only [zA]
   refine zd 8 25 [] ?_;try simp only [zA]
   refine zd 9 26 [] ?_;try simp only [zA]
   refine zd 10 27 [] ?_;try simp only [zA]
   refine zd 11 28 [] ?_;try simp only [zA]
   refine ze 6 (by kernel_rfl) rfl (fun K hK=>?_);go_simp
   (refine(zaA _ _ _ x p nx na (by exact NX.out) (by exact NA.out) (by omega) (by omega)).mono ?_;rintro e w2 ⟨r2,rfl,hr2,hb⟩;have b0:=(hb.cell (p:=⟨w.heap.size,0,none⟩) lx).trans a0;have b1:=(hb.cell (p:=⟨w.heap.size,1,none⟩) lx).trans a1;have b2:=(hb.cell (p:=⟨ab,aof+k*2,none⟩) la).trans a2;have b3:=(hb.cell (p:=⟨ab,aof+k*2+1,none⟩) la).trans a3;have b4:=(hb.cell (p:=⟨w.heap.size+1,0,none⟩) ly).trans a4;have b5:=(hb.cell (p:=⟨w.heap.size+1,1,none⟩) ly).trans a5;have b6:=(hb.cell (p:=⟨bb,bof+k*2,none⟩) lb).trans a6;have b7:=(hb.cell (p:=⟨bb,bof+k*2+1,none⟩) lb).trans a7;have hs2:wr.heap.size≤w2.heap.size:=hb.size;have HR2:=hide hr2;have HW2:Hid (Below wr.heap.size wr w2):=((zB wr.heap.size wr).drew).trans hb;have NY2:=hide (NY.out.below HW2.out zL);have NB2:=hide (NB.out.below HW2.out zL);clear hb hr2)
   go_wp2_with fail;refine hK.out _ _ (fun _=>by(try dsimp only);go_keep) ?_;clear hK K;try simp only [zA]
   refine ze 12 (by kernel_rfl) rfl (fun K hK=>?_);go_simp
   (refine(zaA _ _ _ y q ny nb (by exact NY2.out) (by exact NB2.out) (by omega) (by omega)).mono ?_;rintro e w3 ⟨r3,rfl,hr3,hb⟩;have c0:=(hb.cell (p:=⟨w.heap.size,0,none⟩) (zT lx hs2)).trans b0;have c1:=(hb.cell (p:=⟨w.heap.size,1,none⟩) (zT lx hs2)).trans b1;have c2:=(hb.cell (p:=⟨ab,aof+k*2,none⟩) (zT la hs2)).trans b2;have c3:=(hb.cell (p:=⟨ab,aof+k*2+1,none⟩) (zT la hs2)).trans b3;have c4:=(hb.cell (p:=⟨w.heap.size+1,0,none⟩) (zT ly hs2)).trans b4;have c5:=(hb.cell (p:=⟨w.heap.size+1,1,none⟩) (zT ly hs2)).trans b5;have c6:=(hb.cell (p:=⟨bb,bof+k*2,none⟩) (zT lb hs2)).trans b6;have c7:=(hb.cell (p:=⟨bb,bof+k*2+1,none⟩) (zT lb hs2)).trans b7;have hs3:wr.heap.size≤w3.heap.size:=Nat.le_trans hs2 hb.size;have HR3:=hide hr3;have HR2':=hide (HR2.out.below hb zL);have HW3:=hide (HW2.out.trans (hb.mono HW2.out.size));clear hb hr3)
   go_wp2_with fail;refine hK.out _ _ (fun _=>by(try dsimp only);go_keep) ?_;clear hK K;try simp only [zA]
   refine ze 13 (by kernel_rfl) rfl (fun K hK=>?_);go_simp
   (refine(zce _ _ _ (x*p) (y*q) m (HR2'.out.mono (by omega)) (HR3.out.mono (by omega)) (by omega)).mono ?_;rintro e w4 ⟨r4,rfl,hr4,hb⟩;obtain⟨rs,ro,rl,rc,rfl,-⟩:=hr4.form;have d0:=(hb.cell (p:=⟨w.heap.size,0,none⟩) (zT lx hs3)).trans c0;have d1:=(hb.cell (p:=⟨w.heap.size,1,none⟩) (zT lx hs3)).trans c1;have d2:=(hb.cell (p:=⟨ab,aof+k*2,none⟩) (zT la hs3)).trans c2;have d3:=(hb.cell (p:=⟨ab,aof+k*2+1,none⟩) (zT la hs3)).trans c3;have d4:=(hb.cell (p:=⟨w.heap.size+1,0,none⟩) (zT ly hs3)).trans c4;have d5:=(hb.cell (p:=⟨w.heap.size+1,1,none⟩) (zT ly hs3)).trans c5;have d6:=(hb.cell (p:=⟨bb,bof+k*2,none⟩) (zT lb hs3)).trans c6;have d7:=(hb.cell (p:=⟨bb,bof+k*2+1,none⟩) (zT lb hs3)).trans c7;have hs4:wr.heap.size≤w4.heap.size:=Nat.le_trans hs3 hb.size;have HR4:Hid (NumR w4 (Rn.val ⟨rs,ro,rl,rc⟩) (x*p+y*q) (m+1)):=hr4;have HW4:=hide (HW3.out.trans (hb.mono HW3.out.size));have HG4:=hide (HG.out.later HW4.out);have ha4:Below w4.heap.size w4 (w4.alloc (.cells #[.int .i64 rs,.slice ro rl rc] 40)):=(zB _ _).alloc zL _;have e0:=(ha4.cell (p:=⟨w.heap.size,0,none⟩) (zT lx hs4)).trans d0;have e1:=(ha4.cell (p:=⟨w.heap.size,1,none⟩) (zT lx hs4)).trans d1;have e2:=(ha4.cell (p:=⟨ab,aof+k*2,none⟩) (zT la hs4)).trans d2;have e3:=(ha4.cell (p:=⟨ab,aof+k*2+1,none⟩) (zT la hs4)).trans d3;have e4:=(ha4.cell (p:=⟨w.heap.size+1,0,none⟩) (zT ly hs4)).trans d4;have e5:=(ha4.cell (p:=⟨w.heap.size+1,1,none⟩) (zT ly hs4)).trans d5;have e6:=(ha4.cell (p:=⟨bb,bof+k*2,none⟩) (zT lb hs4)).trans d6;have e7:=(ha4.cell (p:=⟨bb,bof+k*2+1,none⟩) (zT lb hs4)).trans d7;clear hb hr4 ha4)
   go_wp2_with fail;refine hK.out _ _ (fun _=>by(try dsimp only);go_keep) ?_;clear hK K;try simp only [zA]
   refine ze 14 (by kernel_rfl) rfl (fun K hK=>?_);go_simp;refine hK.out _ _ (fun _=>by(try dsimp only);go_keep) ?_;clear hK K;try simp only [zA]
   refine ze 15 (by kernel_rfl) rfl (fun K hK=>?_);refine step_append_lies _ rfl _ _ 106 rfl (w.heap.size+2) 40 i0 (.agg #[.int .i64 0,.slice none 0 0]) 2 32 (by kernel_rfl) HI0.out HZ0.out HZ1.out HZ2.out rfl (by decide) u9 ps.length (ps.flatMap rcells) rfl (HG4.out.1.alloc _) ⟨w4.heap.size,0,none⟩ 1 1 [.int .i64 rs,.slice ro rl rc] rfl rfl (World.news_of_block (heap_alloc_new w4 _)) (fun u hu=>by simp only [List.mem_cons,List.mem_nil_iff,or_false] at hu;rcases hu with rfl | rfl <;> rfl) (by decide) (by unfold maxLen;have:=HPL.out;omega) (by have:=HPL.out;omega) (by simp;omega) (w4.heap.size+1) (by simp) ?_;intro g cap' w5 hown5 hgrow5 hat5 hlt5;have hb5:Below (w.heap.size+2) w4 w5:=zw HG4.out.1 (by omega) hgrow5;have f0:=(hb5.cell (p:=⟨w.heap.size,0,none⟩) (by show w.heap.size<w.heap.size+2;omega)).trans d0;have f1:=(hb5.cell (p:=⟨w.heap.size,1,none⟩) (by show w.heap.size<w.heap.size+2;omega)).trans d1;have f2:=(hb5.cell (p:=⟨ab,aof+k*2,none⟩) (by show ab<w.heap.size+2;omega)).trans d2;have f3:=(hb5.cell (p:=⟨ab,aof+k*2+1,none⟩) (by show ab<w.heap.size+2;omega)).trans d3;have f4:=(hb5.cell (p:=⟨w.heap.size+1,0,none⟩) (by show w.heap.size+1<w.heap.size+2;omega)).trans d4;have f5:=(hb5.cell (p:=⟨w.heap.size+1,1,none⟩) (by show w.heap.size+1<w.heap.size+2;omega)).trans d5;have f6:=(hb5.cell (p:=⟨bb,bof+k*2,none⟩) (by show bb<w.heap.size+2;omega)).trans d6;have f7:=(hb5.cell (p:=⟨bb,bof+k*2+1,none⟩) (by show bb<w.heap.size+2;omega)).trans d7;have HG5:=hide (zai HG4.out HR4.out hown5 hgrow5);have HB5:=hide (HBE.out.trans ((HW4.out.mono (by omega)).trans hb5));clear hown5 hgrow5 hat5 hlt5 hb5;refine hK.out _ _ (fun _=>by(try dsimp only);go_keep) ?_;clear hK K;try simp only [zA]
   refine ze 16 (by kernel_rfl) rfl (fun K hK=>?_);go_simp;refine hK.out _ _ (fun _=>by(try dsimp only);go_keep) ?_;clear hK K;try simp only [zA]
   refine zk (by kernel_rfl) ?_;have HP5:=hide (HTS.out ⟨rs,ro,rl,rc⟩);clear a0 a1 a2 a3 a4 a5 a6 a7 b0 b1 b2 b3 b4 b5 b6 b7 c0 c1 c2 c3 c4 c5 c6 c7 d0 d1 d2 d3 d4 d5 d6 d7 e0 e1 e2 e3 e4 e5 e6 e7 f0 f1 f2 f3 f4 f5 f6 f7 HTS HG HG4 HR4 HR2 HR2' HR3;go_wp2;go_roundw
   case rel=>exact⟨k+1,_,by omega,by go_num,HG5,HP5,HB5⟩
   case measure=>simp [intOf];omega
  ·obtain rfl:k=us.length:=by omega
   have HR:Hid (RowR wr u9 ts (m+1)):=by
    have:=HG.out.row;rw [HP.out,List.take_of_length_le (by have:=HLT.out;omega)] at this;exact this
   have HB:=hide (HT.out.below.trans (HBE.out.mono (by omega)));have HFR:Hid (∀ a l c,u9=.slice (some a) l c→w.heap.size≤a.block):=fun a l c e=>by
    rcases HG.out.1.2 with⟨e1,-⟩ |⟨g',cap',cur,e1,hb',-⟩
    ·rw [e1] at e;cases e
    ·rw [e1] at e;simp only [zV,Option.some.injEq] at e;rw [← e.1];have:=HSZ.out;show w.heap.size≤g';omega
   clear HG HP;go_wp2;go_ret;exact⟨_,rfl,HR.out,HB.out,HFR.out⟩
structure InQ (w wr:World)(sb n a0 k c:Nat)(rows R:Nat→Option (List Int))(us zs:List Int)(v:Value):Prop where
 st:StairQ w wr sb n R (fun a=>if a<c then dT a0 (k+1+cn R a) else dT a0 (k+cn R a))
 ech:Ech R n n
 nz:NZ R
 zero:∀ j,j<c→zs.getD j 0=0
 vec:RowQ wr v zs (dT a0 (k+cn R c))
 len:zs.length=n
 gen:Alikes n (RowsOr R zs) (RowsOr rows us)
 cnt:cn R n≤k
structure OutQ (w wr:World)(sb n a0 k:Nat)(R:Nat→Option (List Int))(S:List Int→Prop):Prop where
 st:StairQ w wr sb n R (fun a=>dT a0 (k+cn R a))
 ech:Ech R n n
 nz:NZ R
 gen:Alikes n (RowsOf R) S
 cnt:cn R n≤k
theorem InQ.next{rows R:Nat→Option (List Int)}(h:InQ w wr sb n a0 k c rows R us zs v)(h0:zs.getD c 0=0):InQ w wr sb n a0 k (c+1) rows R us zs v:=
 ⟨h.st.mono fun i _=>by
  by_cases h1:i<c
  ·rw [if_pos h1,if_pos (by omega)];exact Nat.le_refl _
  ·rw [if_neg h1];split
   ·exact zm (by omega)
   ·exact Nat.le_refl _,h.ech,h.nz,fun j hj=>by
  by_cases e:j=c
  ·rw [e];exact h0
  ·exact h.zero j (by omega),h.vec.mono (zm (by have:=zbn R (show c≤c+1 by omega);omega)),h.len,h.gen,h.cnt⟩
theorem InQ.last{rows R:Nat→Option (List Int)}(h:InQ w wr sb n a0 k n rows R us zs v):OutQ w wr sb n a0 (k+1) R (RowsOr rows us):=
 ⟨h.st.mono fun i hi=>by rw [if_pos hi];exact Nat.le_refl _,h.ech,h.nz,(zdf h.len h.zero).trans h.gen,Nat.le_succ_of_le h.cnt⟩
theorem InQ.lay{rows R:Nat→Option (List Int)}(h:InQ w wr sb n a0 k c rows R us zs (.slice (some ⟨b,off,none⟩) zs.length cap))(hc:c<n)(hr:R c=none)(h0:zs.getD c 0≠0):
  OutQ w (wr.setCell ⟨sb,c,none⟩ (.slice (some ⟨b,off,none⟩) zs.length cap)) sb n a0 (k+1) (putRow R c zs) (RowsOr rows us):=by
 refine⟨(h.st.set hc h.vec).mono fun i _=>?_,h.ech.set h.len h.zero hc,h.nz.set h0,?_,?_⟩
 ·have hcp:=(zcv R c zs i).1;by_cases h1:i=c
  ·rw [if_pos h1];subst h1;exact zm (by omega)
  ·rw [if_neg h1];split
   ·exact zm (by omega)
   ·exact zm (by omega)
 ·have:=zdh (R:=R) hr h.len (z:=1) (.inl rfl);have e:zs.map ((1:Int)*·)=zs:=by
   have:(fun x:Int=>1*x)=id:=by funext x;simp
   rw [this,List.map_id]
  rw [e] at this;exact this.trans h.gen
 ·have h1:=(zcv R c zs n).2;rw [if_pos hc] at h1;have:=h.cnt;omega
def RowPostQ (w:World)(zs:List Int)(n:Nat)(e:Ending)(w':World):Prop:=∃ v,e=.returned v∧RowQ w' v zs n∧Below w.heap.size w w'
theorem zbP (w:World)(vx va vy vb:Value)(x y:Int)(us vs:List Int)(nx na ny nb m:Nat)(hx:NumR w vx x nx)(ha:RowQ w va us na)(hy:NumR w vy y ny)(hb:RowQ w vb vs nb)(hl:us.length=vs.length)(h8:us.length≤1000)
  (h1:nx+na+1≤m) (h2:ny+nb+1≤m) (hm:m≤100000000000):
  Calls Tryz.prog 85 #[vx,va,vy,vb] w fun e w'=>RowPostQ w (List.zipWith (fun p q=>x*p+y*q) us vs) (m+1) e w':=
 (zhy w vx va vy vb x y us vs nx na ny nb m hx ha hy hb hl h8 h1 h2 hm).mono fun _ _ ⟨v,a,b,c,_⟩=>⟨v,a,b.toQ,c⟩
end Go.Proofs.YtdedolkgcdlmeaaGreatDoor
