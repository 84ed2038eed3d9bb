import Derived.Test.YtncamilanceahaaGreatHermQ
set_option maxRecDepth 100000
set_option maxHeartbeats 1600000
namespace Go.Proofs.YtncamilanceahaaGreat
open Go.RowKit Limbs Digs
variable{W W' wr w3 w':World}{n base g cap:Nat}{v s:Value}{row:Option Nat}{zs:List Int}{z:Int}
theorem zhX (w:World)(v:Value)(ms:List (List Int))(n a0:Nat)(hv:MatR w v ms a0)(hr:∀ us∈ms,us.length=n)(hn1:1≤n)(hn:n≤20)(hm:ms.length≤100)(hB:dT a0 (ms.length+min ms.length n+1)≤1000000000):
  Calls Tryz.prog 29 #[v,.int .i64 (n:Int)] w (fun e w'=>∃ u hs p,e=.returned u∧MatR w' u hs (eB (dT a0 (ms.length+min ms.length n)+7) n)∧hs.length≤n∧FormL n hs p∧Alikes n (InL hs) (InL ms)∧Below w.heap.size w w'):=
 (zhW w v ms n a0 hv.toQ hr hn1 hn hm hB).mono fun _ _ ⟨u,hs,p,h1,h2,h3⟩=>⟨u,hs,p,h1,h2.toR,h3⟩
def apart (og:Option Nat)(s:Value):Prop:=∀ a l c,s=.slice (some a) l c→0<l→some a.block≠og
theorem Lim.grown(h:Lim W s zs)(hg:W.grownBy W' row)(hne:apart row s):Lim W' s zs:=by
 obtain⟨ao,cap,rfl,h1,h2,h3,h4⟩:=h;refine⟨ao,cap,rfl,h1,h2,h3,fun h0=>?_⟩;obtain⟨b,off,rfl,hlt,hc⟩:=h4 h0;have hb:=hne _ _ _ rfl h0;exact⟨b,off,rfl,zT hlt hg.size,fun i hi=>hg.cell (hc i hi) hb⟩
def Nm.val (r:Nm):Value:=.agg #[.bool r.neg,.slice r.o r.l r.c]
def Nm.sl (r:Nm):Value:=.slice r.o r.l r.c
def ncells (p:Nm × Int):List Value:=[.bool p.1.neg,.slice p.1.o p.1.l p.1.c]
theorem NumL.grown{r:Nm}(h:NumL W r.val z n)(hg:W.grownBy W' row)(hne:apart row r.sl):NumL W' r.val z n:=by
 obtain⟨neg,s,zs,e,hl,h3⟩:=h;simp only [Nm.val,Value.agg.injEq,Array.mk.injEq,List.cons.injEq,Value.bool.injEq,and_true] at e;obtain⟨rfl,rfl⟩:=e;exact⟨_,_,zs,rfl,hl.grown hg hne,h3⟩
theorem NumL.inside{r:Nm}(h:NumL W r.val z n):∀ a l c,r.sl=.slice (some a) l c→0<l→a.block<W.heap.size:=fun a l c e h0=>by
 obtain⟨neg,s,zs,e1,hl,-⟩:=h;simp only [Nm.val,Value.agg.injEq,Array.mk.injEq,List.cons.injEq,Value.bool.injEq,and_true] at e1;obtain⟨rfl,rfl⟩:=e1;obtain⟨ao,cap,e2,-,-,-,h4⟩:=hl;unfold Nm.sl at e;rw [e] at e2;simp only [zV] at e2;obtain⟨rfl,rfl,rfl⟩:=e2;obtain⟨b,off,e3,hlt,-⟩:=h4 h0;simp only [Option.some.injEq] at e3;rw [e3];exact hlt
def Grow (W:World)(base:Nat)(v:Value)(ps:List (Nm × Int))(n:Nat):Prop:=
 W.ownsRow base 90 2 v ps.length (ps.flatMap ncells)∧∀ p∈ps,NumL W p.1.val p.2 n∧apart v.ownBlock p.1.sl
theorem Grow.nil (W:World)(base n:Nat):Grow W base (.slice none 0 0) [] n:=⟨World.ownsRow_nil _ _ _ _,fun _ h=>by cases h⟩
theorem Grow.later{ps:List (Nm × Int)}(h:Grow W base v ps n)(hb:Below W.heap.size W W'):Grow W' base v ps n:=by
 refine⟨?_,fun p hp=>⟨(h.2 p hp).1.below hb zL,(h.2 p hp).2⟩⟩;refine⟨h.1.1,?_⟩;rcases h.1.2 with hn |⟨g,cap,cur,e,hbg,hh,rest⟩
 ·exact .inl hn
 ·exact .inr ⟨g,cap,cur,e,hbg,(hb.block _ (zm hh)).trans hh,rest⟩
theorem Grow.fresh{W0:World}{ps:List (Nm × Int)}(h:Grow W base v ps n)(hs:W.heap.size≤W0.heap.size)(hn:NewSl W0 s):apart v.ownBlock s:=fun a l c e _ hb=>by
 have h1:=hn a l c e;have h2:=(h.1.lt _ hb.symm).2;omega
theorem zhP{ps:List (Nm × Int)}{r:Nm}{ob:Obj}(h:Grow wr base v ps n)(hz:NumL wr r.val z n)(ha:apart v.ownBlock r.sl)
  (hown:w3.ownsRow base 90 2 (.slice (some ⟨g,0,none⟩) (ps.length+1) cap) (ps.length+1) (ps.flatMap ncells++ncells (r,z)))
  (hg:(wr.alloc ob).grownBy w3 v.ownBlock) (hat:v.ownBlock=some g∨g=wr.heap.size+1):Grow w3 base (.slice (some ⟨g,0,none⟩) (ps.length+1) cap) (ps++[(r,z)]) n:=by
 refine⟨by rw [List.length_append,List.length_singleton,List.flatMap_append,List.flatMap_singleton];exact hown,fun p hp=>?_⟩;have key:∀ p:Nm × Int,NumL wr p.1.val p.2 n→apart v.ownBlock p.1.sl→NumL w3 p.1.val p.2 n∧apart (some g) p.1.sl:=fun p h1 h2=>by
  refine⟨(h1.below ((zB _ _).alloc zL ob) zL).grown hg h2,fun a l c e h0 hb=>?_⟩;rcases hat with h | h
  ·exact h2 a l c e h0 (hb.trans h.symm)
  ·have:=h1.inside a l c e h0;simp only [Option.some.injEq] at hb;omega
 rcases List.mem_append.1 hp with h' | h'
 ·exact key p (h.2 p h').1 (h.2 p h').2
 ·rw [List.mem_singleton] at h';rw [h'];exact key (r,z) hz ha
theorem zhO{ps:List (Nm × Int)}{ob:Obj}(h:Grow wr base v ps n)(hB:base≤wr.heap.size)(hg:(wr.alloc ob).grownBy w3 v.ownBlock):Below base wr w3:=
 ((zB _ _).alloc hB _).grown hg (by simp;omega) (fun k hk=>(h.1.lt k hk).1)
theorem ziv (ps:List (Nm × Int)):∀ i (h:i<ps.length),(ps.flatMap ncells)[i*2]?=some (.bool ps[i].1.neg)∧(ps.flatMap ncells)[i*2+1]?=some (.slice ps[i].1.o ps[i].1.l ps[i].1.c):=by
 induction ps with
 | nil=>intro i h;exact absurd h (by simp)
 | cons p ps ih=>
  intro i h;rw [List.flatMap_cons];cases i with
  | zero=>exact⟨rfl,rfl⟩
  | succ i=>
   obtain⟨h1,h2⟩:=ih i (by simpa using h);have e1:(i+1)*2=i*2+2:=by omega
   rw [e1,show i*2+2+1=i*2+1+2 by omega,List.getElem?_append_right (by simp [ncells]),List.getElem?_append_right (by simp [ncells])];exact⟨h1,h2⟩
theorem Grow.vec{ps:List (Nm × Int)}(h:Grow W base v ps n):VecN W v (ps.map (·.2)) n:=by
 obtain⟨⟨-,h1⟩,h2⟩:=h;have hlen:(ps.map (·.2)).length=ps.length:=zM ..;rcases h1 with⟨rfl,hn⟩ |⟨g,cap,cur,rfl,hb,hh,hc1,hc2,hc3,hc4⟩
 ·exact⟨none,0,by rw [hlen,hn],by rw [hlen];omega,fun h0=>absurd h0 (by rw [hlen];omega)⟩
 ·refine⟨_,cap,by rw [hlen],by rw [hlen];exact hc1,fun h0=>⟨g,0,rfl,zm hh,fun i hi=>?_⟩⟩;rw [hlen] at hi;obtain⟨e1,e2⟩:=ziv ps i hi;have hcell:∀ k u,k<ps.length*2→(ps.flatMap ncells)[k]?=some u→W.cell? ⟨g,0+k,none⟩=some u:=fun k u hk hu=>by
   have:=World.news_of_block hh k u (by rw [← hc4,List.getElem?_take,if_pos hk] at hu;exact hu);have e:(⟨g,0,none⟩:Addr).add k=⟨g,0+k,none⟩:=by unfold Addr.add;split <;> simp_all
   rwa [e] at this
  refine⟨ps[i].1.neg,ps[i].1.o,ps[i].1.l,ps[i].1.c,hcell _ _ (by omega) e1,hcell _ _ (by omega) e2,?_⟩;have e3:(ps.map (·.2)).getD i 0=ps[i].2:=by
   rw [zG,List.getElem?_map,List.getElem?_eq_getElem hi];rfl
  rw [e3];exact(h2 _ (List.getElem_mem hi)).1
def AllSl (W:World)(row:Option Nat):Prop:=∀ g,row=some g→∃ cur t fz,W.heap[g]?=some (.cells cur t fz)∧∀ u,u∈cur.toList→∃ o l c,u=.slice o l c
theorem zfW (W:World):AllSl W none:=fun _ h=>by cases h
theorem AllSl.cell(h:AllSl W (some g)){k:Nat}{u:Value}(hc:W.cell? ⟨g,k,none⟩=some u):∃ o l c,u=.slice o l c:=by
 obtain⟨cur,t,fz,hh,hs⟩:=h g rfl;rw [cell_of_row W g k cur t fz hh] at hc;refine hs u ?_;obtain⟨hk,e⟩:=Array.getElem?_eq_some_iff.1 hc;rw [← e];exact Array.getElem_mem_toList hk
theorem AllSl.later(h:AllSl W row)(hb:Below W.heap.size W W'):AllSl W' row:=fun g hg=>by
 obtain⟨cur,t,fz,hh,hs⟩:=h g hg;exact⟨cur,t,fz,(hb.block _ (zm hh)).trans hh,hs⟩
theorem Lim.grownS(h:Lim W s zs)(hg:W.grownBy W' row)(hr:AllSl W row):Lim W' s zs:=by
 obtain⟨ao,cap,rfl,h1,h2,h3,h4⟩:=h;refine⟨ao,cap,rfl,h1,h2,h3,fun h0=>?_⟩;obtain⟨b,off,e,hlt,hc⟩:=h4 h0;have hne:some b≠row:=fun e'=>by
  subst e';obtain⟨o,l,c,e⟩:=hr.cell (hc 0 h0);cases e
 exact⟨b,off,e,zT hlt hg.size,fun i hi=>hg.cell (hc i hi) hne⟩
theorem NumL.grownS(h:NumL W v z n)(hg:W.grownBy W' row)(hr:AllSl W row):NumL W' v z n:=by
 obtain⟨neg,s,zs,h1,h2,h3⟩:=h;exact⟨neg,s,zs,h1,h2.grownS hg hr,h3⟩
theorem VecN.grownS(h:VecN W v zs n)(hg:W.grownBy W' row)(hr:AllSl W row):VecN W' v zs n:=by
 obtain⟨ao,cap,hv,h1,h2⟩:=h;refine⟨ao,cap,hv,h1,fun h0=>?_⟩;obtain⟨b,off,e,hlt,hc⟩:=h2 h0;have hne:some b≠row:=fun e'=>by
  subst e';obtain⟨neg,_,_,_,h3,-⟩:=hc 0 h0;obtain⟨o,l,c,e⟩:=hr.cell h3;cases e
 refine⟨b,off,e,zT hlt hg.size,fun i hi=>?_⟩;obtain⟨neg,o,l,c,h3,h4,h5⟩:=hc i hi;exact⟨neg,o,l,c,hg.cell h3 hne,hg.cell h4 hne,h5.grownS hg hr⟩
theorem zj6 (n:Nat):∀ u,u∈(Builtin.zeroCells (Value.cells (.slice none 0 0)) n).toList→∃ o l c,u=.slice o l c:=fun u hu=>by
 simp only [Builtin.zeroCells,Array.toList_map,List.mem_map] at hu;obtain⟨i,-,rfl⟩:=hu;exact⟨none,0,0,by
  have:i%(Value.cells (.slice none 0 0)).size=0:=by simp [Value.cells,Nat.mod_one]
  rw [this];rfl⟩
theorem zi7 {P:Program}(w:World)(t ty:TypeId)(base:Nat)(e:TypeId)(i:TypeInfo)(ht:P.underlying t=some (.slice e))(hi:P.info? e=some i)(hz:i.zero=some (.slice none 0 0))
  (hsize:i.size=1) (v:Value) (n:Nat) (xs:List Value) (hown:w.ownsRow base e 1 v n xs) (hall:AllSl w v.ownBlock)
  (ad:Addr) (o:Option Addr) (l c cc:Nat) (hnews:∀ j u,[Value.slice o l c][j]?=some u→w.cell? (ad.add j)=some u)
  (h63:n+1≤maxLen) (hbytes:(n+1)*i.bytes≤140737488355328) (g cap:Nat) (w':World)
  (hr:(Builtin.append_ #[t,t] ty #[v,.slice (some ad) 1 cc]).run P w=.ok (.slice (some ⟨g,0,none⟩) (n+1) cap) w'):AllSl w' (some g):=by
 have hx:∀ u,u∈xs→∃ o l c,u=.slice o l c:=by
  rcases hown.2 with⟨rfl,rfl⟩ |⟨g',cap',cur,rfl,hbg,hg,hnc,hcm,hcs,htake⟩
  ·have:xs=[]:=List.eq_nil_of_length_eq_zero (by simpa using hown.1);rw [this];exact fun _ h=>by cases h
  ·intro u hu;obtain⟨cur',t',fz',hh,hs⟩:=hall g' rfl;rw [hg] at hh;simp only [Option.some.injEq,Obj.cells.injEq] at hh;obtain⟨rfl,-,-⟩:=hh;rw [← htake] at hu;exact hs u (List.mem_of_mem_take hu)
 have hmake:∀(k:Nat) (ys:List Value),(∀ u,u∈ys→∃ o l c,u=.slice o l c)→AllSl (w.drew.alloc (.cells (ys.toArray++Builtin.zeroCells (Value.cells (.slice none 0 0)) k) e)) (some w.heap.size):=fun k ys hy g0 hg0=>by
  simp only [Option.some.injEq] at hg0;subst hg0;refine⟨_,_,_,heap_alloc_new w.drew _,fun u hu=>?_⟩;rw [Array.toList_append,List.mem_append] at hu;rcases hu with hu | hu
  ·exact hy u (by simpa using hu)
  ·exact zj6 k u hu
 have hsl:∀ u,u∈[Value.slice o l c]→∃ o l c,u=.slice o l c:=fun u hu=>by
  rw [List.mem_singleton] at hu;exact⟨o,l,c,hu⟩
 have h1c:∀ u∈[Value.slice o l c],u.oneCell'=true:=fun u hu=>by
  rw [List.mem_singleton] at hu;rw [hu];rfl
 have hsmall:n+1≤9223372036854775807:=by simp only [maxLen] at h63;omega
 rcases hown.2 with⟨rfl,rfl⟩ |⟨g',cap',cur,rfl,hbg,hg,hnc,hcm,hcs,htake⟩
 ·have hr':=run_append_nil (P:=P) w t ty e i (.slice none 0 0) ht hi hz ad 1 cc [Value.slice o l c] (by rw [hsize];rfl) hnews (by decide) (by decide) (by simp only [Nat.zero_add] at hbytes;omega);rw [hr'] at hr;simp only [Result.ok.injEq,zV,Option.some.injEq,Addr.mk.injEq,and_true] at hr;obtain⟨⟨rfl,-⟩,rfl⟩:=hr;exact hmake _ _ hsl
 ·by_cases hroom:n+1≤cap'
  ·have hr':=run_append_room (P:=P) w t ty e i ht hi g' n cap' cur hg ad 1 cc [Value.slice o l c] (by rw [hsize];rfl) hnews h1c hroom (by rw [hsize,hcs];simp;omega);rw [hr'] at hr;simp only [Result.ok.injEq,zV,Option.some.injEq,Addr.mk.injEq,and_true,true_and] at hr;obtain⟨⟨rfl,-⟩,rfl⟩:=hr;intro g0 hg0;simp only [Option.some.injEq] at hg0;subst hg0;refine⟨_,_,_,setRow_heap w g' cur _ e _ hg,fun u hu=>?_⟩;obtain⟨cur',t',fz',hh,hs⟩:=hall g' rfl;rw [hg] at hh;simp only [Option.some.injEq,Obj.cells.injEq] at hh;obtain⟨rfl,-,-⟩:=hh;simp only [List.mem_append] at hu;rcases hu with(hu | hu) | hu
   ·exact hs u (List.mem_of_mem_take hu)
   ·exact hsl u hu
   ·exact hs u (List.mem_of_mem_drop hu)
  ·have holds:∀ j u,xs[j]?=some u→w.cell? ((⟨g',0,none⟩:Addr).add j)=some u:=hown.cells (g:=g') rfl;have hr':=run_append_grow (P:=P) w t ty e i (.slice none 0 0) ht hi hz ⟨g',0,none⟩ n cap' xs (by rw [hsize];exact hown.1) holds ad 1 cc [Value.slice o l c] (by rw [hsize];rfl) hnews (by omega) (by omega) (growslice_fits (by omega) hbytes);rw [hr'] at hr;simp only [Result.ok.injEq,zV,Option.some.injEq,Addr.mk.injEq,and_true,true_and] at hr;obtain⟨⟨rfl,-⟩,rfl⟩:=hr;have:=hmake (grownCap w (n+1) cap' e-(n+1)) (xs++[Value.slice o l c]) (fun u hu=>by
    rcases List.mem_append.1 hu with h | h
    ·exact hx u h
    ·exact hsl u h)
   rwa [← List.append_toArray] at this
theorem zj5 {P:Program}{w:World}{ops:Array Oper}{rest:List Oper}{op:Oper}{a:Act}{Q:Exit→Act→World→Prop}(hgd:op.guard=none)(s x:Operand)(t:TypeId)
  (ho:op.op=.call { callee:=.builtin .append,args:=#[s,x],argTypes:=#[t,t] })
  (base:Nat) (e:TypeId) (i:TypeInfo) (bytes:Nat) (ht:P.underlying t=some (.slice e)) (hi:P.info? e=some i) (hz:i.zero=some (.slice none 0 0))
  (hsize:i.size=1) (hby:i.bytes=bytes) (v:Value) (n:Nat) (xs:List Value) (hs:a.eval s=v) (hown:w.ownsRow base e 1 v n xs) (hall:AllSl w v.ownBlock)
  (ad:Addr) (cc:Nat) (o:Option Addr) (l c:Nat) (hx:a.eval x=.slice (some ad) 1 cc) (hnews:∀ j u,[Value.slice o l c][j]?=some u→w.cell? (ad.add j)=some u)
  (h63:n+1≤maxLen) (hbytes:(n+1)*bytes≤140737488355328) (hbase:base≤w.heap.size)
  (h:∀ g cap w',w'.ownsRow base e 1 (.slice (some ⟨g,0,none⟩) (n+1) cap) (n+1) (xs++[.slice o l c])→w.grownBy w' v.ownBlock→AllSl w' (some g)→wpList P ops Q rest (a.put op.dst (.slice (some ⟨g,0,none⟩) (n+1) cap)) w'):wpList P ops Q (op::rest) a w:=by
 refine wpList_plain hgd fun K hK=>?_;subst hby;obtain⟨g,cap,w',hr,h2,h3,h4,h5⟩:=run_append_lies (P:=P) w t op.type base e i (.slice none 0 0) 1 i.bytes ht hi hz hsize rfl rfl (by decide) v n xs hown ad 1 cc [.slice o l c] rfl hnews (fun u hu=>by rw [List.mem_singleton] at hu;rw [hu];rfl) (by decide) h63 hbytes hbase _ rfl;have hA:=zi7 w t op.type base e i ht hi hz hsize v n xs hown hall ad o l c cc hnews h63 hbytes g cap w' hr;unfold Oper.wp execOp;simp only [ho,resolve,invoke,builtin,Sem.run_bind,Sem.run_pure,Result.andThen_ok,List.map_toArray,List.map_cons,List.map_nil,hs,hx,hr];exact hK _ _ (h g cap w' h2 h3 hA)
structure GrowV (W:World)(base:Nat)(v:Value)(qs:List (Value × List Int))(n:Nat):Prop where
 own:W.ownsRow base 62 1 v qs.length (qs.map (·.1))
 all:AllSl W v.ownBlock
 vec:∀ q∈qs,VecN W q.1 q.2 n
theorem GrowV.nil (W:World)(base n:Nat):GrowV W base (.slice none 0 0) [] n:=⟨World.ownsRow_nil _ _ _ _,zfW _,fun _ h=>by cases h⟩
theorem GrowV.later{qs:List (Value × List Int)}(h:GrowV W base v qs n)(hb:Below W.heap.size W W'):GrowV W' base v qs n:=
 ⟨zas h.own hb,h.all.later hb,fun p hp=>(h.vec p hp).below hb zL⟩
theorem zhN{qs:List (Value × List Int)}{o:Option Addr}{l c:Nat}(h:GrowV W base v qs n)(hz:VecN W (.slice o l c) zs n)
  (hown:w'.ownsRow base 62 1 (.slice (some ⟨g,0,none⟩) (qs.length+1) cap) (qs.length+1) (qs.map (·.1)++[.slice o l c]))
  (hg:W.grownBy w' v.ownBlock) (hA:AllSl w' (some g)):GrowV w' base (.slice (some ⟨g,0,none⟩) (qs.length+1) cap) (qs++[(.slice o l c,zs)]) n:=by
 refine⟨by rw [List.length_append,List.length_singleton,List.map_append];exact hown,hA,fun p hp=>?_⟩;rcases List.mem_append.1 hp with h' | h'
 ·exact(h.vec p h').grownS hg h.all
 ·rw [List.mem_singleton] at h';rw [h'];exact hz.grownS hg h.all
theorem GrowV.mat{qs:List (Value × List Int)}(h:GrowV W base v qs n):MatN W v (qs.map (·.2)) n:=zeQ h.own h.vec
theorem zhQ{qs:List (Value × List Int)}(h:GrowV W base v qs n)(hB:base≤W.heap.size)(hg:W.grownBy w' v.ownBlock):Below base W w':=
 (zB _ _).grown hg hB (fun k hk=>(h.own.lt k hk).1)
theorem zip (w:World)(v:Value)(zss:List (List Int))(n:Nat)(hv:MatQ False w v zss n)(hl:zss.length≤1000)(hr:∀ zs∈zss,zs.length≤1000)(hn6:n≤1000000):
  Calls Tryz.prog 28 #[v] w fun e w'=>∃ u,e=.returned u∧MatN w' u zss n∧Below w.heap.size w w':=by
 obtain⟨i0,hi,hz0,hz1,hz2⟩:=info_parts Tryz.infoNum;obtain⟨j0,hj,hy0,hy1,hy2⟩:=info_parts Tryz.infoVec;have HV:=hide hv;have HR:=hide hr;clear hr;obtain⟨ao,cap,rfl,-,-⟩:=hv;go_enter Tryz.func28,Tryz.ntmps28;go_wp2;go_loopw [3,4] (fun out i wr=>∃(k:Nat) (qs:List (Value × List Int)),k≤zss.length∧i=.int .i64 k∧Hid (GrowV wr w.heap.size out qs n)∧Hid (qs.map (·.2)=zss.take k)∧Hid (Below w.heap.size w wr)) (fun _ i _=>zss.length-(intOf i).toNat)
 case atStart=>exact⟨0,[],Nat.zero_le _,rfl,hide (GrowV.nil _ _ _),hide (by simp),hide (zB _ _)⟩
 case round=>
  obtain⟨k,qs,hk,rfl,HGV,HQ,HBE⟩:=hrel;have HQL:Hid (qs.length=k):=by
   have:=congrArg List.length HQ.out;rw [zM,List.length_take] at this;show qs.length=k;omega
  by_cases hkl:k<zss.length
  ·obtain⟨_,_,e,-,hc⟩:=HV.out.below HBE.out zL;simp only [zV,true_and] at e;obtain⟨rfl,rfl⟩:=e;obtain⟨b,rfl,hblt,hc⟩:=hc (by omega);obtain⟨u,cu,hu⟩:=hc k zss[k] (by simp [hkl]);have HU:=hide hu;have hzl:=HR.out _ (List.getElem_mem hkl);have HQ':Hid (∀ r:Value,(qs++[(r,zss[k])]).map (·.2)=zss.take (k+1)):=fun r=>by
    rw [List.map_append,HQ.out,List.take_succ_eq_append_getElem hkl];rfl
   clear hc;generalize zss[k]=zs at *;obtain⟨vo,vcap,rfl,-,-⟩:=hu;go_wp2;obtain⟨wo,rfl⟩:∃ wo:World,wo=wr:=⟨_,rfl⟩;go_loopw [5,6] (fun r i wr=>∃(q:Nat) (ps:List (Nm × Int)),q≤zs.length∧i=.int .i64 q∧Grow wr wo.heap.size r ps n∧Hid (ps.map (·.2)=zs.take q)∧Below wo.heap.size wo wr) (fun _ i _=>zs.length-(intOf i).toNat)
   case atStart=>exact⟨0,[],Nat.zero_le _,rfl,Grow.nil _ _ _,by show _=_;simp,zB _ _⟩
   case round=>
    obtain⟨q,ps,hq,rfl,hgr,HP,hbi⟩:=hrel;have HGR:=hide hgr;have HBI:=hide hbi;have HPL:Hid (ps.length=q):=by
     have:=congrArg List.length HP.out;rw [zM,List.length_take] at this;show ps.length=q;omega
    clear hgr hbi;have cu2:wr.cell? ⟨b,k,none⟩=some (.slice vo zs.length vcap):=(HBI.out.cell (p:=⟨b,k,none⟩) hblt).trans cu;by_cases hql:q<zs.length
    ·obtain⟨ab,aoff,_,e,la,rs,ro,rl,rc,a0,a1,na⟩:=(HU.out.below HBI.out zL).at q hql;simp only [zV,true_and] at e;obtain⟨rfl,rfl⟩:=e;have NA:=hide na;have HP':Hid (∀ r:Nm,(ps++[(r,zs.getD q 0)]).map (·.2)=zs.take (q+1)):=fun r=>by
      rw [List.map_append,HP.out,List.take_succ_eq_append_getElem hql,zG,List.getElem?_eq_getElem hql];rfl
     clear na;generalize zs.getD q 0=z at *;go_wp2_with fail;refine(zh3 wr _ z n NA.out hn6).mono ?_;rintro e w3 ⟨⟨r,rfl,hr3,hb3⟩,hnew⟩;obtain⟨⟨rn,ro',rl',rc'⟩,rfl⟩:=hr3.nm;have HAP:Hid (apart u5.ownBlock (Nm.sl ⟨rn,ro',rl',rc'⟩)):=HGR.out.fresh zL (hnew _ _ rfl);have HG3:=hide (HGR.out.later hb3);have HB3:=hide (HBI.out.trans (hb3.mono HBI.out.size));have HR3:Hid (NumL w3 (Nm.val ⟨rn,ro',rl',rc'⟩) z n):=hr3;have hown:=HG3.out.1;clear hr3 hb3 hnew HGR HBI a0 a1 cu2 NA;go_wp2_with (at_builtin;refine wpList_append_lies _ rfl _ _ 62 rfl wo.heap.size 90 i0 (.agg #[.bool false,.slice none 0 0]) 2 32 (by kernel_rfl) hi hz0 hz1 hz2 rfl (by decide) u5 ps.length (ps.flatMap ncells) rfl (hown.alloc _) ⟨w3.heap.size,0,none⟩ 1 1 [.bool rn,.slice ro' rl' rc'] rfl rfl (World.news_of_block (heap_alloc_new w3 _)) (fun u hu=>by simp only [List.mem_cons,List.mem_nil_iff,or_false] at hu;rcases hu with rfl | rfl <;> rfl) (by decide) (by unfold maxLen;have:=HPL.out;omega) (by have:=HPL.out;omega) (by simp;have:=HB3.out.size;omega) (w3.heap.size+1) (by simp) ?_);intro g cap' w5 hown5 hgrow5 hat5 hlt5;have HN:=hide (zhP HG3.out HR3.out HAP.out hown5 hgrow5 hat5);have HB5:=hide (HB3.out.trans (zhO HG3.out HB3.out.size hgrow5));have HP5:=hide (HP'.out ⟨rn,ro',rl',rc'⟩);clear hown hown5 hgrow5 hat5 hlt5 HG3 HR3 HB3 HP' HP HAP;go_wp2;go_roundw
     case rel=>exact⟨q+1,_,by omega,by go_num,HN.out,HP5,HB5.out⟩
     case measure=>simp [intOf];omega
    ·obtain rfl:q=zs.length:=by omega
     have HRR:Hid (VecN wr u5 zs n):=by
      have:=HGR.out.vec;rw [HP.out,List.take_length] at this;exact this
     have HG3:=hide (HGV.out.later HBI.out);have HB3:=hide (HBE.out.trans (HBI.out.mono HBE.out.size));obtain⟨so,sl,sc,rfl⟩:∃ so sl sc,u5=.slice so sl sc:=by
      obtain⟨so,sc,e,-⟩:=HRR.out;exact⟨_,_,_,e⟩
     have hown:=HG3.out.own;have hall:=HG3.out.all.later ((zB _ _).alloc zL (.cells #[.slice so sl sc] 62));have hbs:=HB3.out.size;clear HGR HP HPL;go_wp2_with (at_builtin;refine zj5 rfl _ _ 31 rfl w.heap.size 62 j0 24 (by kernel_rfl) hj hy0 hy1 hy2 u3 qs.length (qs.map (·.1)) rfl (hown.alloc _) hall ⟨wr.heap.size,0,none⟩ 1 so sl sc rfl (World.news_of_block (heap_alloc_new wr _)) (by unfold maxLen;have:=HQL.out;omega) (by have:=HQL.out;omega) (by simp;omega) ?_);intro g cap' w5 hown5 hgrow5 hall5;have HG5:=hide (zhN (HG3.out.later ((zB _ _).alloc zL _)) (HRR.out.below ((zB _ _).alloc zL _) zL) hown5 hgrow5 hall5);have HB5:=hide ((HB3.out.alloc HB3.out.size _).trans (zhQ (HG3.out.later ((zB _ _).alloc zL _)) (by simp;omega) hgrow5));have HQ5:=hide (HQ'.out (.slice so sl sc));clear hown hall hown5 hgrow5 hall5 HG3 HRR HB3 HQ' cu2;go_wp2;go_roundw
     case rel=>exact⟨k+1,_,by omega,by go_num,HG5,HQ5,HB5⟩
     case measure=>simp [intOf];omega
  ·obtain rfl:k=zss.length:=by omega
   have HF:Hid (MatN wr u3 zss n):=by
    have:=HGV.out.mat;rw [HQ.out,List.take_length] at this;exact this
   clear HGV HQ;go_wp2;go_ret;exact⟨_,rfl,HF.out,HBE.out⟩
theorem ziq (w:World)(v:Value)(zss:List (List Int))(n:Nat)(hv:MatR w v zss n)(hl:zss.length≤1000)(hr:∀ zs∈zss,zs.length≤1000)(hn6:n≤1000000):
  Calls Tryz.prog 28 #[v] w fun e w'=>∃ u,e=.returned u∧MatN w' u zss n∧Below w.heap.size w w':=
 zip w v zss n hv.toQ hl hr hn6
theorem FormL.short{hs:List (List Int)}{p:Nat→Nat}(h:FormL n hs p):hs.length≤n:=by
 have hrm:∀ k,k<hs.length→k≤p k:=fun k=>by
  induction k with
  | zero=>exact fun _=>Nat.zero_le _
  | succ k ih=>intro hk;have:=ih (by omega);have:=h.form.inc k (k+1) (by omega) hk;omega
 by_cases h0:hs.length=0
 ·omega
 ·have:=hrm (hs.length-1) (by omega);have:=h.form.lt (hs.length-1) (by omega);omega
theorem zix{neg neg':Bool}{zs':List Int}(h1:LB zs)(h2:LB zs')(n1:Nrm zs)(n2:Nrm zs')(e1:zs.length=0→neg=false)(e2:zs'.length=0→neg'=false)
  (h:(if neg=true then -lv zs else lv zs)=(if neg'=true then -lv zs' else lv zs')):neg=neg'∧zs=zs':=by
 have p1:=zF h1;have p2:=zF h2;have q1:=zbe h1 n1;have q2:=zbe h2 n2;cases neg <;> cases neg' <;> simp at h
 ·exact⟨rfl,zeL h1 h2 n1 n2 h⟩
 ·exfalso;have:=e2 (q2.1 (by omega));simp at this
 ·exfalso;have:=e1 (q1.1 (by omega));simp at this
 ·exact⟨rfl,zeL h1 h2 n1 n2 (by omega)⟩
theorem zjg (w:World)(va vb:Value)(x y:Int)(n m:Nat)(ha:NumL w va x n)(hb:NumL w vb y m):
  Calls Tryz.prog 61 #[va,vb] w fun e w'=>e=.returned (.bool (decide (x=y)))∧Below w.heap.size w w':=by
 obtain⟨an,sa,zs,rfl,hla,nra,ea,hx,-⟩:=ha;obtain⟨bn,sb,zs',rfl,hlb,nrb,eb,hy,-⟩:=hb;have HA:=hide hla;have HB:=hide hlb;obtain⟨ao,acap,rfl,hacap,halen,halb,-⟩:=hla;obtain⟨bo,bcap,rfl,hbcap,hblen,hblb,-⟩:=hlb;have HD:Hid (decide (x=y)=decide (an=bn∧zs=zs')):=by
  show _=_;by_cases h:x=y
  ·rw [decide_eq_true h,decide_eq_true (zix halb hblb nra nrb ea eb (hx.symm.trans (h.trans hy)))]
  ·rw [decide_eq_false h,decide_eq_false (fun h'=>h (by rw [hx,hy,h'.1,h'.2]))]
 rw [HD.out];generalize hr:decide (an=bn∧zs=zs')=r;have HR:Hid (r=decide (an=bn∧zs=zs')):=hr.symm;clear hx hy ea eb nra nrb HD hr;have hT:=two w (.bool an) (.slice ao zs.length acap) (.bool bn) (.slice bo zs'.length bcap) 90 90;have HT:=hide hT;obtain⟨_,_,e,-,-,-,hac⟩:=HA.out.below hT.below zL;simp only [zV,true_and] at e;obtain⟨rfl,rfl⟩:=e;obtain⟨_,_,e,-,-,-,hbc⟩:=HB.out.below hT.below zL;simp only [zV,true_and] at e;obtain⟨rfl,rfl⟩:=e;have HAC:=hide hac;have HBC:=hide hbc;clear hac hbc HA HB;by_cases hn:an=bn
 ·subst hn;by_cases hl:zs.length=zs'.length
  ·have HL:=hide hl;have hl1:((zs.length:Int) ==(zs'.length:Int))=true:=by rw [beq_iff_eq];omega
   have hl2:((zs.length:Int) !=(zs'.length:Int))=false:=by rw [bne_eq_false_iff_eq];omega
   clear hl;go_enter Tryz.func61,Tryz.ntmps61;go_wp2;generalize (w.alloc (.cells #[.bool an,.slice ao zs.length acap] 90)).alloc (.cells #[.bool an,.slice bo zs'.length bcap] 90)=W at *;clear hT;obtain⟨k0,k1,-,-⟩:=HT.out.fst;obtain⟨l0,l1,-,-⟩:=HT.out.res;go_loopw [5] (fun i wr=>∃ k nq:Nat,k≤zs.length∧i=.int .i64 k∧wr=W.drewN nq∧Hid (zs.take k=zs'.take k)) (fun i _=>zs.length-(intOf i).toNat)
   case atStart=>exact⟨0,0,Nat.zero_le _,rfl,by simp [World.drewN_zero],by show _=_;simp⟩
   case round=>
    obtain⟨k,nq,hk,rfl,rfl,HG⟩:=hrel;by_cases hlt:k<zs.length
    ·obtain⟨ab,aoff,rfl,-,hac⟩:=HAC.out (by omega);have hlt':k<zs'.length:=by have:=HL.out;omega
     obtain⟨bb,boff,rfl,-,hbc⟩:=HBC.out (by omega);have hca:=hac k hlt;have hcb:=hbc k hlt';have HTS:=hide (fun e=>zfD hlt hlt' HG.out e);have HNE:Hid (zs.getD k 0≠zs'.getD k 0→r=false):=fun h=>HR.out.trans (decide_eq_false fun e=>h (by rw [e.2]));clear hac hbc HAC HBC;generalize zs.getD k 0=z at *;generalize zs'.getD k 0=y' at *;by_cases hzy:z=y'
     ·have HG':=hide (HTS.out hzy);subst hzy;clear HTS HNE HG;go_wp2
      go_quiet (fail)
      go_wp2;go_roundw
      case rel=>exact⟨k+1,_,by omega,by go_num,rfl,HG'⟩
      case measure=>simp [intOf];omega
     ·obtain rfl:r=false:=HNE.out hzy;have hz1:(z==y')=false:=by rw [beq_eq_false_iff_ne];exact hzy
      have hz2:(z != y')=true:=by rw [bne_iff_ne];exact hzy
      clear HTS HNE HG;go_wp2
      go_quiet (fail)
      go_wp2;go_ret;exact⟨rfl,by first | exact zP HT.out.below _ | exact zP (zP HT.out.below _) _⟩
    ·obtain rfl:r=true:=by
      obtain rfl:k=zs.length:=by omega
      have:=HG.out;rw [List.take_length,List.take_of_length_le (by have:=HL.out;omega)] at this;exact HR.out.trans (decide_eq_true (by first | exact⟨rfl,this⟩ | exact⟨trivial,this⟩))
     clear HG;go_wp2;go_ret;exact⟨rfl,zP HT.out.below _⟩
  ·have hl1:((zs.length:Int) ==(zs'.length:Int))=false:=by rw [beq_eq_false_iff_ne];omega
   have hl2:((zs.length:Int) !=(zs'.length:Int))=true:=by rw [bne_iff_ne];omega
   obtain rfl:r=false:=HR.out.trans (decide_eq_false fun e=>hl (by rw [e.2]));clear hl HAC HBC;go_enter Tryz.func61,Tryz.ntmps61;go_wp2;go_ret;exact⟨rfl,HT.out.below⟩
 ·have hn1:(an==bn)=false:=by rw [beq_eq_false_iff_ne];exact hn
  have hn2:(an != bn)=true:=by rw [bne_iff_ne];exact hn
  obtain rfl:r=false:=HR.out.trans (decide_eq_false fun e=>hn e.1);clear hn HAC HBC;go_enter Tryz.func61,Tryz.ntmps61;go_wp2;go_ret;exact⟨rfl,HT.out.below⟩
theorem zji (w:World)(va vb:Value)(zs ys:List Int)(n m:Nat)(ha:VecN w va zs n)(hb:VecN w vb ys m)(hzl:zs.length≤100000)(r:Bool)(hr:r=decide (zs=ys)):
  Calls Tryz.prog 41 #[va,vb] w fun e w'=>e=.returned (.bool r)∧Below w.heap.size w w':=by
 have HA:=hide ha;have HB:=hide hb;have HR:=hide hr;clear hr;by_cases hl:zs.length=ys.length
 ·obtain⟨ao,acap,rfl,-,-⟩:=ha;obtain⟨bo,bcap,rfl,-,-⟩:=hb;have hl1:((zs.length:Int) ==(ys.length:Int))=true:=by rw [beq_iff_eq];omega
  have hl2:((zs.length:Int) !=(ys.length:Int))=false:=by rw [bne_eq_false_iff_eq];omega
  have HLN:=hide hl;clear hl;go_enter Tryz.func41,Tryz.ntmps41;go_wp2;go_loopw [5] (fun i wr=>∃ k:Nat,k≤zs.length∧i=.int .i64 k∧Hid (zs.take k=ys.take k)∧Below w.heap.size w wr) (fun i _=>zs.length-(intOf i).toNat)
  case atStart=>exact⟨0,Nat.zero_le _,rfl,by show _=_;simp,zB _ _⟩
  case round=>
   obtain⟨k,hk,rfl,HG,hbe⟩:=hrel;have HBE:=hide hbe;clear hbe;by_cases hkl:k<zs.length
   ·have hky:k<ys.length:=by have:=HLN.out;omega
    obtain⟨ab,aoff,_,e⟩:=HA.out.form (by omega);simp only [zV,true_and] at e;obtain⟨rfl,rfl⟩:=e;obtain⟨bb,boff,_,e⟩:=HB.out.form (by omega);simp only [zV,true_and] at e;obtain⟨rfl,rfl⟩:=e;obtain⟨la,an,ao,al,ac,a0,a1,na⟩:=(HA.out.below HBE.out zL).at k hkl;obtain⟨lb,bn,bo,bl,bc,b0,b1,nb⟩:=(HB.out.below HBE.out zL).at k hky;have NA:=hide na;have NB:=hide nb;have HTS:=hide (fun e=>zfD hkl hky HG.out e);have HNE:Hid (zs.getD k 0≠ys.getD k 0→r=false):=fun h=>by
     rw [HR.out];exact decide_eq_false fun e=>h (by rw [e])
    clear na nb;generalize zs.getD k 0=z at *;generalize ys.getD k 0=y at *;go_wp2_with fail
    go_region_held3 (fun w'=>w'.cell? ⟨ab,aoff+k*2,none⟩=some (.bool an)∧w'.cell? ⟨ab,aoff+k*2+1,none⟩=some (.slice ao al ac)∧w'.cell? ⟨bb,boff+k*2,none⟩=some (.bool bn)∧w'.cell? ⟨bb,boff+k*2+1,none⟩=some (.slice bo bl bc)) (go_keep)
     (first
      |(go_at_call 61;refine(zjg _ _ _ z y n m (by exact NA.out) (by exact NB.out)).mono ?_;rintro e w1 ⟨rfl,hb1⟩;have HB1:=hide (show Below w.heap.size w w1 from HBE.out.drew.trans (hb1.mono HBE.out.size));have p0:=(hb1.cell (p:=⟨ab,aoff+k*2,none⟩) la).trans a0;have p1:=(hb1.cell (p:=⟨ab,aoff+k*2+1,none⟩) la).trans a1;have p2:=(hb1.cell (p:=⟨bb,boff+k*2,none⟩) lb).trans b0;have p3:=(hb1.cell (p:=⟨bb,boff+k*2+1,none⟩) lb).trans b1;clear hb1))
    by_cases hz:z=y
    ·have HG':=hide (HTS.out hz);have ez:decide (z=y)=true:=decide_eq_true hz;rw [ez];clear HTS HNE hz ez p0 p1 p2 p3 a0 a1 b0 b1;go_wp2;go_roundw
     case rel=>exact⟨k+1,by omega,by go_num,HG',HB1.out⟩
     case measure=>simp [intOf];omega
    ·have ez:decide (z=y)=false:=decide_eq_false hz;rw [ez];obtain rfl:r=false:=HNE.out hz;clear HTS HNE hz ez p0 p1 p2 p3 a0 a1 b0 b1;go_wp2;go_ret;exact⟨rfl,HB1.out⟩
   ·obtain rfl:k=zs.length:=by omega
    have HE:Hid (zs=ys):=by
     have:=HG.out;rw [List.take_length,List.take_of_length_le (by have:=HLN.out;omega)] at this;exact this
    obtain rfl:r=true:=by rw [HR.out];exact decide_eq_true HE.out
    clear HG HE;go_wp2;go_ret;exact⟨rfl,HBE.out⟩
 ·obtain⟨ao,acap,rfl,-,-⟩:=ha;obtain⟨bo,bcap,rfl,-,-⟩:=hb;have hl1:((zs.length:Int) ==(ys.length:Int))=false:=by rw [beq_eq_false_iff_ne];omega
  have hl2:((zs.length:Int) !=(ys.length:Int))=true:=by rw [bne_iff_ne];omega
  obtain rfl:r=false:=by rw [HR.out];exact decide_eq_false fun e=>hl (by rw [e])
  go_enter Tryz.func41,Tryz.ntmps41;go_wp2;go_ret;exact⟨rfl,zB _ _⟩
end Go.Proofs.YtncamilanceahaaGreat
