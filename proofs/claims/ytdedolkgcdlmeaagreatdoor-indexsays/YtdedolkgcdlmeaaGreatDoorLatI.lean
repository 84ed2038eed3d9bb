import Derived.Test.YtdedolkgcdlmeaaGreatDoorRefForm
import Derived.Laws.OwnMore
namespace Go.Proofs.YtdedolkgcdlmeaaGreatDoor
open Go.RowKit Limbs Digs
variable {W w W' wr:World}{n B base sb c k cap d i g j a0 b:Nat}{v u:Value}{zs r us p:List Int}{nb D:Nat→Nat}{row:Option Nat}{m:Int}
theorem RowR.setTyped(h:RowR w v zs n){c:Array Value}{t:TypeId}{fz:Nat × Nat}(hB:w.heap[B]?=some (.cells c t fz))(h1:t≠3)(h2:t≠40)(k:Nat)(u:Value):RowR (w.setCell ⟨B,k,none⟩ u) v zs n:=by
 obtain⟨ao,cap,hv,h3,h4⟩:=h
 refine⟨ao,cap,hv,h3,fun h0=>?_⟩
 obtain⟨b,cur,fz',e,hh,hc⟩:=h4 h0
 have hne:b≠B:=fun e=>by
  subst e
  rw [hh] at hB
  simp only [Option.some.injEq,Obj.cells.injEq] at hB
  exact h2 hB.2.1.symm
 refine⟨b,cur,fz',e,(heap_setCell_other w ⟨B,k,none⟩ b u hne).trans hh,fun i hi=>?_⟩
 obtain⟨s,o,l,c',h5,h6,h7⟩:=hc i hi
 exact⟨s,o,l,c',(World.cell?_setCell_other (h:=fun e=>by simp at e <;> omega) ..).trans h5,(World.cell?_setCell_other (h:=fun e=>by simp at e <;> omega) ..).trans h6,h7.setTyped hB h1 k u⟩
theorem RowR.mono{m:Nat}(h:RowR w v zs n)(hm:n≤m):RowR w v zs m:=by
 obtain⟨ao,cap,hv,h3,h4⟩:=h
 refine⟨ao,cap,hv,h3,fun h0=>?_⟩
 obtain⟨b,cur,fz',e,hh,hc⟩:=h4 h0
 refine⟨b,cur,fz',e,hh,fun i hi=>?_⟩
 obtain⟨s,o,l,c',h5,h6,h7⟩:=hc i hi
 exact⟨s,o,l,c',h5,h6,h7.mono hm⟩
theorem RowR.form(h:RowR w v zs n)(h0:0<zs.length):∃ b cap,v=.slice (some ⟨b,0,none⟩) zs.length cap:=by
 obtain⟨ao,cap,rfl,h3,h4⟩:=h
 obtain⟨b,-,-,rfl,-⟩:=h4 h0
 exact⟨b,cap,rfl⟩
def dT (a:Nat):Nat→Nat
 | 0=>a
 | j+1=>2*dT a j+8
theorem zan{a:Nat}(h:i≤j):dT a i≤dT a j:=by
 induction j with
 | zero => obtain rfl : i = 0 := by omega
           exact Nat.le_refl _
 | succ j ih=>
  by_cases e:i=j+1
  ·rw [e];exact Nat.le_refl _
  ·have:=ih (by omega)
   show dT a i≤2*dT a j+8
   omega
structure StairR (w W:World)(sb n:Nat)(R:Nat→Option (List Int))(D:Nat→Nat):Prop where
 low:w.heap.size≤sb
 below:Below w.heap.size w W
 blk:∃ cs,W.heap[sb]?=some (.cells cs 106)
 nil:∀ i,i<n→R i=none→W.cell? ⟨sb,i,none⟩=some (.slice none 0 0)
 row:∀ i,i<n→∀ r,R i=some r→∃ b cap,W.cell? ⟨sb,i,none⟩=some (.slice (some ⟨b,0,none⟩) r.length cap)∧RowR W (.slice (some ⟨b,0,none⟩) r.length cap) r (D i)
theorem StairR.lt{R:Nat→Option (List Int)}(h:StairR w W sb n R D):sb<W.heap.size:=by
 obtain⟨cs,e⟩:=h.blk
 exact zq e
theorem StairR.later{R:Nat→Option (List Int)}(h:StairR w W sb n R D)(hb:Below W.heap.size W W'):StairR w W' sb n R D where
 low:=h.low
 below:=h.below.trans (hb.mono h.below.size)
 blk:=by obtain⟨cs,e⟩:=h.blk;exact⟨cs,(hb.block _ (zq e)).trans e⟩
 nil:=fun i hi e=>(hb.cell (p:=⟨sb,i,none⟩) h.lt).trans (h.nil i hi e)
 row:=fun i hi r e=>by
  obtain⟨b,cap,hc,hv⟩:=h.row i hi r e
  exact⟨b,cap,(hb.cell (p:=⟨sb,i,none⟩) h.lt).trans hc,hv.below hb zL⟩
theorem StairR.mono{R:Nat→Option (List Int)}{D':Nat→Nat}(h:StairR w W sb n R D)(hn:∀ i,i<n→D i≤D' i):StairR w W sb n R D':=
 ⟨h.low,h.below,h.blk,h.nil,fun i hi r e=>by
  obtain⟨b,cap,hc,hv⟩:=h.row i hi r e
  exact⟨b,cap,hc,hv.mono (hn i hi)⟩⟩
theorem StairR.cell{R:Nat→Option (List Int)}(h:StairR w W sb n R D)(hi:i<n):∃ o l c,W.cell? ⟨sb,i,none⟩=some (.slice o l c):=by
 cases e:R i with
 | none=>exact⟨_,_,_,h.nil i hi e⟩
 | some r=>obtain⟨b,cap,hc,-⟩:=h.row i hi r e;exact⟨_,_,_,hc⟩
theorem StairR.thaw{R:Nat→Option (List Int)}(h:StairR w W sb n R D)(k:Nat):W.frozen? ⟨sb,k,none⟩=false:=by
 obtain⟨cs,e⟩:=h.blk
 simp [World.frozen?,e]
theorem StairR.set{R:Nat→Option (List Int)}(h:StairR w W sb n R D)(hk:k<n)(hr:RowR W (.slice (some ⟨b,0,none⟩) r.length cap) r d):
  StairR w (W.setCell ⟨sb,k,none⟩ (.slice (some ⟨b,0,none⟩) r.length cap)) sb n (putRow R k r) (fun i=>if i=k then d else D i):=by
 obtain⟨cs,hcs⟩:=h.blk
 obtain⟨o,l,c,hc⟩:=h.cell hk
 have oth:∀ i u,i≠k→W.cell? ⟨sb,i,none⟩=some u→(W.setCell ⟨sb,k,none⟩ (.slice (some ⟨b,0,none⟩) r.length cap)).cell? ⟨sb,i,none⟩=some u:=fun i u hi e=>
  (World.cell?_setCell_other (h:=fun e=>by simp at e <;> omega) ..).trans e
 refine⟨h.low,h.below.setCell h.low _,⟨_,heap_setCell_same W sb k _ _ _ hcs⟩,?_,?_⟩
 ·intro i hi e
  unfold putRow at e
  by_cases hik:i=k
  ·rw [if_pos hik] at e;cases e
  ·rw [if_neg hik] at e
   exact oth i _ hik (h.nil i hi e)
 ·intro i hi r' e
  unfold putRow at e
  by_cases hik:i=k
  ·rw [if_pos hik] at e
   obtain rfl:=zI e
   subst hik
   exact⟨b,cap,World.cell?_setCell_same (h:=hc) ..,by rw [if_pos rfl];exact hr.setTyped hcs (by decide) (by decide) _ _⟩
  ·rw [if_neg hik] at e
   obtain⟨b',cap',hc',hv'⟩:=h.row i hi r' e
   exact⟨b',cap',oth i _ hik hc',by rw [if_neg hik];exact hv'.setTyped hcs (by decide) (by decide) _ _⟩
theorem StairR.made (w:World)(n:Nat)(D:Nat→Nat):StairR w (w.alloc (.cells (madeCells #[.slice none 0 0] n) 106)) w.heap.size n (fun _=>none) D where
 low:=Nat.le_refl _
 below:=(Below.refl _ _).alloc zL _
 blk:=⟨_,heap_alloc_new w _⟩
 nil:=fun i hi _=>by
  rw [World.cell?_alloc_new]
  simp [madeCells,hi,Nat.mod_one]
 row:=fun i hi r e=>by cases e
def cn (R:Nat→Option (List Int)):Nat→Nat
 | 0=>0
 | c+1=>cn R c+if (R c).isSome then 1 else 0
theorem zhz (c:Nat):cn (fun _=>none) c=0:=by
 induction c with
 | zero=>rfl
 | succ c ih=>show cn (fun _=>none) c+0=0;omega
theorem zez (R:Nat→Option (List Int))(c:Nat):cn R c≤c:=by
 induction c with
 | zero=>exact Nat.le_refl _
 | succ c ih=>unfold cn;split <;> omega
theorem zdd (R:Nat→Option (List Int))(h:c≤d):cn R c≤cn R d:=by
 induction d with
 | zero => obtain rfl : c = 0 := by omega
           exact Nat.le_refl _
 | succ d ih=>
  by_cases e:c=d+1
  ·rw [e];exact Nat.le_refl _
  ·have:=ih (by omega)
   have e2:cn R (d+1)=cn R d+if (R d).isSome then 1 else 0:=rfl
   omega
theorem zhA {R:Nat→Option (List Int)}(h:R c=some r):cn R (c+1)=cn R c+1:=by
 show cn R c+(if (R c).isSome then 1 else 0)=_
 rw [h];rfl
theorem zdc {R:Nat→Option (List Int)}(h:R c=some r)(t:List Int)(a:Nat):cn (putRow R c t) a=cn R a:=by
 induction a with
 | zero=>rfl
 | succ a ih=>
  show cn (putRow R c t) a+(if (putRow R c t a).isSome then 1 else 0)=cn R a+if (R a).isSome then 1 else 0
  rw [ih]
  unfold putRow
  by_cases e:a=c
  ·rw [if_pos e,e,h];rfl
  ·rw [if_neg e]
theorem zeA (R:Nat→Option (List Int))(c:Nat)(t:List Int)(a:Nat):cn R a≤cn (putRow R c t) a∧cn (putRow R c t) a≤cn R a+if c<a then 1 else 0:=by
 induction a with
 | zero=>exact⟨Nat.le_refl _,by rw [if_neg (Nat.not_lt_zero c)];exact Nat.le_refl _⟩
 | succ a ih=>
  have e1:cn (putRow R c t) (a+1)=cn (putRow R c t) a+(if (putRow R c t a).isSome then 1 else 0):=rfl
  have e2:cn R (a+1)=cn R a+(if (R a).isSome then 1 else 0):=rfl
  rw [e1,e2]
  unfold putRow at *
  by_cases e:a=c
  ·rw [if_pos e]
   rw [if_neg (show ¬ c<a by omega)] at ih
   rw [if_pos (show c<a+1 by omega)]
   have h1:(if (some t).isSome=true then 1 else 0)=1:=rfl
   rw [h1]
   split <;> omega
  ·rw [if_neg e]
   by_cases h:c<a
   ·rw [if_pos h] at ih
    rw [if_pos (show c<a+1 by omega)]
    omega
   ·rw [if_neg h] at ih
    rw [if_neg (show ¬ c<a+1 by omega)]
    omega
structure InR (w wr:World)(sb n a0 k c:Nat)(rows R:Nat→Option (List Int))(us zs:List Int)(v:Value):Prop where
 st:StairR w wr sb n R (fun a=>if a<c then dT a0 (k+1+cn R a) else dT a0 (k+cn R a))
 ech:Ech R n n
 nz:NZ R
 zero:∀ j,j<c→zs.getD j 0=0
 vec:RowR wr v zs (dT a0 (k+cn R c))
 len:zs.length=n
 gen:Alikes n (RowsOr R zs) (RowsOr rows us)
 cnt:cn R n≤k
structure OutR (w wr:World)(sb n a0 k:Nat)(R:Nat→Option (List Int))(S:List Int→Prop):Prop where
 st:StairR w wr sb n R (fun a=>dT a0 (k+cn R a))
 ech:Ech R n n
 nz:NZ R
 gen:Alikes n (RowsOf R) S
 cnt:cn R n≤k
theorem NZ.set {R:Nat→Option (List Int)}(h:NZ R)(hr:r.getD k 0≠0):NZ (putRow R k r):=fun i v e=>by
 unfold putRow at e
 by_cases hi:i=k
 ·rw [if_pos hi] at e
  obtain rfl:=zI e
  rw [hi];exact hr
 ·rw [if_neg hi] at e
  exact h i v e
theorem InR.next{rows R:Nat→Option (List Int)}(h:InR w wr sb n a0 k c rows R us zs v)(h0:zs.getD c 0=0):InR w wr sb n a0 k (c+1) rows R us zs v:=
 ⟨h.st.mono fun i _=>by
  by_cases h1:i<c
  ·rw [if_pos h1,if_pos (by omega)];exact Nat.le_refl _
  ·rw [if_neg h1]
   split
   ·exact zan (by omega)
   ·exact Nat.le_refl _,h.ech,h.nz,fun j hj=>by
  by_cases e:j=c
  ·rw [e];exact h0
  ·exact h.zero j (by omega),h.vec.mono (zan (by have:=zdd R (show c≤c+1 by omega);omega)),h.len,h.gen,h.cnt⟩
theorem InR.last{rows R:Nat→Option (List Int)}(h:InR w wr sb n a0 k n rows R us zs v):OutR w wr sb n a0 (k+1) R (RowsOr rows us):=
 ⟨h.st.mono fun i hi=>by rw [if_pos hi];exact Nat.le_refl _,h.ech,h.nz,(zee h.len h.zero).trans h.gen,Nat.le_succ_of_le h.cnt⟩
theorem InR.lay{rows R:Nat→Option (List Int)}(h:InR w wr sb n a0 k c rows R us zs (.slice (some ⟨b,0,none⟩) zs.length cap))(hc:c<n)(hr:R c=none)(h0:zs.getD c 0≠0):
  OutR w (wr.setCell ⟨sb,c,none⟩ (.slice (some ⟨b,0,none⟩) zs.length cap)) sb n a0 (k+1) (putRow R c zs) (RowsOr rows us):=by
 refine⟨(h.st.set hc h.vec).mono fun i _=>?_,h.ech.set h.len h.zero hc,h.nz.set h0,?_,?_⟩
 ·have hcp:=(zeA R c zs i).1
  by_cases h1:i=c
  ·rw [if_pos h1]
   subst h1
   exact zan (by omega)
  ·rw [if_neg h1]
   split
   ·exact zan (by omega)
   ·exact zan (by omega)
 ·have:=zeg (R:=R) hr h.len (z:=1) (.inl rfl)
  have e:zs.map ((1:Int)*·)=zs:=by
   have:(fun x:Int=>1*x)=id:=by funext x;simp
   rw [this,List.map_id]
  rw [e] at this
  exact this.trans h.gen
 ·have h1:=(zeA R c zs n).2
  rw [if_pos hc] at h1
  have:=h.cnt
  omega
theorem zkz (m:Nat)(hm:m≤1000)(W:World):(Instr.makeSlice 42 (.int .i64 (m:Int)) (.int .i64 (m:Int))).run Tryz.prog W=.ok (.slice (some ⟨W.heap.size,0,none⟩) m m) (W.alloc (.cells (madeCells #[.slice none 0 0] m) 106)):=by
 obtain⟨i0,hi,hz0,hz1,hz2⟩:=info_parts Tryz.infoRRow
 have h:=run_make (P:=Tryz.prog) W 42 106 i0 (.slice none 0 0) (by kernel_rfl) hi hz0 .i64 .i64 m m (by omega) (by omega) (by rw [hz2];omega) (by omega)
 rw [hz1,Int.toNat_natCast,Nat.mul_one] at h
 exact h
theorem zgh (w:World):Sem.run Tryz.prog (binOp .eql 106 (.slice none 0 0) (.slice none 0 0)) w=.ok (.bool true) w:=by kernel_rfl
theorem zgk (w:World)(a:Addr)(l c:Nat):Sem.run Tryz.prog (binOp .eql 106 (.slice (some a) l c) (.slice none 0 0)) w=.ok (.bool false) w:=by kernel_rfl
structure GrowB (W:World)(base:Nat)(v:Value)(qs:List (Value × List Int))(nb:Nat→Nat):Prop where
 own:W.ownsRow base 106 1 v qs.length (qs.map (·.1))
 row:∀ j q,qs[j]?=some q→RowR W q.1 q.2 (nb j)
theorem GrowB.nil (W:World)(base:Nat)(nb:Nat→Nat):GrowB W base (.slice none 0 0) [] nb:=⟨World.ownsRow_nil _ _ _ _,fun j q h=>by simp at h⟩
theorem GrowB.later{qs:List (Value × List Int)}(h:GrowB W base v qs nb)(hb:Below W.heap.size W W'):GrowB W' base v qs nb:=
 ⟨zcK h.own hb,fun j q e=>(h.row j q e).below hb zL⟩
theorem GrowB.mono{qs:List (Value × List Int)}{nb':Nat→Nat}(h:GrowB W base v qs nb)(hn:∀ j,j<qs.length→nb j≤nb' j):GrowB W base v qs nb':=
 ⟨h.own,fun j q e=>(h.row j q e).mono (hn j (List.getElem?_eq_some_iff.1 e).1)⟩
theorem GrowB.form{qs:List (Value × List Int)}(h:GrowB W base v qs nb):∃ o cap,v=.slice o qs.length cap∧(0<qs.length→∃ g,o=some ⟨g,0,none⟩):=by
 rcases h.own.2 with⟨rfl,hn⟩ |⟨g,cap,cur,rfl,-⟩
 ·exact⟨none,0,by rw [hn],fun h=>by omega⟩
 ·exact⟨_,cap,rfl,fun _=>⟨g,rfl⟩⟩
theorem GrowB.cell{qs:List (Value × List Int)}(h:GrowB W base (.slice (some ⟨g,0,none⟩) qs.length cap) qs nb){q:Value × List Int}(e:qs[j]?=some q):W.cell? ⟨g,j,none⟩=some q.1∧g<W.heap.size∧base≤g∧W.frozen? ⟨g,j,none⟩=false∧∃ cs,W.heap[g]?=some (.cells cs 106):=by
 rcases h.own.2 with⟨e',-⟩ |⟨g',cap',cur,e',hb,hh,hc1,hc2,hc3,hc4⟩
 ·cases e'
 ·simp only [Value.slice.injEq,Option.some.injEq,Addr.mk.injEq,and_true,true_and] at e'
  obtain⟨rfl,rfl⟩:=e'
  refine⟨?_,zq hh,hb,by simp [World.frozen?,hh],cur,hh⟩
  have:=World.news_of_block hh j q.1 (by
   have hj:=(List.getElem?_eq_some_iff.1 e).1
   have e2:(qs.map (·.1))[j]?=some q.1:=by rw [List.getElem?_map,e];rfl
   rw [← hc4,List.getElem?_take,if_pos (by omega)] at e2
   exact e2)
  have ea:(⟨g,0,none⟩:Addr).add j=⟨g,j,none⟩:=by unfold Addr.add;split <;> simp_all
  rwa [ea] at this
theorem GrowB.set{qs:List (Value × List Int)}(h:GrowB W base (.slice (some ⟨g,0,none⟩) qs.length cap) qs nb)(hj:j<qs.length)(hz:RowR W u zs d):
  GrowB (W.setCell ⟨g,j,none⟩ u) base (.slice (some ⟨g,0,none⟩) (qs.set j (u,zs)).length cap) (qs.set j (u,zs)) (fun i=>if i=j then d else nb i):=by
 obtain⟨-,-,-,-,cs,hcs⟩:=h.cell (List.getElem?_eq_getElem hj)
 refine⟨?_,fun i q e=>?_⟩
 ·rw [List.length_set,List.map_set]
  exact(h.own.stored j u).1
 ·rw [List.getElem?_set] at e
  by_cases hij:j=i
  ·rw [if_pos hij,if_pos hj] at e
   obtain rfl:=zI e
   rw [if_pos hij.symm]
   exact hz.setTyped hcs (by decide) (by decide) _ _
  ·rw [if_neg hij] at e
   rw [if_neg (fun e=>hij e.symm)]
   exact(h.row i q e).setTyped hcs (by decide) (by decide) _ _
theorem ze7{w':World}{qs:List (Value × List Int)}(h:GrowB W base v qs nb)(hz:RowR W u zs d)
  (hown:w'.ownsRow base 106 1 (.slice (some ⟨g,0,none⟩) (qs.length+1) cap) (qs.length+1) (qs.map (·.1)++[u]))
  (hg:W.grownBy w' v.ownBlock):GrowB w' base (.slice (some ⟨g,0,none⟩) (qs.length+1) cap) (qs++[(u,zs)]) (fun i=>if i<qs.length then nb i else d):=by
 have hty:Typed W v.ownBlock [3,40]:=zbd h.own (by decide)
 refine⟨by rw [List.length_append,List.length_singleton,List.map_append];exact hown,fun i q e=>?_⟩
 by_cases hi:i<qs.length
 ·rw [List.getElem?_append_left hi] at e
  rw [if_pos hi]
  exact(h.row i q e).grown hg hty
 ·rw [List.getElem?_append_right (by omega)] at e
  have h0:i-qs.length=0:=by
   have:=(List.getElem?_eq_some_iff.1 e).1
   simpa using this
  rw [h0] at e
  simp only [List.getElem?_cons_zero,Option.some.injEq] at e
  rw [if_neg hi,← e]
  exact hz.grown hg hty
theorem GrowB.mat{qs:List (Value × List Int)}(h:GrowB W base v qs nb)(hd:∀ j,j<qs.length→nb j≤d):MatR W v (qs.map (·.2)) d:=by
 have hg:GrowM W base v qs d:=⟨h.own,fun q hq=>by
  obtain⟨j,hj,e⟩:=List.getElem_of_mem hq
  exact(h.row j q (by rw [List.getElem?_eq_getElem hj,e])).mono (hd j hj)⟩
 exact hg.mat
def partL (L:List (List Int))(p:List Int)(c i:Nat):List (List Int):=(L.take i).map (fun u=>lowRow u p c)++L.drop i
theorem zfW (L:List (List Int))(p:List Int)(c:Nat):partL L p c 0=L:=by simp [partL]
theorem zfT (L:List (List Int))(p:List Int)(c:Nat):partL L p c L.length=L.map (fun u=>lowRow u p c):=by simp [partL]
theorem zfU {L:List (List Int)}(hi:i<L.length):(partL L p c i)[i]?=some L[i]:=by
 unfold partL
 rw [List.getElem?_append_right (by simp;omega),List.length_map,List.length_take,Nat.min_eq_left (by omega),Nat.sub_self,List.getElem?_drop,Nat.add_zero,List.getElem?_eq_getElem hi]
theorem zfV {L:List (List Int)}(hi:i<L.length):(partL L p c i).set i (lowRow L[i] p c)=partL L p c (i+1):=by
 unfold partL
 rw [List.set_append_right _ _ (by simp;omega),List.length_map,List.length_take,Nat.min_eq_left (by omega),Nat.sub_self,List.drop_eq_getElem_cons hi,List.set_cons_zero,List.take_succ_eq_append_getElem hi,List.map_append,List.append_assoc]
 rfl
theorem zlC {P:Program}{ops:Array Oper}{rest:List Oper}{op:Oper}{a:Act}{Q:Exit→Act→World→Prop}(hgd:op.guard=none)(s x:Operand)(t:TypeId)
  (ho:op.op=.call { callee:=.builtin .append,args:=#[s,x],argTypes:=#[t,t] })
  (base:Nat) (e:TypeId) (i:TypeInfo) (bytes:Nat) (ht:P.underlying t=some (.slice e)) (hi:P.info? e=some i) (hz:i.zero=some (.slice none 0 0))
  (hsize:i.size=1) (hby:i.bytes=bytes) (v:Value) (n:Nat) (xs:List Value) (hs:a.eval s=v) (hown:w.ownsRow base e 1 v n xs) (hall:AllSl w v.ownBlock)
  (ad:Addr) (cc:Nat) (o:Option Addr) (l c:Nat) (hx:a.eval x=.slice (some ad) 1 cc) (hnews:∀ j u,[Value.slice o l c][j]?=some u→w.cell? (ad.add j)=some u)
  (h63:n+1≤maxLen) (hbytes:(n+1)*bytes≤140737488355328) (hbase:base≤w.heap.size)
  (h:∀ g cap w',w'.ownsRow base e 1 (.slice (some ⟨g,0,none⟩) (n+1) cap) (n+1) (xs++[.slice o l c])→w.grownBy w' v.ownBlock→AllSl w' (some g)→(v.ownBlock=some g∨g=w.heap.size)→wpList P ops Q rest (a.put op.dst (.slice (some ⟨g,0,none⟩) (n+1) cap)) w'):wpList P ops Q (op::rest) a w:=by
 refine wpList_plain hgd fun K hK=>?_
 subst hby
 obtain⟨g,cap,w',hr,h2,h3,h4,h5⟩:=run_append_lies (P:=P) w t op.type base e i (.slice none 0 0) 1 i.bytes ht hi hz hsize rfl rfl (by decide) v n xs hown ad 1 cc [.slice o l c] rfl hnews (fun u hu=>by rw [List.mem_singleton] at hu;rw [hu];rfl) (by decide) h63 hbytes hbase _ rfl
 have hA:=zkt w t op.type base e i ht hi hz hsize v n xs hown hall ad o l c cc hnews h63 hbytes g cap w' hr
 unfold Oper.wp execOp
 simp only [ho,resolve,invoke,builtin,Sem.run_bind,Sem.run_pure,Result.andThen_ok,List.map_toArray,List.map_cons,List.map_nil,hs,hx,hr]
 exact hK _ _ (h g cap w' h2 h3 hA h4)
def Sep (u:Value)(row:Option Nat):Prop:=∀ a l c,u=.slice (some a) l c→some a.block≠row
theorem Fresh.sep(h:Fresh base u)(hg:g<base):Sep u (some g):=fun a l c e h'=>by
 have:=h a l c e
 simp only [Option.some.injEq] at h'
 omega
theorem MatN.grownH{hs:List (List Int)}(h:MatN W u hs n)(hg:W.grownBy W' row)(hr:AllSl W row)(hsep:0<hs.length→Sep u row):MatN W' u hs n:=by
 obtain⟨ao,cap,rfl,h1,h2⟩:=h
 refine⟨ao,cap,rfl,h1,fun h0=>?_⟩
 obtain⟨b,off,rfl,hlt,hc⟩:=h2 h0
 refine⟨b,off,rfl,zT hlt hg.size,fun i zs hi=>?_⟩
 obtain⟨v,cv,hv⟩:=hc i zs hi
 exact⟨v,hg.cell cv (show some b≠row from hsep h0 _ _ _ rfl),hv.grownS hg hr⟩
theorem MatN.setVar{hs:List (List Int)}{nv:Nat}{x:Int}{o:Option Addr}{l:Nat}(y z:Value)(h:MatN W u hs nv)(hsep:0<hs.length→Sep u (some B))(c0:W.cell? ⟨B,0,none⟩=some (.int .i64 x))(c1:W.cell? ⟨B,1,none⟩=some (.slice o l c)):
  MatN ((W.setCell ⟨B,0,none⟩ y).setCell ⟨B,1,none⟩ z) u hs nv:=by
 have k1:(W.setCell ⟨B,0,none⟩ y).cell? ⟨B,1,none⟩=some (.slice o l c):=Eq.trans (World.cell?_setCell_other (h:=fun e=>by simp at e) ..) c1
 have stay:∀(b o:Nat) (v:Value),W.cell? ⟨b,o,none⟩=some v→¬(b=B∧o=0)→¬(b=B∧o=1)→((W.setCell ⟨B,0,none⟩ y).setCell ⟨B,1,none⟩ z).cell? ⟨b,o,none⟩=some v:=fun b o v hv h0 h1=>
  Eq.trans (World.cell?_setCell_other (h:=fun e=>h1 (by simp only [Addr.mk.injEq,and_true] at e;exact⟨e.1.symm,e.2.symm⟩)) ..) (Eq.trans (World.cell?_setCell_other (h:=fun e=>h0 (by simp only [Addr.mk.injEq,and_true] at e;exact⟨e.1.symm,e.2.symm⟩)) ..) hv)
 have hsz:((W.setCell ⟨B,0,none⟩ y).setCell ⟨B,1,none⟩ z).heap.size=W.heap.size:=by simp
 obtain⟨ao,cap,rfl,h1,h2⟩:=h
 refine⟨ao,cap,rfl,h1,fun hh=>?_⟩
 obtain⟨b,off,rfl,hlt,hc⟩:=h2 hh
 have hbB:b≠B:=fun e=>hsep hh _ _ _ rfl (by rw [e])
 refine⟨b,off,rfl,by rw [hsz];exact hlt,fun i zs hi=>?_⟩
 obtain⟨v,cv,hv⟩:=hc i zs hi
 refine⟨_,stay _ _ _ cv (fun h=>hbB h.1) (fun h=>hbB h.1),?_⟩
 obtain⟨vo,vcap,ev,g1,g2⟩:=hv
 refine⟨vo,vcap,ev,g1,fun h0=>?_⟩
 obtain⟨vb,voff,e,vlt,hat⟩:=g2 h0
 refine⟨vb,voff,e,by rw [hsz];exact vlt,fun j hj=>?_⟩
 obtain⟨neg,o',l',c',d0,d1,hn⟩:=hat j hj
 refine⟨neg,o',l',c',stay _ _ _ d0 (fun⟨e1,e2⟩=>?_) (fun⟨e1,e2⟩=>?_),stay _ _ _ d1 (fun⟨e1,e2⟩=>?_) (fun⟨e1,e2⟩=>?_),(hn.setCell c0 (by simp)).setCell k1 (by simp)⟩
 ·rw [e1,e2,c0] at d0;cases d0
 ·rw [e1,e2,c1] at d0;cases d0
 ·rw [e1,e2,c0] at d1;cases d1
 ·have e3:voff+j*2=0:=by omega
  rw [e1,e3,c0] at d0;cases d0
theorem GrowM.setTyped{qs:List (Value × List Int)}(h:GrowM W base v qs n){c:Array Value}{t:TypeId}{fz:Nat × Nat}(hB:W.heap[B]?=some (.cells c t fz))(ht:t≠3)(ht':t≠40)(ht2:t≠106)(k:Nat)(u:Value):GrowM (W.setCell ⟨B,k,none⟩ u) base v qs n:=by
 refine⟨⟨h.1.1,?_⟩,fun q hq=>(h.2 q hq).setTyped hB ht ht' k u⟩
 rcases h.1.2 with h' |⟨g,cap,cur,e,hb,hh,rest⟩
 ·exact .inl h'
 ·have hne:g≠B:=fun e=>by
   rw [e,hB] at hh
   simp only [Option.some.injEq,Obj.cells.injEq] at hh
   exact ht2 hh.2.1
  exact .inr ⟨g,cap,cur,e,hb,(Below.heap_setCell W ⟨B,k,none⟩ u g hne).trans hh,rest⟩
theorem AllSl.setCell(h:AllSl W row)(hne:row≠some B)(k:Nat)(u:Value):AllSl (W.setCell ⟨B,k,none⟩ u) row:=fun g hg=>by
 obtain⟨cur,t,fz,hh,hs⟩:=h g hg
 exact⟨cur,t,fz,(Below.heap_setCell W ⟨B,k,none⟩ u g (fun e=>hne (by rw [hg,e]))).trans hh,hs⟩
def BVar (W:World)(B:Nat)(n:Int)(u:Value):Prop:=Box W B (.int .i64 n) u∧∃ cs,W.heap[B]?=some (.cells cs 55 (0,0))
theorem BVar.later{C:Nat}{n:Int}(h:BVar W B n u)(hb:Below C W W')(hB:B<C):BVar W' B n u:=by
 obtain⟨h1,cs,h2⟩:=h
 exact⟨h1.later hb hB,cs,(hb.block _ hB).trans h2⟩
theorem BVar.lt{n:Int}(h:BVar W B n u):B<W.heap.size:=by
 obtain⟨-,cs,h2⟩:=h
 exact zq h2
theorem BVar.apart{n:Int}(h:BVar W B n u)(hr:AllSl W row):row≠some B:=fun e=>by
 subst e
 obtain⟨o,l,c,e⟩:=hr.cell h.1.1
 cases e
theorem BVar.grown{n:Int}(h:BVar W B n u)(hg:W.grownBy W' row)(hr:AllSl W row):BVar W' B n u:=by
 have hne:=h.apart hr
 have hlt:=h.lt
 obtain⟨⟨h1,h2,h3,h4⟩,cs,h5⟩:=h
 have hb:=hg.block B hlt (fun e=>hne e.symm)
 exact⟨⟨(World.cell?_of_block (a:=⟨B,0,none⟩) hb).trans h1,(World.cell?_of_block (a:=⟨B,1,none⟩) hb).trans h2,(World.frozen?_of_block (a:=⟨B,0,none⟩) hb).trans h3,(World.frozen?_of_block (a:=⟨B,1,none⟩) hb).trans h4⟩,cs,hb.trans h5⟩
theorem BVar.write{n:Int}(h:BVar W B n u)(n':Int)(u':Value):BVar ((W.setCell ⟨B,0,none⟩ (.int .i64 n')).setCell ⟨B,1,none⟩ u') B n' u':=by
 obtain⟨h1,cs,h2⟩:=h
 exact⟨h1.write _ _,_,heap_setCell_same _ B 1 _ _ _ (heap_setCell_same W B 0 _ _ _ h2)⟩
theorem GrowM.setVar{qs:List (Value × List Int)}(h:GrowM W base v qs n)(hB:BVar W B m u)(y z:Value):GrowM ((W.setCell ⟨B,0,none⟩ y).setCell ⟨B,1,none⟩ z) base v qs n:=by
 obtain⟨-,cs,h2⟩:=hB
 exact(h.setTyped h2 (by decide) (by decide) (by decide) 0 y).setTyped (heap_setCell_same W B 0 _ _ y h2) (by decide) (by decide) (by decide) 1 z
theorem MatR.setVarAt{zss:List (List Int)}(h:MatR W v zss n)(hB:BVar W B m u)(k:Nat)(y:Value):MatR (W.setCell ⟨B,k,none⟩ y) v zss n:=by
 obtain⟨⟨c0,-,-,-⟩,cs,h2⟩:=hB
 obtain⟨ao,cap,hv,h3,h4⟩:=h
 refine⟨ao,cap,hv,h3,fun h0=>?_⟩
 obtain⟨b,e,hlt,hc⟩:=h4 h0
 have hne:b≠B:=fun e=>by
  obtain⟨u0,g1,g2⟩:=hc 0 zss[0] (List.getElem?_eq_getElem h0)
  rw [e,c0] at g1
  obtain⟨_,_,g3,-⟩:=g2
  rw [g3] at g1
  cases g1
 refine⟨b,e,by simpa using hlt,fun i zs hi=>?_⟩
 obtain⟨u',g1,g2⟩:=hc i zs hi
 exact⟨u',(World.cell?_of_block (a:=⟨b,i,none⟩) (Below.heap_setCell W ⟨B,k,none⟩ y b hne)).trans g1,g2.setTyped h2 (by decide) (by decide) k y⟩
theorem MatR.setVar{zss:List (List Int)}(h:MatR W v zss n)(hB:BVar W B m u)(x:Int)(z:Value):MatR ((W.setCell ⟨B,0,none⟩ (.int .i64 x)).setCell ⟨B,1,none⟩ z) v zss n:=by
 have hB':BVar (W.setCell ⟨B,0,none⟩ (.int .i64 x)) B x u:=by
  obtain⟨⟨c0,c1,c2,c3⟩,cs,h2⟩:=hB
  have hw:=(show Box W B (.int .i64 m) u from⟨c0,c1,c2,c3⟩).write (.int .i64 x) u
  have hh:=heap_setCell_same W B 0 _ _ (.int .i64 x) h2
  refine⟨⟨?_,?_,?_,?_⟩,_,hh⟩
  ·have:=hw.1
   rw [World.cell?_setCell_other (h:=fun e=>by simp at e)] at this
   exact this
  ·exact Eq.trans (World.cell?_setCell_other (h:=fun e=>by simp at e) ..) c1
  ·simpa using c2
  ·simpa using c3
 exact(h.setVarAt hB 0 _).setVarAt hB' 1 z
end Go.Proofs.YtdedolkgcdlmeaaGreatDoor
