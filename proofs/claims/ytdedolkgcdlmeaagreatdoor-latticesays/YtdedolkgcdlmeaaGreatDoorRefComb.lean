import Derived.Test.YtdedolkgcdlmeaaGreatDoorRowO
import Derived.Laws.OwnMore
import Derived.Laws.AppendOwnNone
namespace Go.Proofs.YtdedolkgcdlmeaaGreatDoor
open Go.RowKit Limbs
variable{n c m b B i D k cap base:Nat}{w W W':World}{v a0 a1 b0 b1 d0 d1 l0 l1:Value}{r zs u p ds:List Int}{z A Q:Int}
def upR (r:List Int)(c:Nat):List Int:=if r.getD c 0<0 then List.zipWith (fun a b=>-1*a+0*b) r r else r
def outN (R:Nat→Option (List Int)):Nat→List (List Int)
 | 0=>[]
 | c+1=>match R c with
  | none=>outN R c
  | some r=>(outN R c).map (fun u=>lowRow u (upR r c) c)++[upR r c]
theorem zcP (r:List Int)(c:Nat):upR r c=r∨upR r c=r.map (-1*·):=by
 unfold upR;split
 ·right;exact zbs.symm
 ·exact .inl rfl
theorem zbC (r:List Int)(c:Nat):(upR r c).length=r.length:=by
 rcases zcP r c with h | h <;> rw [h]
 exact zM ..
theorem zk6(h:r.getD b 0=0):(upR r c).getD b 0=0:=by
 rcases zcP r c with e | e <;> rw [e]
 ·exact h
 ·rw [zG,List.getElem?_map] at *;cases e2:r[b]? with
  | none=>rfl
  | some x=>rw [e2] at h;simp at h ⊢;exact h
theorem zgt(hc:c<r.length)(h:r.getD c 0≠0):0<(upR r c).getD c 0:=by
 unfold upR;split
 ·rw [zi _ _ _ rfl c hc];omega
 ·omega
theorem zbU(h:u.length=r.length)(c:Nat):(lowRow u r c).length=u.length:=zg _ _ _ h
theorem ziY(h:u.length=r.length)(hb:b<u.length)(hz:r.getD b 0=0):(lowRow u r c).getD b 0=u.getD b 0:=by
 unfold lowRow;rw [zi _ _ _ h b hb,hz];omega
theorem ziZ(h:u.length=r.length)(hc:c<u.length)(hp:0<r.getD c 0):0≤(lowRow u r c).getD c 0∧(lowRow u r c).getD c 0<r.getD c 0:=by
 unfold lowRow;rw [zi _ _ _ h c hc];generalize u.getD c 0=a at *;generalize r.getD c 0=y at *;have h1:=Int.emod_nonneg a (show y≠0 by omega);have h2:=Int.emod_lt_of_pos a hp;have h3:=Int.mul_ediv_add_emod a y;rw [Int.one_mul,Int.neg_mul,Int.mul_comm];omega
theorem zfn {hs:List (List Int)}{f:List Int→List Int}(hk:k<hs.length):(hs.map f++[r]).getD k []=f hs[k]:=by
 rw [zG,List.getElem?_append_left (by simpa using hk),List.getElem?_map,List.getElem?_eq_getElem hk];rfl
theorem zdt {hs:List (List Int)}{f:List Int→List Int}:(hs.map f++[r]).getD hs.length []=r:=by
 rw [zG,List.getElem?_append_right (by simp)];simp
theorem zh4{hs:List (List Int)}{p:Nat→Nat}(h:FormL n hs p)(hlt:∀ k,k<hs.length→p k<c)(hc:c<n)(hr:r.length=n)(hz:∀ b,b<c→r.getD b 0=0)(hp:0<r.getD c 0):
  ∃ p',FormL n (hs.map (fun u=>lowRow u r c)++[r]) p'∧∀ k,k<(hs.map (fun u=>lowRow u r c)++[r]).length→p' k<c+1:=by
 have hlen:∀ k (hk:k<hs.length),hs[k].length=r.length:=fun k hk=>(h.len _ (List.getElem_mem hk)).trans hr.symm;have hL:(hs.map (fun u=>lowRow u r c)++[r]).length=hs.length+1:=by simp
 have ahead:∀ k (hk:k<hs.length) b,b<c→((hs.map (fun u=>lowRow u r c)++[r]).getD k []).getD b 0=(hs.getD k []).getD b 0:=fun k hk b hb=>by
  rw [zfn hk,zl hk];exact ziY (hlen k hk) (by rw [hlen k hk,hr];omega) (hz b hb)
 refine⟨fun k=>if k=hs.length then c else p k,⟨fun u hu=>?_,⟨fun i k hik hk=>?_,fun i hi=>?_,fun i b hi hb=>?_,fun i hi=>?_,fun i k hik hk=>?_⟩⟩,fun k hk=>?_⟩
 ·rcases List.mem_append.1 hu with h1 | h1
  ·obtain⟨x,hx,rfl⟩:=List.mem_map.1 h1;have:=h.len x hx;rw [zbU (by omega)];exact this
  ·rw [List.mem_singleton] at h1;rw [h1];exact hr
 ·try dsimp only
  rw [hL] at hk;rw [if_neg (show i≠hs.length by omega)];by_cases e:k=hs.length
  ·rw [if_pos e];exact hlt i (by omega)
  ·rw [if_neg e];exact h.form.inc i k hik (by omega)
 ·try dsimp only
  rw [hL] at hi;by_cases e:i=hs.length
  ·rw [if_pos e];exact hc
  ·rw [if_neg e];exact h.form.lt i (by omega)
 ·try dsimp only at hb ⊢
  rw [hL] at hi;by_cases e:i=hs.length
  ·rw [if_pos e] at hb;rw [e,zdt];exact hz b hb
  ·rw [if_neg e] at hb;have h1:=hlt i (by omega);rw [ahead i (by omega) b (by omega)];exact h.form.zero i b (by omega) hb
 ·try dsimp only
  rw [hL] at hi;by_cases e:i=hs.length
  ·rw [if_pos e,e,zdt];exact hp
  ·rw [if_neg e,ahead i (by omega) _ (hlt i (by omega))];exact h.form.pos i (by omega)
 ·try dsimp only
  rw [hL] at hk;by_cases e:k=hs.length
  ·rw [if_pos e,e,zdt,zfn (show i<hs.length by omega)];exact ziZ (hlen i (by omega)) (by rw [hlen i (by omega),hr];exact hc) hp
  ·rw [if_neg e,ahead i (by omega) _ (hlt k (by omega)),ahead k (by omega) _ (hlt k (by omega))];exact h.form.red i k hik (by omega)
 ·try dsimp only
  rw [hL] at hk;by_cases e:k=hs.length
  ·rw [if_pos e];omega
  ·rw [if_neg e];have:=hlt k (by omega);omega
def NZ (R:Nat→Option (List Int)):Prop:=∀ i r,R i=some r→r.getD i 0≠0
theorem zjM {R:Nat→Option (List Int)}(hE:Ech R n n)(hN:NZ R)(c:Nat)(hc:c≤n):∃ p,FormL n (outN R c) p∧∀ k,k<(outN R c).length→p k<c:=by
 induction c with
 | zero=>exact⟨fun _=>0,⟨fun r hr=>(by cases hr),⟨fun i k _ hk=>absurd hk (by simp [outN]),fun i hi=>absurd hi (by simp [outN]),fun i b hi=>absurd hi (by simp [outN]),fun i hi=>absurd hi (by simp [outN]),fun i k _ hk=>absurd hk (by simp [outN])⟩⟩,fun k hk=>absurd hk (by simp [outN])⟩
 | succ c ih=>
  obtain⟨p,h1,h2⟩:=ih (by omega);unfold outN;cases e:R c with
  | none=>exact⟨p,h1,fun k hk=>Nat.lt_succ_of_lt (h2 k hk)⟩
  | some r=>
   have hl:=hE.len c r e;exact zh4 h1 h2 (by omega) ((zbC r c).trans hl) (fun b hb=>zk6 (hE.zero c r e b hb)) (zgt (by omega) (hN c r e))
theorem zdH {R:Nat→Option (List Int)}(hE:Ech R n n)(c:Nat):∀ u∈outN R c,u.length=n:=by
 induction c with
 | zero=>exact fun u hu=>by cases hu
 | succ c ih=>
  unfold outN;cases e:R c with
  | none=>exact ih
  | some r=>
   have hl:=(zbC r c).trans (hE.len c r e);intro u hu;rcases List.mem_append.1 hu with h | h
   ·obtain⟨x,hx,rfl⟩:=List.mem_map.1 h;have:=ih x hx;rw [zbU (by omega)];exact this
   ·rw [List.mem_singleton] at h;rw [h];exact hl
def RowsTo (R:Nat→Option (List Int))(c:Nat):List Int→Prop:=fun v=>∃ i,i<c∧R i=some v
theorem zga{S:List Int→Prop}(h:Gens n S r):Gens n S (upR r c):=by
 rcases zcP r c with e | e <;> rw [e]
 ·exact h
 ·rw [zbs];exact .comb _ _ h h
theorem zki{S:List Int→Prop}(h:Gens n S (upR r c)):Gens n S r:=by
 rcases zcP r c with e | e <;> rw [e] at h
 ·exact h
 ·have:=Gens.comb (-1) 0 h h;rw [← zbs,List.map_map] at this;have e2:((fun x:Int=>-1*x) ∘ fun x=>-1*x)=id:=by funext x;simp
  rwa [e2,List.map_id] at this
theorem zjK {R:Nat→Option (List Int)}(hE:Ech R n n)(c:Nat):Alikes n (InL (outN R c)) (RowsTo R c):=by
 induction c with
 | zero=>exact .of (fun v hv _=>by cases hv) (fun v hv _=>by obtain⟨i,hi,-⟩:=hv;omega)
 | succ c ih=>
  have up:∀ v,RowsTo R c v→RowsTo R (c+1) v:=fun v ⟨i,hi,e⟩=>⟨i,by omega,e⟩;unfold outN;cases e:R c with
  | none=>
   refine ih.trans (.of (fun v hv hvl=>.base (up v hv) hvl) (fun v hv hvl=>?_));obtain⟨i,hi,e'⟩:=hv;exact .base ⟨i,by
    by_cases h:i=c
    ·rw [h,e] at e';cases e'
    ·omega,e'⟩ hvl
  | some r=>
   have hl:=hE.len c r e;have gr:Gens n (RowsTo R (c+1)) r:=.base ⟨c,by omega,e⟩ hl;refine .of (fun v hv hvl=>?_) (fun v hv hvl=>?_)
   ·rcases List.mem_append.1 hv with h | h
    ·obtain⟨u,hu,rfl⟩:=List.mem_map.1 h;have hul:u.length=n:=zdH hE c u hu;have gu:Gens n (RowsTo R (c+1)) u:=((ih u).1 (.base hu hul)).trans fun x hx hxl=>.base (up x hx) hxl;exact gu.low (zga gr) c
    ·rw [List.mem_singleton] at h;rw [h];exact zga gr
   ·have gp:Gens n (InL ((outN R c).map (fun u=>lowRow u (upR r c) c)++[upR r c])) (upR r c):=.base (List.mem_append_right _ (List.mem_singleton.2 rfl)) ((zbC r c).trans hl);obtain⟨i,hi,e'⟩:=hv;by_cases h:i=c
    ·rw [h,e] at e';obtain rfl:=zI e';exact zki gp
    ·have g1:=(ih v).2 (.base ⟨i,by omega,e'⟩ hvl);refine g1.trans fun u hu hul=>?_;refine Gens.unlow (k:=c) (hul.trans ((zbC r c).trans hl).symm) (.base (List.mem_append_left _ (List.mem_map.2 ⟨u,hu,rfl⟩)) ?_) gp;rw [zbU (hul.trans ((zbC r c).trans hl).symm)];exact hul
theorem zjL {R:Nat→Option (List Int)}(hE:Ech R n n):Alikes n (InL (outN R n)) (RowsOf R):=
 (zjK hE n).trans (.of (fun v hv hvl=>by obtain⟨i,-,e⟩:=hv;exact .base ⟨i,e⟩ hvl) (fun v hv hvl=>by obtain⟨i,e⟩:=hv;exact .base ⟨i,hE.lt i v e,e⟩ hvl))
theorem zfI (R:Nat→Option (List Int))(c:Nat):(outN R c).length≤c:=by
 induction c with
 | zero=>exact Nat.le_refl _
 | succ c ih=>
  unfold outN;split
  ·omega
  ·simp;omega
open Digs
theorem RowR.setTyped(h:RowR w v zs n){c:Array Value}{t:TypeId}{fz:Nat × Nat}(hB:w.heap[B]?=some (.cells c t fz))(h1:t≠3)(h2:t≠40)(k:Nat)(u:Value):RowR (w.setCell ⟨B,k,none⟩ u) v zs n:=by
 obtain⟨ao,cap,hv,h3,h4⟩:=h;refine⟨ao,cap,hv,h3,fun h0=>?_⟩;obtain⟨b,cur,fz',e,hh,hc⟩:=h4 h0;have hne:b≠B:=fun e=>by
  subst e;rw [hh] at hB;simp only [Option.some.injEq,Obj.cells.injEq] at hB;exact h2 hB.2.1.symm
 refine⟨b,cur,fz',e,(heap_setCell_other w ⟨B,k,none⟩ b u hne).trans hh,fun i hi=>?_⟩;obtain⟨s,o,l,c',h5,h6,h7⟩:=hc i hi;exact⟨s,o,l,c',(World.cell?_setCell_other (h:=fun e=>by simp at e <;> omega) ..).trans h5,(World.cell?_setCell_other (h:=fun e=>by simp at e <;> omega) ..).trans h6,h7.setTyped hB h1 k u⟩
theorem RowR.mono(h:RowR w v zs n)(hm:n≤m):RowR w v zs m:=by
 obtain⟨ao,cap,hv,h3,h4⟩:=h;refine⟨ao,cap,hv,h3,fun h0=>?_⟩;obtain⟨b,cur,fz',e,hh,hc⟩:=h4 h0;refine⟨b,cur,fz',e,hh,fun i hi=>?_⟩;obtain⟨s,o,l,c',h5,h6,h7⟩:=hc i hi;exact⟨s,o,l,c',h5,h6,h7.mono hm⟩
def dT (a:Nat):Nat→Nat
 | 0=>a
 | j+1=>2*dT a j+8
theorem zt{a j:Nat}(h:i≤j):dT a i≤dT a j:=by
 induction j with
 | zero => obtain rfl : i = 0 := by omega
           exact Nat.le_refl _
 | succ j ih=>
  by_cases e:i=j+1
  ·rw [e];exact Nat.le_refl _
  ·have:=ih (by omega);show dT a i≤2*dT a j+8;omega
def cn (R:Nat→Option (List Int)):Nat→Nat
 | 0=>0
 | c+1=>cn R c+if (R c).isSome then 1 else 0
theorem zhn (c:Nat):cn (fun _=>none) c=0:=by
 induction c with
 | zero=>rfl
 | succ c ih=>show cn (fun _=>none) c+0=0;omega
theorem zeF (R:Nat→Option (List Int))(c:Nat):cn R c≤c:=by
 induction c with
 | zero=>exact Nat.le_refl _
 | succ c ih=>unfold cn;split <;> omega
theorem zc9 (R:Nat→Option (List Int)){d:Nat}(h:c≤d):cn R c≤cn R d:=by
 induction d with
 | zero => obtain rfl : c = 0 := by omega
           exact Nat.le_refl _
 | succ d ih=>
  by_cases e:c=d+1
  ·rw [e];exact Nat.le_refl _
  ·have:=ih (by omega);have e2:cn R (d+1)=cn R d+if (R d).isSome then 1 else 0:=rfl;omega
theorem zho {R:Nat→Option (List Int)}(h:R c=some r):cn R (c+1)=cn R c+1:=by
 show cn R c+(if (R c).isSome then 1 else 0)=_;rw [h];rfl
theorem zc8 {R:Nat→Option (List Int)}(h:R c=some r)(t:List Int)(a:Nat):cn (putRow R c t) a=cn R a:=by
 induction a with
 | zero=>rfl
 | succ a ih=>
  show cn (putRow R c t) a+(if (putRow R c t a).isSome then 1 else 0)=cn R a+if (R a).isSome then 1 else 0;rw [ih];unfold putRow;by_cases e:a=c
  ·rw [if_pos e,e,h];rfl
  ·rw [if_neg e]
theorem zeG (R:Nat→Option (List Int))(c:Nat)(t:List Int)(a:Nat):cn R a≤cn (putRow R c t) a∧cn (putRow R c t) a≤cn R a+if c<a then 1 else 0:=by
 induction a with
 | zero=>exact⟨Nat.le_refl _,by rw [if_neg (Nat.not_lt_zero c)];exact Nat.le_refl _⟩
 | succ a ih=>
  have e1:cn (putRow R c t) (a+1)=cn (putRow R c t) a+(if (putRow R c t a).isSome then 1 else 0):=rfl;have e2:cn R (a+1)=cn R a+(if (R a).isSome then 1 else 0):=rfl;rw [e1,e2];unfold putRow at *;by_cases e:a=c
  ·rw [if_pos e];rw [if_neg (show ¬ c<a by omega)] at ih;rw [if_pos (show c<a+1 by omega)];have h1:(if (some t).isSome=true then 1 else 0)=1:=rfl;rw [h1];split <;> omega
  ·rw [if_neg e];by_cases h:c<a
   ·rw [if_pos h] at ih;rw [if_pos (show c<a+1 by omega)];omega
   ·rw [if_neg h] at ih;rw [if_neg (show ¬ c<a+1 by omega)];omega
theorem NZ.set {R:Nat→Option (List Int)}(h:NZ R)(hr:r.getD k 0≠0):NZ (putRow R k r):=fun i v e=>by
 unfold putRow at e;by_cases hi:i=k
 ·rw [if_pos hi] at e;obtain rfl:=zI e;rw [hi];exact hr
 ·rw [if_neg hi] at e;exact h i v e
theorem zka (m:Nat)(hm:m≤1000)(W:World):(Instr.makeSlice 42 (.int .i64 (m:Int)) (.int .i64 (m:Int))).run Tryz.prog W=.ok (.slice (some ⟨W.heap.size,0,none⟩) m m) (W.alloc (.cells (madeCells #[.slice none 0 0] m) 106)):=by
 obtain⟨i0,hi,hz0,hz1,hz2⟩:=info_parts Tryz.infoRRow;have h:=run_make (P:=Tryz.prog) W 42 106 i0 (.slice none 0 0) (by kernel_rfl) hi hz0 .i64 .i64 m m (by omega) (by omega) (by rw [hz2];omega) (by omega);rw [hz1,Int.toNat_natCast,Nat.mul_one] at h;exact h
theorem zf1 (w:World):Sem.run Tryz.prog (binOp .eql 106 (.slice none 0 0) (.slice none 0 0)) w=.ok (.bool true) w:=by kernel_rfl
theorem zf4 (w:World)(a:Addr)(l c:Nat):Sem.run Tryz.prog (binOp .eql 106 (.slice (some a) l c) (.slice none 0 0)) w=.ok (.bool false) w:=by kernel_rfl
def partL (L:List (List Int))(p:List Int)(c i:Nat):List (List Int):=(L.take i).map (fun u=>lowRow u p c)++L.drop i
theorem zfN (L:List (List Int))(p:List Int)(c:Nat):partL L p c 0=L:=by simp [partL]
theorem zfK (L:List (List Int))(p:List Int)(c:Nat):partL L p c L.length=L.map (fun u=>lowRow u p c):=by simp [partL]
theorem zfL {L:List (List Int)}(hi:i<L.length):(partL L p c i)[i]?=some L[i]:=by
 unfold partL;rw [List.getElem?_append_right (by simp;omega),zM,List.length_take,Nat.min_eq_left (by omega),Nat.sub_self,List.getElem?_drop,Nat.add_zero,List.getElem?_eq_getElem hi]
theorem zfM {L:List (List Int)}(hi:i<L.length):(partL L p c i).set i (lowRow L[i] p c)=partL L p c (i+1):=by
 unfold partL;rw [List.set_append_right _ _ (by simp;omega),zM,List.length_take,Nat.min_eq_left (by omega),Nat.sub_self,List.drop_eq_getElem_cons hi,List.set_cons_zero,List.take_succ_eq_append_getElem hi,List.map_append,List.append_assoc];rfl
theorem NumR.fits(h:NumR w v z n)(h0:-dp m<z)(h1:z<dp m):NumR w v z m:=by
 obtain⟨s,sl,ds,rfl,hd,hn,hz,hs,-⟩:=h;have hdb:DB ds:=by obtain⟨_,_,_,_,_,h,_⟩:=hd;exact h
 refine⟨s,sl,ds,rfl,hd,hn,hz,hs,?_⟩;rcases hs with⟨h,-⟩ |⟨-,h | h⟩
 ·omega
 ·subst h;exact zfd hdb hn (by omega)
 ·subst h;exact zfd hdb hn (by omega)
theorem NumR.sign{s:Int}{sl:Value}(h:NumR w (.agg #[.int .i64 s,sl]) z n):(z=0∧s=0)∨(0<z∧s=1)∨(z<0∧s=-1):=by
 obtain⟨s',sl',ds,e,hd,hn,hz,hs,-⟩:=h;simp only [Value.agg.injEq,Array.mk.injEq,List.cons.injEq,Value.int.injEq,and_true,true_and] at e;obtain⟨rfl,rfl⟩:=e;have hdb:DB ds:=by obtain⟨_,_,_,_,_,h,_⟩:=hd;exact h
 rcases zby hdb hn hs with⟨h1,h2⟩ |⟨h1,rfl | rfl⟩
 ·subst h2;exact .inl ⟨by omega,rfl⟩
 ·exact .inr (.inl ⟨by omega,rfl⟩)
 ·exact .inr (.inr ⟨by omega,rfl⟩)
theorem zfB(h:NumR w v z n):-dp n<z∧z<dp n:=by
 obtain⟨s,sl,ds,rfl,hd,hn,hz,hs,hl⟩:=h;have hdb:DB ds:=by obtain⟨_,_,_,_,_,h,_⟩:=hd;exact h
 have h1:=zbi hdb;have h2:=zaP hdb;have h3:=zaB hl;rcases zby hdb hn hs with⟨h4,h5⟩ |⟨h4,rfl | rfl⟩
 ·subst h5;omega
 ·omega
 ·omega
theorem zjP{B left d left' lo:Int}(h:Q*B+left=A)(hl:left'=left*10000+d):(lo+10000*Q)*B+(left'-B*lo)=d+10000*A:=by
 have e1:(lo+10000*Q)*B=B*lo+10000 *(Q*B):=by rw [Int.add_mul,Int.mul_comm lo,Int.mul_assoc]
 omega
theorem zjO{sa sb B L x y:Int}(hA:A=Q*B+L)(h0:0≤L)(h1:L<B)(hx:x=sa*A)(hy:y=sb*B)(hsa:sa=0∨sa=1∨sa=-1)(hsb:sb=1∨sb=-1):
  x=sa*sb*Q*y+sa*L∧(sa*L=0∨sa=sb→Left (sa*L) y)∧(sa*L≠0→sa≠sb→x=(sa*sb*Q-1)*y+(sa*L+y)∧Left (sa*L+y) y):=by
 have e:∀ s:Int,s=1∨s=-1→sa*s*Q *(s*B)=sa *(Q*B):=fun s hs=>by rcases hs with rfl | rfl <;> simp [Int.mul_assoc,Int.mul_neg,Int.neg_mul]
 have ee:=e sb hsb;have hx':x=sa*sb*Q*y+sa*L:=by rw [hx,hA,hy,ee,Int.mul_add]
 refine⟨hx',fun h=>?_,fun h2 h3=>⟨?_,?_⟩⟩
 ·unfold Left;rcases hsa with rfl | rfl | rfl <;> rcases hsb with rfl | rfl <;> omega
 ·rw [hx',Int.sub_mul,Int.one_mul];omega
 ·unfold Left;rcases hsa with rfl | rfl | rfl <;> rcases hsb with rfl | rfl <;> omega
structure OSt (w W:World)(D:Nat)(a0 a1 b0 b1 l0 l1 d0 d1:Value):Prop where
 a:BoxR W w.heap.size a0 a1
 b:BoxR W (w.heap.size+1) b0 b1
 r:BoxR W (w.heap.size+1+1) (.int .i64 0) (.slice none 0 0)
 s:BoxR W (w.heap.size+1+1+1) (.int .i64 0) (.slice none 0 0)
 l:BoxR W (w.heap.size+1+1+1+1) l0 l1
 d:BoxR W D d0 d1
 below:Below w.heap.size w W
 hD:w.heap.size+1+1+1+1<D
theorem OSt.later(h:OSt w W D a0 a1 b0 b1 l0 l1 d0 d1)(hb:Below W.heap.size W W'):OSt w W' D a0 a1 b0 b1 l0 l1 d0 d1:=
 ⟨h.a.later hb h.a.lt,h.b.later hb h.b.lt,h.r.later hb h.r.lt,h.s.later hb h.s.lt,h.l.later hb h.l.lt,h.d.later hb h.d.lt,h.below.trans (hb.mono h.below.size),h.hD⟩
theorem OSt.drew(h:OSt w W D a0 a1 b0 b1 l0 l1 d0 d1):OSt w W.drew D a0 a1 b0 b1 l0 l1 d0 d1:=⟨h.a,h.b,h.r,h.s,h.l,h.d,h.below.drew,h.hD⟩
theorem OSt.setL(h:OSt w W D a0 a1 b0 b1 l0 l1 d0 d1)(u0 u1:Value):OSt w ((W.setCell ⟨w.heap.size+1+1+1+1,0,none⟩ u0).setCell ⟨w.heap.size+1+1+1+1,1,none⟩ u1) D a0 a1 b0 b1 u0 u1 d0 d1:=
 ⟨(h.a.other (by omega) _ _).other (by omega) _ _,(h.b.other (by omega) _ _).other (by omega) _ _,(h.r.other (by omega) _ _).other (by omega) _ _,(h.s.other (by omega) _ _).other (by omega) _ _,h.l.set _ _,(h.d.other (by have:=h.hD;omega) _ _).other (by have:=h.hD;omega) _ _,(h.below.setCell (by simp;omega) _).setCell (by simp;omega) _,h.hD⟩
theorem zjC(hb:Below ((((((w.alloc (.cells #[a0,a1] 40)).alloc (.cells #[b0,b1] 40)).alloc (.cells #[.int .i64 0,.slice none 0 0] 40)).alloc (.cells #[.int .i64 0,.slice none 0 0] 40)).alloc (.cells #[.int .i64 0,.slice none 0 0] 40))).heap.size ((((((w.alloc (.cells #[a0,a1] 40)).alloc (.cells #[b0,b1] 40)).alloc (.cells #[.int .i64 0,.slice none 0 0] 40)).alloc (.cells #[.int .i64 0,.slice none 0 0] 40)).alloc (.cells #[.int .i64 0,.slice none 0 0] 40))) W):
  OSt w (W.alloc (.cells #[d0,d1] 40)) W.heap.size a0 a1 b0 b1 (.int .i64 0) (.slice none 0 0) d0 d1:=by
 have hs:=hb.size;simp at hs
 have up:∀ {B:Nat} {u0 u1:Value},B<w.heap.size+5→BoxR ((((((w.alloc (.cells #[a0,a1] 40)).alloc (.cells #[b0,b1] 40)).alloc (.cells #[.int .i64 0,.slice none 0 0] 40)).alloc (.cells #[.int .i64 0,.slice none 0 0] 40)).alloc (.cells #[.int .i64 0,.slice none 0 0] 40))) B u0 u1→BoxR (W.alloc (.cells #[d0,d1] 40)) B u0 u1:=fun hB h=>
  (h.later hb h.lt).later ((zB _ _).alloc zL _:Below W.heap.size _ _) (by omega)
 have k:∀(n:Nat) (V:World) (o:Obj),V.heap.size=n→Below n V (V.alloc o):=fun n V o h=>(zB _ _).alloc (by omega) _;refine⟨up (by omega) ?_,up (by omega) ?_,up (by omega) ?_,up (by omega) ?_,up (by omega) ?_,zq W _ _ _ rfl,?_,by omega⟩
 ·exact((((zq w _ _ _ rfl).later (k (w.heap.size+1) _ _ (by simp)) (by omega)).later (k (w.heap.size+1+1) _ _ (by simp)) (by omega)).later (k (w.heap.size+1+1+1) _ _ (by simp)) (by omega)).later (k (w.heap.size+1+1+1+1) _ _ (by simp)) (by omega)
 ·exact(((zq (w.alloc _) _ _ _ (by simp)).later (k (w.heap.size+1+1) _ _ (by simp)) (by omega)).later (k (w.heap.size+1+1+1) _ _ (by simp)) (by omega)).later (k (w.heap.size+1+1+1+1) _ _ (by simp)) (by omega)
 ·exact((zq ((w.alloc _).alloc _) _ _ _ (by simp)).later (k (w.heap.size+1+1+1) _ _ (by simp)) (by omega)).later (k (w.heap.size+1+1+1+1) _ _ (by simp)) (by omega)
 ·exact(zq (((w.alloc _).alloc _).alloc _) _ _ _ (by simp)).later (k (w.heap.size+1+1+1+1) _ _ (by simp)) (by omega)
 ·exact zq ((((w.alloc _).alloc _).alloc _).alloc _) _ _ _ (by simp)
 ·have h0:Below w.heap.size w ((((((w.alloc (.cells #[a0,a1] 40)).alloc (.cells #[b0,b1] 40)).alloc (.cells #[.int .i64 0,.slice none 0 0] 40)).alloc (.cells #[.int .i64 0,.slice none 0 0] 40)).alloc (.cells #[.int .i64 0,.slice none 0 0] 40))):=
   (((((zB _ _).alloc zL _).alloc (by simp) _).alloc (by simp;omega) _).alloc (by simp;omega) _).alloc (by simp;omega) _
  exact(h0.trans (hb.mono (by simp;omega))).alloc (by omega) _
theorem ten4{H:Nat}(h:W.heap[H]?=some (.cells #[.int .i64 0,.int .i64 1] 3)):NumR W (.agg #[.int .i64 1,.slice (some ⟨H,0,none⟩) 2 2]) 10000 2:=by
 refine⟨1,_,[0,1],rfl,⟨_,2,rfl,by simp,by simp,zce (by decide) (zce (by decide) zbc),fun _=>⟨H,0,_,_,rfl,h,fun i hi=>?_⟩⟩,.inr (by decide),by decide,.inr ⟨by simp,.inl rfl⟩,by simp⟩;have:=World.news_of_block h i;simp at hi;rcases(by omega:i=0∨i=1) with rfl | rfl
 ·exact World.news_of_block h 0 _ rfl
 ·exact World.news_of_block h 1 _ rfl
theorem Dig.news{off:Nat}(h:Dig w (.slice (some ⟨b,off,none⟩) ds.length cap) ds)(h0:0<ds.length):∀ j u,(ds.map (Value.int .i64))[j]?=some u→w.cell? ((⟨b,off,none⟩:Addr).add j)=some u:=fun j u hu=>by
 obtain⟨_,_,e,-,-,-,hac⟩:=h;simp only [zV,true_and] at e;obtain⟨rfl,rfl⟩:=e;obtain⟨ab,aoff,acur,afz,e,-,hac⟩:=hac h0;simp only [Option.some.injEq,Addr.mk.injEq,and_true] at e;obtain⟨rfl,rfl⟩:=e;rw [List.getElem?_map] at hu;by_cases hj:j<ds.length
 ·rw [List.getElem?_eq_getElem hj] at hu;simp only [Option.map_some,Option.some.injEq] at hu;subst hu;have:=hac j hj;rw [zG,List.getElem?_eq_getElem hj,Option.getD_some] at this;unfold Addr.add;split
  ·rename_i h0;subst h0;exact this
  ·exact this
 ·rw [List.getElem?_eq_none (by omega)] at hu;cases hu
theorem Dig.form(h:Dig w v ds)(h0:0<ds.length):∃ b off cap,v=.slice (some ⟨b,off,none⟩) ds.length cap:=by
 obtain⟨ao,cap,rfl,-,-,-,hac⟩:=h;obtain⟨b,off,_,_,rfl,-⟩:=hac h0;exact⟨b,off,cap,rfl⟩
def OverPost (w:World)(x y:Int)(n m:Nat)(e:Ending)(w':World):Prop:=
 ∃ vq vr q r,e=.returned (.tuple #[vq,vr])∧NumR w' vq q (n+6)∧NumR w' vr r m∧x=q*y+r∧Left r y∧Below w.heap.size w w'
structure OInv (w wr:World)(D:Nat)(a b:List Int)(m:Nat)(p:Nat)(vq:Value)(qs:List Int)(left:Int)(l0 l1 d0 d1:Value):Prop where
 q:Dig wr vq qs
 ql:qs.length=a.length-p
 e0:qs.length=0→vq=.slice none 0 0
 sum:dv qs*dv b+left=dv (a.drop p)
 le0:0≤left
 le1:left<dv b
 num:NumR wr (.agg #[l0,l1]) left m
 siz:NumR wr (.agg #[d0,d1]) (dv b) m
variable {Z:Prop}
def RowQ (Z:Prop)(W:World)(v:Value)(zs:List Int)(n:Nat):Prop:=
 ∃ ao cap,v=.slice ao zs.length cap∧(zs.length≤cap∧(Z→0<zs.length→∀ b off,ao=some ⟨b,off,none⟩→off=0))∧(0<zs.length→∃ b off cur fz,ao=some ⟨b,off,none⟩∧W.heap[b]?=some (.cells cur 40 fz) ∧
  ∀ i,i<zs.length→∃(s:Int) (o:Option Addr) (l c:Nat),W.cell? ⟨b,off+i*2,none⟩=some (.int .i64 s)∧W.cell? ⟨b,off+i*2+1,none⟩=some (.slice o l c)∧NumR W (.agg #[.int .i64 s,.slice o l c]) (zs.getD i 0) n)
theorem RowQ.below(h:RowQ Z W v zs n)(hb:Below B W W')(hB:W.heap.size≤B):RowQ Z W' v zs n:=by
 obtain⟨ao,cap,hv,h1,h2⟩:=h;refine⟨ao,cap,hv,h1,fun h0=>?_⟩;obtain⟨b,off,cur,fz,e,hh,hc⟩:=h2 h0;have hlt:=zj hh;refine⟨b,off,cur,fz,e,(hb.block _ (by omega)).trans hh,fun i hi=>?_⟩;obtain⟨s,o,l,c,h3,h4,h5⟩:=hc i hi;exact⟨s,o,l,c,(hb.cell (p:=⟨b,off+i*2,none⟩) (by show b<B;omega)).trans h3,(hb.cell (p:=⟨b,off+i*2+1,none⟩) (by show b<B;omega)).trans h4,h5.below hb hB⟩
theorem RowQ.grown{row:Option Nat}(h:RowQ Z W v zs n)(hg:W.grownBy W' row)(hr:Typed W row [3,40]):RowQ Z W' v zs n:=by
 obtain⟨ao,cap,hv,h1,h2⟩:=h;refine⟨ao,cap,hv,h1,fun h0=>?_⟩;obtain⟨b,off,cur,fz,e,hh,hc⟩:=h2 h0;have hr':Typed W row [3]:=fun g hg=>by
  obtain⟨cur',t,fz',h5,h6⟩:=hr g hg;exact⟨cur',t,fz',h5,fun h=>h6 (by rw [List.mem_singleton] at h;rw [h];exact List.mem_cons_self)⟩
 have hne:some b≠row:=fun e=>by
  obtain⟨cur',t,fz',h5,h6⟩:=hr b e.symm;rw [hh] at h5;simp only [Option.some.injEq,Obj.cells.injEq] at h5;exact h6 (by rw [← h5.2.1];exact List.mem_cons_of_mem _ (List.mem_singleton.2 rfl))
 refine⟨b,off,cur,fz,e,(hg.block b (zj hh) hne).trans hh,fun i hi=>?_⟩;obtain⟨s,o,l,c,h3,h4,h5⟩:=hc i hi;exact⟨s,o,l,c,hg.cell h3 hne,hg.cell h4 hne,h5.grown hg hr'⟩
theorem RowQ.at(h:RowQ Z W v zs n)(i:Nat)(hi:i<zs.length):∃ b off cap,v=.slice (some ⟨b,off,none⟩) zs.length cap∧b<W.heap.size∧∃(s:Int) (o:Option Addr) (l c:Nat),W.cell? ⟨b,off+i*2,none⟩=some (.int .i64 s)∧W.cell? ⟨b,off+i*2+1,none⟩=some (.slice o l c)∧NumR W (.agg #[.int .i64 s,.slice o l c]) (zs.getD i 0) n:=by
 obtain⟨ao,cap,rfl,-,h2⟩:=h;obtain⟨b,off,cur,fz,rfl,hh,hc⟩:=h2 (by omega);exact⟨b,off,cap,rfl,zj hh,hc i hi⟩
theorem RowQ.fits(h:RowQ Z w v zs n)(hz:∀ j,j<zs.length→-dp m<zs.getD j 0∧zs.getD j 0<dp m):RowQ Z w v zs m:=by
 obtain⟨ao,cap,hv,h3,h4⟩:=h;refine⟨ao,cap,hv,h3,fun h0=>?_⟩;obtain⟨b,off,cur,fz',e,hh,hc⟩:=h4 h0;refine⟨b,off,cur,fz',e,hh,fun i hi=>?_⟩;obtain⟨s,o,l,c',h5,h6,h7⟩:=hc i hi;exact⟨s,o,l,c',h5,h6,h7.fits (hz i hi).1 (hz i hi).2⟩
def MatQ (Z:Prop)(W:World)(v:Value)(zss:List (List Int))(n:Nat):Prop:=
 ∃ ao cap,v=.slice ao zss.length cap∧zss.length≤cap∧(0<zss.length→∃ b,ao=some ⟨b,0,none⟩∧b<W.heap.size∧∀ i zs,zss[i]?=some zs→∃ u,W.cell? ⟨b,i,none⟩=some u∧RowQ Z W u zs n)
theorem MatQ.below{w':World}{zss:List (List Int)}(h:MatQ Z w v zss n)(hb:Below B w w')(hB:w.heap.size≤B):MatQ Z w' v zss n:=by
 obtain⟨ao,cap,hv,h1,h2⟩:=h;refine⟨ao,cap,hv,h1,fun h0=>?_⟩;obtain⟨b,e,hlt,hc⟩:=h2 h0;refine⟨b,e,zT hlt hb.size,fun i zs hi=>?_⟩;obtain⟨u,h3,h4⟩:=hc i zs hi;exact⟨u,(hb.cell (p:=⟨b,i,none⟩) (zT hlt hB)).trans h3,h4.below hb hB⟩
theorem MatQ.fits{zss:List (List Int)}(h:MatQ Z w v zss n)(hz:∀ zs∈zss,∀ j,j<zs.length→-dp m<zs.getD j 0∧zs.getD j 0<dp m):MatQ Z w v zss m:=by
 obtain⟨ao,cap,hv,h3,h4⟩:=h;refine⟨ao,cap,hv,h3,fun h0=>?_⟩;obtain⟨b,e,hlt,hc⟩:=h4 h0;refine⟨b,e,hlt,fun i zs hi=>?_⟩;obtain⟨u,h5,h6⟩:=hc i zs hi;exact⟨u,h5,h6.fits (hz zs (List.mem_of_getElem? hi))⟩
def GrowQ (Z:Prop)(W:World)(base:Nat)(v:Value)(qs:List (Value × List Int))(n:Nat):Prop:=
 W.ownsRow base 106 1 v qs.length (qs.map (·.1))∧∀ q∈qs,RowQ Z W q.1 q.2 n
theorem zic{wr w3:World}{qs:List (Value × List Int)}{u:Value}{g:Nat}{ob:Obj}(h:GrowQ Z wr base v qs n)(hz:RowQ Z wr u zs n)
  (hown:w3.ownsRow base 106 1 (.slice (some ⟨g,0,none⟩) (qs.length+1) cap) (qs.length+1) (qs.map (·.1)++[u]))
  (hg:(wr.alloc ob).grownBy w3 v.ownBlock):GrowQ Z w3 base (.slice (some ⟨g,0,none⟩) (qs.length+1) cap) (qs++[(u,zs)]) n:=by
 have hty:Typed (wr.alloc ob) v.ownBlock [3,40]:=(zaX h.1 (by decide)).alloc ob;refine⟨by rw [List.length_append,List.length_singleton,List.map_append];exact hown,fun p hp=>?_⟩;rcases List.mem_append.1 hp with h' | h'
 ·exact((h.2 p h').below ((zB _ _).alloc zL ob) zL).grown hg hty
 ·rw [List.mem_singleton] at h';rw [h'];exact(hz.below ((zB _ _).alloc zL ob) zL).grown hg hty
theorem GrowQ.mat{qs:List (Value × List Int)}(h:GrowQ Z W base v qs n):MatQ Z W v (qs.map (·.2)) n:=by
 obtain⟨⟨-,h1⟩,h2⟩:=h;have hlen:(qs.map (·.2)).length=qs.length:=zM ..;rcases h1 with⟨rfl,hn⟩ |⟨g,cap,cur,rfl,hb,hh,hc1,hc2,hc3,hc4⟩
 ·exact⟨none,0,by rw [hlen,hn],by rw [hlen];omega,fun h0=>absurd h0 (by rw [hlen];omega)⟩
 ·refine⟨_,cap,by rw [hlen],by rw [hlen];exact hc1,fun h0=>⟨g,rfl,zj hh,fun i zs hi=>?_⟩⟩;obtain⟨hi',e⟩:=List.getElem?_eq_some_iff.1 hi;rw [hlen] at hi';have e':zs=qs[i].2:=by rw [← e,List.getElem_map]
  have:=World.news_of_block hh i qs[i].1 (by
   have e:(qs.map (·.1))[i]?=some qs[i].1:=by rw [List.getElem?_map,List.getElem?_eq_getElem hi'];rfl
   rw [← hc4,List.getElem?_take,if_pos (by omega)] at e;exact e)
  have ea:(⟨g,0,none⟩:Addr).add i=⟨g,i,none⟩:=by unfold Addr.add;split <;> simp_all
  rw [ea] at this;exact⟨_,this,by rw [e'];exact h2 _ (List.getElem_mem hi')⟩
theorem RowR.toQ(h:RowR w v zs n):RowQ Z w v zs n:=by
 obtain⟨ao,cap,hv,h3,h4⟩:=h;refine⟨ao,cap,hv,⟨h3,fun _ h0 b off e=>?_⟩,fun h0=>?_⟩
 ·obtain⟨b',cur,fz',e',hh,hc⟩:=h4 h0;rw [e'] at e;simp only [Option.some.injEq,Addr.mk.injEq,and_true] at e;exact e.2.symm
 ·obtain⟨b,cur,fz',e,hh,hc⟩:=h4 h0;exact⟨b,0,cur,fz',e,hh,fun i hi=>by simpa using hc i hi⟩
theorem RowQ.toR(h:RowQ True w v zs n):RowR w v zs n:=by
 obtain⟨ao,cap,hv,⟨h3,hz⟩,h4⟩:=h;refine⟨ao,cap,hv,h3,fun h0=>?_⟩;obtain⟨b,off,cur,fz',e,hh,hc⟩:=h4 h0;obtain rfl:=hz trivial h0 b off e;exact⟨b,cur,fz',e,hh,fun i hi=>by simpa using hc i hi⟩
theorem MatR.toQ{zss:List (List Int)}(h:MatR w v zss n):MatQ Z w v zss n:=by
 obtain⟨ao,cap,hv,h3,h4⟩:=h;refine⟨ao,cap,hv,h3,fun h0=>?_⟩;obtain⟨b,e,hlt,hc⟩:=h4 h0;exact⟨b,e,hlt,fun i zs hi=>by obtain⟨u,h5,h6⟩:=hc i zs hi;exact⟨u,h5,h6.toQ⟩⟩
theorem MatQ.toR{zss:List (List Int)}(h:MatQ True w v zss n):MatR w v zss n:=by
 obtain⟨ao,cap,hv,h3,h4⟩:=h;refine⟨ao,cap,hv,h3,fun h0=>?_⟩;obtain⟨b,e,hlt,hc⟩:=h4 h0;exact⟨b,e,hlt,fun i zs hi=>by obtain⟨u,h5,h6⟩:=hc i zs hi;exact⟨u,h5,h6.toR⟩⟩
def RowPostN (w:World)(zs:List Int)(n:Nat)(e:Ending)(w':World):Prop:=∃ v,e=.returned v∧RowR w' v zs n∧Below w.heap.size w w'∧∀ a l c,v=.slice (some a) l c→w.heap.size≤a.block
end Go.Proofs.YtdedolkgcdlmeaaGreatDoor
