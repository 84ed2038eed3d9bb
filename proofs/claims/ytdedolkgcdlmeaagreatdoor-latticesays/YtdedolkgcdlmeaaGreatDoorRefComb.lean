import Derived.Test.YtdedolkgcdlmeaaGreatDoorRowO
set_option maxRecDepth 100000
set_option maxHeartbeats 4000000
set_option linter.unusedSimpArgs false
namespace Go.Proofs.YtdedolkgcdlmeaaGreatDoor
open Go.RowKit Limbs
variable{n c sb k b a0 i cap d:Nat}{r zs u us:List Int}{w W wr:World}{D:Nat→Nat}{v:Value}
def upR (r:List Int)(c:Nat):List Int:=if r.getD c 0<0 then List.zipWith (fun a b=>-1*a+0*b) r r else r
def outN (R:Nat→Option (List Int)):Nat→List (List Int)
 | 0=>[]
 | c+1=>match R c with
  | none=>outN R c
  | some r=>(outN R c).map (fun u=>lowRow u (upR r c) c)++[upR r c]
theorem zdc (r:List Int)(c:Nat):upR r c=r∨upR r c=r.map (-1*·):=by
 unfold upR;split
 ·right;exact zbz.symm
 ·exact .inl rfl
theorem zbg (r:List Int)(c:Nat):(upR r c).length=r.length:=by
 rcases zdc r c with h | h <;> rw [h]
 exact zM ..
theorem zk9(h:r.getD b 0=0):(upR r c).getD b 0=0:=by
 rcases zdc r c with e | e <;> rw [e]
 ·exact h
 ·rw [zG,List.getElem?_map] at *;cases e2:r[b]? with
  | none=>rfl
  | some x=>rw [e2] at h;simp at h ⊢;exact h
theorem zem(hc:c<r.length)(h:r.getD c 0≠0):0<(upR r c).getD c 0:=by
 unfold upR;split
 ·rw [zi _ _ _ rfl c hc];omega
 ·omega
theorem za8(h:u.length=r.length)(c:Nat):(lowRow u r c).length=u.length:=zg _ _ _ h
theorem zi5(h:u.length=r.length)(hb:b<u.length)(hz:r.getD b 0=0):(lowRow u r c).getD b 0=u.getD b 0:=by
 unfold lowRow;rw [zi _ _ _ h b hb,hz];omega
theorem zi6(h:u.length=r.length)(hc:c<u.length)(hp:0<r.getD c 0):0≤(lowRow u r c).getD c 0∧(lowRow u r c).getD c 0<r.getD c 0:=by
 unfold lowRow;rw [zi _ _ _ h c hc];generalize u.getD c 0=a at *;generalize r.getD c 0=y at *;have h1:=Int.emod_nonneg a (show y≠0 by omega);have h2:=Int.emod_lt_of_pos a hp;have h3:=Int.mul_ediv_add_emod a y;rw [Int.one_mul,Int.neg_mul,Int.mul_comm];omega
theorem zfC {hs:List (List Int)}{f:List Int→List Int}(hk:k<hs.length):(hs.map f++[r]).getD k []=f hs[k]:=by
 rw [zG,List.getElem?_append_left (by simpa using hk),List.getElem?_map,List.getElem?_eq_getElem hk];rfl
theorem zdL {hs:List (List Int)}{f:List Int→List Int}:(hs.map f++[r]).getD hs.length []=r:=by
 rw [zG,List.getElem?_append_right (by simp)];simp
theorem zic{hs:List (List Int)}{p:Nat→Nat}(h:FormL n hs p)(hlt:∀ k,k<hs.length→p k<c)(hc:c<n)(hr:r.length=n)(hz:∀ b,b<c→r.getD b 0=0)(hp:0<r.getD c 0):
  ∃ p',FormL n (hs.map (fun u=>lowRow u r c)++[r]) p'∧∀ k,k<(hs.map (fun u=>lowRow u r c)++[r]).length→p' k<c+1:=by
 have hlen:∀ k (hk:k<hs.length),hs[k].length=r.length:=fun k hk=>(h.len _ (List.getElem_mem hk)).trans hr.symm;have hL:(hs.map (fun u=>lowRow u r c)++[r]).length=hs.length+1:=by simp
 have ahead:∀ k (hk:k<hs.length) b,b<c→((hs.map (fun u=>lowRow u r c)++[r]).getD k []).getD b 0=(hs.getD k []).getD b 0:=fun k hk b hb=>by
  rw [zfC hk,zn hk];exact zi5 (hlen k hk) (by rw [hlen k hk,hr];omega) (hz b hb)
 refine⟨fun k=>if k=hs.length then c else p k,⟨fun u hu=>?_,⟨fun i k hik hk=>?_,fun i hi=>?_,fun i b hi hb=>?_,fun i hi=>?_,fun i k hik hk=>?_⟩⟩,fun k hk=>?_⟩
 ·rcases List.mem_append.1 hu with h1 | h1
  ·obtain⟨x,hx,rfl⟩:=List.mem_map.1 h1;have:=h.len x hx;rw [za8 (by omega)];exact this
  ·rw [List.mem_singleton] at h1;rw [h1];exact hr
 ·try dsimp only
  rw [hL] at hk;rw [if_neg (show i≠hs.length by omega)];by_cases e:k=hs.length
  ·rw [if_pos e];exact hlt i (by omega)
  ·rw [if_neg e];exact h.form.inc i k hik (by omega)
 ·try dsimp only
  rw [hL] at hi;by_cases e:i=hs.length
  ·rw [if_pos e];exact hc
  ·rw [if_neg e];exact h.form.lt i (by omega)
 ·try dsimp only at hb ⊢
  rw [hL] at hi;by_cases e:i=hs.length
  ·rw [if_pos e] at hb;rw [e,zdL];exact hz b hb
  ·rw [if_neg e] at hb;have h1:=hlt i (by omega);rw [ahead i (by omega) b (by omega)];exact h.form.zero i b (by omega) hb
 ·try dsimp only
  rw [hL] at hi;by_cases e:i=hs.length
  ·rw [if_pos e,e,zdL];exact hp
  ·rw [if_neg e,ahead i (by omega) _ (hlt i (by omega))];exact h.form.pos i (by omega)
 ·try dsimp only
  rw [hL] at hk;by_cases e:k=hs.length
  ·rw [if_pos e,e,zdL,zfC (show i<hs.length by omega)];exact zi6 (hlen i (by omega)) (by rw [hlen i (by omega),hr];exact hc) hp
  ·rw [if_neg e,ahead i (by omega) _ (hlt k (by omega)),ahead k (by omega) _ (hlt k (by omega))];exact h.form.red i k hik (by omega)
 ·try dsimp only
  rw [hL] at hk;by_cases e:k=hs.length
  ·rw [if_pos e];omega
  ·rw [if_neg e];have:=hlt k (by omega);omega
def NZ (R:Nat→Option (List Int)):Prop:=∀ i r,R i=some r→r.getD i 0≠0
theorem zfX {R:Nat→Option (List Int)}(hE:Ech R n n)(hN:NZ R)(c:Nat)(hc:c≤n):∃ p,FormL n (outN R c) p∧∀ k,k<(outN R c).length→p k<c:=by
 induction c with
 | zero=>exact⟨fun _=>0,⟨fun r hr=>(by cases hr),⟨fun i k _ hk=>absurd hk (by simp [outN]),fun i hi=>absurd hi (by simp [outN]),fun i b hi=>absurd hi (by simp [outN]),fun i hi=>absurd hi (by simp [outN]),fun i k _ hk=>absurd hk (by simp [outN])⟩⟩,fun k hk=>absurd hk (by simp [outN])⟩
 | succ c ih=>
  obtain⟨p,h1,h2⟩:=ih (by omega);unfold outN;cases e:R c with
  | none=>exact⟨p,h1,fun k hk=>Nat.lt_succ_of_lt (h2 k hk)⟩
  | some r=>
   have hl:=hE.len c r e;exact zic h1 h2 (by omega) ((zbg r c).trans hl) (fun b hb=>zk9 (hE.zero c r e b hb)) (zem (by omega) (hN c r e))
theorem zcc {R:Nat→Option (List Int)}(hE:Ech R n n)(c:Nat):∀ u∈outN R c,u.length=n:=by
 induction c with
 | zero=>exact fun u hu=>by cases hu
 | succ c ih=>
  unfold outN;cases e:R c with
  | none=>exact ih
  | some r=>
   have hl:=(zbg r c).trans (hE.len c r e);intro u hu;rcases List.mem_append.1 hu with h | h
   ·obtain⟨x,hx,rfl⟩:=List.mem_map.1 h;have:=ih x hx;rw [za8 (by omega)];exact this
   ·rw [List.mem_singleton] at h;rw [h];exact hl
def RowsTo (R:Nat→Option (List Int))(c:Nat):List Int→Prop:=fun v=>∃ i,i<c∧R i=some v
theorem zgk{S:List Int→Prop}(h:Gens n S r):Gens n S (upR r c):=by
 rcases zdc r c with e | e <;> rw [e]
 ·exact h
 ·rw [zbz];exact .comb _ _ h h
theorem zkn{S:List Int→Prop}(h:Gens n S (upR r c)):Gens n S r:=by
 rcases zdc r c with e | e <;> rw [e] at h
 ·exact h
 ·have:=Gens.comb (-1) 0 h h;rw [← zbz,List.map_map] at this;have e2:((fun x:Int=>-1*x) ∘ fun x=>-1*x)=id:=by funext x;simp
  rwa [e2,List.map_id] at this
theorem zjS {R:Nat→Option (List Int)}(hE:Ech R n n)(c:Nat):Alikes n (InL (outN R c)) (RowsTo R c):=by
 induction c with
 | zero=>exact .of (fun v hv _=>by cases hv) (fun v hv _=>by obtain⟨i,hi,-⟩:=hv;omega)
 | succ c ih=>
  have up:∀ v,RowsTo R c v→RowsTo R (c+1) v:=fun v ⟨i,hi,e⟩=>⟨i,by omega,e⟩;unfold outN;cases e:R c with
  | none=>
   refine ih.trans (.of (fun v hv hvl=>.base (up v hv) hvl) (fun v hv hvl=>?_));obtain⟨i,hi,e'⟩:=hv;exact .base ⟨i,by
    by_cases h:i=c
    ·rw [h,e] at e';cases e'
    ·omega,e'⟩ hvl
  | some r=>
   have hl:=hE.len c r e;have gr:Gens n (RowsTo R (c+1)) r:=.base ⟨c,by omega,e⟩ hl;refine .of (fun v hv hvl=>?_) (fun v hv hvl=>?_)
   ·rcases List.mem_append.1 hv with h | h
    ·obtain⟨u,hu,rfl⟩:=List.mem_map.1 h;have hul:u.length=n:=zcc hE c u hu;have gu:Gens n (RowsTo R (c+1)) u:=((ih u).1 (.base hu hul)).trans fun x hx hxl=>.base (up x hx) hxl;exact gu.low (zgk gr) c
    ·rw [List.mem_singleton] at h;rw [h];exact zgk gr
   ·have gp:Gens n (InL ((outN R c).map (fun u=>lowRow u (upR r c) c)++[upR r c])) (upR r c):=.base (List.mem_append_right _ (List.mem_singleton.2 rfl)) ((zbg r c).trans hl);obtain⟨i,hi,e'⟩:=hv;by_cases h:i=c
    ·rw [h,e] at e';obtain rfl:=zI e';exact zkn gp
    ·have g1:=(ih v).2 (.base ⟨i,by omega,e'⟩ hvl);refine g1.trans fun u hu hul=>?_;refine Gens.unlow (k:=c) (hul.trans ((zbg r c).trans hl).symm) (.base (List.mem_append_left _ (List.mem_map.2 ⟨u,hu,rfl⟩)) ?_) gp;rw [za8 (hul.trans ((zbg r c).trans hl).symm)];exact hul
theorem zfW {R:Nat→Option (List Int)}(hE:Ech R n n):Alikes n (InL (outN R n)) (RowsOf R):=
 (zjS hE n).trans (.of (fun v hv hvl=>by obtain⟨i,-,e⟩:=hv;exact .base ⟨i,e⟩ hvl) (fun v hv hvl=>by obtain⟨i,e⟩:=hv;exact .base ⟨i,hE.lt i v e,e⟩ hvl))
theorem zcR (R:Nat→Option (List Int))(c:Nat):(outN R c).length≤c:=by
 induction c with
 | zero=>exact Nat.le_refl _
 | succ c ih=>
  unfold outN;split
  ·omega
  ·simp;omega
open Digs
theorem RowR.setTyped(h:RowR w v zs n){B:Nat}{c:Array Value}{t:TypeId}{fz:Nat × Nat}(hB:w.heap[B]?=some (.cells c t fz))(h1:t≠3)(h2:t≠40)(k:Nat)(u:Value):RowR (w.setCell ⟨B,k,none⟩ u) v zs n:=by
 obtain⟨ao,cap,hv,h3,h4⟩:=h;refine⟨ao,cap,hv,h3,fun h0=>?_⟩;obtain⟨b,cur,fz',e,hh,hc⟩:=h4 h0;have hne:b≠B:=fun e=>by
  subst e;rw [hh] at hB;simp only [Option.some.injEq,Obj.cells.injEq] at hB;exact h2 hB.2.1.symm
 refine⟨b,cur,fz',e,(heap_setCell_other w ⟨B,k,none⟩ b u hne).trans hh,fun i hi=>?_⟩;obtain⟨s,o,l,c',h5,h6,h7⟩:=hc i hi;exact⟨s,o,l,c',(World.cell?_setCell_other (h:=fun e=>by simp at e <;> omega) ..).trans h5,(World.cell?_setCell_other (h:=fun e=>by simp at e <;> omega) ..).trans h6,h7.setTyped hB h1 k u⟩
theorem RowR.mono{m:Nat}(h:RowR w v zs n)(hm:n≤m):RowR w v zs m:=by
 obtain⟨ao,cap,hv,h3,h4⟩:=h;refine⟨ao,cap,hv,h3,fun h0=>?_⟩;obtain⟨b,cur,fz',e,hh,hc⟩:=h4 h0;refine⟨b,cur,fz',e,hh,fun i hi=>?_⟩;obtain⟨s,o,l,c',h5,h6,h7⟩:=hc i hi;exact⟨s,o,l,c',h5,h6,h7.mono hm⟩
theorem RowR.form(h:RowR w v zs n)(h0:0<zs.length):∃ b cap,v=.slice (some ⟨b,0,none⟩) zs.length cap:=by
 obtain⟨ao,cap,rfl,h3,h4⟩:=h;obtain⟨b,-,-,rfl,-⟩:=h4 h0;exact⟨b,cap,rfl⟩
def dT (a:Nat):Nat→Nat
 | 0=>a
 | j+1=>2*dT a j+8
theorem zm{a j:Nat}(h:i≤j):dT a i≤dT a j:=by
 induction j with
 | zero => obtain rfl : i = 0 := by omega
           exact Nat.le_refl _
 | succ j ih=>
  by_cases e:i=j+1
  ·rw [e];exact Nat.le_refl _
  ·have:=ih (by omega);show dT a i≤2*dT a j+8;omega
structure StairR (w W:World)(sb n:Nat)(R:Nat→Option (List Int))(D:Nat→Nat):Prop where
 low:w.heap.size≤sb
 below:Below w.heap.size w W
 blk:∃ cs,W.heap[sb]?=some (.cells cs 106)
 nil:∀ i,i<n→R i=none→W.cell? ⟨sb,i,none⟩=some (.slice none 0 0)
 row:∀ i,i<n→∀ r,R i=some r→∃ b cap,W.cell? ⟨sb,i,none⟩=some (.slice (some ⟨b,0,none⟩) r.length cap)∧RowR W (.slice (some ⟨b,0,none⟩) r.length cap) r (D i)
theorem StairR.lt{R:Nat→Option (List Int)}(h:StairR w W sb n R D):sb<W.heap.size:=by
 obtain⟨cs,e⟩:=h.blk;exact zj e
theorem StairR.later{W':World}{R:Nat→Option (List Int)}(h:StairR w W sb n R D)(hb:Below W.heap.size W W'):StairR w W' sb n R D where
 low:=h.low
 below:=h.below.trans (hb.mono h.below.size)
 blk:=by obtain⟨cs,e⟩:=h.blk;exact⟨cs,(hb.block _ (zj e)).trans e⟩
 nil:=fun i hi e=>(hb.cell (p:=⟨sb,i,none⟩) h.lt).trans (h.nil i hi e)
 row:=fun i hi r e=>by
  obtain⟨b,cap,hc,hv⟩:=h.row i hi r e;exact⟨b,cap,(hb.cell (p:=⟨sb,i,none⟩) h.lt).trans hc,hv.below hb zL⟩
theorem StairR.mono{R:Nat→Option (List Int)}{D':Nat→Nat}(h:StairR w W sb n R D)(hn:∀ i,i<n→D i≤D' i):StairR w W sb n R D':=
 ⟨h.low,h.below,h.blk,h.nil,fun i hi r e=>by
  obtain⟨b,cap,hc,hv⟩:=h.row i hi r e;exact⟨b,cap,hc,hv.mono (hn i hi)⟩⟩
theorem StairR.cell{R:Nat→Option (List Int)}(h:StairR w W sb n R D)(hi:i<n):∃ o l c,W.cell? ⟨sb,i,none⟩=some (.slice o l c):=by
 cases e:R i with
 | none=>exact⟨_,_,_,h.nil i hi e⟩
 | some r=>obtain⟨b,cap,hc,-⟩:=h.row i hi r e;exact⟨_,_,_,hc⟩
theorem StairR.thaw{R:Nat→Option (List Int)}(h:StairR w W sb n R D)(k:Nat):W.frozen? ⟨sb,k,none⟩=false:=by
 obtain⟨cs,e⟩:=h.blk;simp [World.frozen?,e]
theorem StairR.set{R:Nat→Option (List Int)}(h:StairR w W sb n R D)(hk:k<n)(hr:RowR W (.slice (some ⟨b,0,none⟩) r.length cap) r d):
  StairR w (W.setCell ⟨sb,k,none⟩ (.slice (some ⟨b,0,none⟩) r.length cap)) sb n (putRow R k r) (fun i=>if i=k then d else D i):=by
 obtain⟨cs,hcs⟩:=h.blk;obtain⟨o,l,c,hc⟩:=h.cell hk
 have oth:∀ i u,i≠k→W.cell? ⟨sb,i,none⟩=some u→(W.setCell ⟨sb,k,none⟩ (.slice (some ⟨b,0,none⟩) r.length cap)).cell? ⟨sb,i,none⟩=some u:=fun i u hi e=>
  (World.cell?_setCell_other (h:=fun e=>by simp at e <;> omega) ..).trans e
 refine⟨h.low,h.below.setCell h.low _,⟨_,heap_setCell_same W sb k _ _ _ hcs⟩,?_,?_⟩
 ·intro i hi e;unfold putRow at e;by_cases hik:i=k
  ·rw [if_pos hik] at e;cases e
  ·rw [if_neg hik] at e;exact oth i _ hik (h.nil i hi e)
 ·intro i hi r' e;unfold putRow at e;by_cases hik:i=k
  ·rw [if_pos hik] at e;obtain rfl:=zI e;subst hik;exact⟨b,cap,World.cell?_setCell_same (h:=hc) ..,by rw [if_pos rfl];exact hr.setTyped hcs (by decide) (by decide) _ _⟩
  ·rw [if_neg hik] at e;obtain⟨b',cap',hc',hv'⟩:=h.row i hi r' e;exact⟨b',cap',oth i _ hik hc',by rw [if_neg hik];exact hv'.setTyped hcs (by decide) (by decide) _ _⟩
theorem StairR.made (w:World)(n:Nat)(D:Nat→Nat):StairR w (w.alloc (.cells (madeCells #[.slice none 0 0] n) 106)) w.heap.size n (fun _=>none) D where
 low:=Nat.le_refl _
 below:=(zB _ _).alloc zL _
 blk:=⟨_,heap_alloc_new w _⟩
 nil:=fun i hi _=>by
  rw [World.cell?_alloc_new];simp [madeCells,hi,Nat.mod_one]
 row:=fun i hi r e=>by cases e
def cn (R:Nat→Option (List Int)):Nat→Nat
 | 0=>0
 | c+1=>cn R c+if (R c).isSome then 1 else 0
theorem zeR (c:Nat):cn (fun _=>none) c=0:=by
 induction c with
 | zero=>rfl
 | succ c ih=>show cn (fun _=>none) c+0=0;omega
theorem zcu (R:Nat→Option (List Int))(c:Nat):cn R c≤c:=by
 induction c with
 | zero=>exact Nat.le_refl _
 | succ c ih=>unfold cn;split <;> omega
theorem zbn (R:Nat→Option (List Int))(h:c≤d):cn R c≤cn R d:=by
 induction d with
 | zero => obtain rfl : c = 0 := by omega
           exact Nat.le_refl _
 | succ d ih=>
  by_cases e:c=d+1
  ·rw [e];exact Nat.le_refl _
  ·have:=ih (by omega);have e2:cn R (d+1)=cn R d+if (R d).isSome then 1 else 0:=rfl;omega
theorem zeS {R:Nat→Option (List Int)}(h:R c=some r):cn R (c+1)=cn R c+1:=by
 show cn R c+(if (R c).isSome then 1 else 0)=_;rw [h];rfl
theorem zbm {R:Nat→Option (List Int)}(h:R c=some r)(t:List Int)(a:Nat):cn (putRow R c t) a=cn R a:=by
 induction a with
 | zero=>rfl
 | succ a ih=>
  show cn (putRow R c t) a+(if (putRow R c t a).isSome then 1 else 0)=cn R a+if (R a).isSome then 1 else 0;rw [ih];unfold putRow;by_cases e:a=c
  ·rw [if_pos e,e,h];rfl
  ·rw [if_neg e]
theorem zcv (R:Nat→Option (List Int))(c:Nat)(t:List Int)(a:Nat):cn R a≤cn (putRow R c t) a∧cn (putRow R c t) a≤cn R a+if c<a then 1 else 0:=by
 induction a with
 | zero=>exact⟨Nat.le_refl _,by rw [if_neg (Nat.not_lt_zero c)];exact Nat.le_refl _⟩
 | succ a ih=>
  have e1:cn (putRow R c t) (a+1)=cn (putRow R c t) a+(if (putRow R c t a).isSome then 1 else 0):=rfl;have e2:cn R (a+1)=cn R a+(if (R a).isSome then 1 else 0):=rfl;rw [e1,e2];unfold putRow at *;by_cases e:a=c
  ·rw [if_pos e];rw [if_neg (show ¬ c<a by omega)] at ih;rw [if_pos (show c<a+1 by omega)];have h1:(if (some t).isSome=true then 1 else 0)=1:=rfl;rw [h1];split <;> omega
  ·rw [if_neg e];by_cases h:c<a
   ·rw [if_pos h] at ih;rw [if_pos (show c<a+1 by omega)];omega
   ·rw [if_neg h] at ih;rw [if_neg (show ¬ c<a+1 by omega)];omega
structure InR (w wr:World)(sb n a0 k c:Nat)(rows R:Nat→Option (List Int))(us zs:List Int)(v:Value):Prop where
 st:StairR w wr sb n R (fun a=>if a<c then dT a0 (k+1+cn R a) else dT a0 (k+cn R a))
 ech:Ech R n n
 nz:NZ R
 zero:∀ j,j<c→zs.getD j 0=0
 vec:RowR wr v zs (dT a0 (k+cn R c))
 len:zs.length=n
 gen:Alikes n (RowsOr R zs) (RowsOr rows us)
 cnt:cn R n≤k
structure OutR (w wr:World)(sb n a0 k:Nat)(R:Nat→Option (List Int))(S:List Int→Prop):Prop where
 st:StairR w wr sb n R (fun a=>dT a0 (k+cn R a))
 ech:Ech R n n
 nz:NZ R
 gen:Alikes n (RowsOf R) S
 cnt:cn R n≤k
theorem NZ.set {R:Nat→Option (List Int)}(h:NZ R)(hr:r.getD k 0≠0):NZ (putRow R k r):=fun i v e=>by
 unfold putRow at e;by_cases hi:i=k
 ·rw [if_pos hi] at e;obtain rfl:=zI e;rw [hi];exact hr
 ·rw [if_neg hi] at e;exact h i v e
theorem InR.next{rows R:Nat→Option (List Int)}(h:InR w wr sb n a0 k c rows R us zs v)(h0:zs.getD c 0=0):InR w wr sb n a0 k (c+1) rows R us zs v:=
 ⟨h.st.mono fun i _=>by
  by_cases h1:i<c
  ·rw [if_pos h1,if_pos (by omega)];exact Nat.le_refl _
  ·rw [if_neg h1];split
   ·exact zm (by omega)
   ·exact Nat.le_refl _,h.ech,h.nz,fun j hj=>by
  by_cases e:j=c
  ·rw [e];exact h0
  ·exact h.zero j (by omega),h.vec.mono (zm (by have:=zbn R (show c≤c+1 by omega);omega)),h.len,h.gen,h.cnt⟩
theorem InR.last{rows R:Nat→Option (List Int)}(h:InR w wr sb n a0 k n rows R us zs v):OutR w wr sb n a0 (k+1) R (RowsOr rows us):=
 ⟨h.st.mono fun i hi=>by rw [if_pos hi];exact Nat.le_refl _,h.ech,h.nz,(zdf h.len h.zero).trans h.gen,Nat.le_succ_of_le h.cnt⟩
theorem InR.lay{rows R:Nat→Option (List Int)}(h:InR w wr sb n a0 k c rows R us zs (.slice (some ⟨b,0,none⟩) zs.length cap))(hc:c<n)(hr:R c=none)(h0:zs.getD c 0≠0):
  OutR w (wr.setCell ⟨sb,c,none⟩ (.slice (some ⟨b,0,none⟩) zs.length cap)) sb n a0 (k+1) (putRow R c zs) (RowsOr rows us):=by
 refine⟨(h.st.set hc h.vec).mono fun i _=>?_,h.ech.set h.len h.zero hc,h.nz.set h0,?_,?_⟩
 ·have hcp:=(zcv R c zs i).1;by_cases h1:i=c
  ·rw [if_pos h1];subst h1;exact zm (by omega)
  ·rw [if_neg h1];split
   ·exact zm (by omega)
   ·exact zm (by omega)
 ·have:=zdh (R:=R) hr h.len (z:=1) (.inl rfl);have e:zs.map ((1:Int)*·)=zs:=by
   have:(fun x:Int=>1*x)=id:=by funext x;simp
   rw [this,List.map_id]
  rw [e] at this;exact this.trans h.gen
 ·have h1:=(zcv R c zs n).2;rw [if_pos hc] at h1;have:=h.cnt;omega
theorem zgb (m:Nat)(hm:m≤1000)(W:World):(Instr.makeSlice 42 (.int .i64 (m:Int)) (.int .i64 (m:Int))).run Tryz.prog W=.ok (.slice (some ⟨W.heap.size,0,none⟩) m m) (W.alloc (.cells (madeCells #[.slice none 0 0] m) 106)):=by
 obtain⟨i0,hi,hz0,hz1,hz2⟩:=info_parts Tryz.infoRRow;have h:=run_make (P:=Tryz.prog) W 42 106 i0 (.slice none 0 0) (by kernel_rfl) hi hz0 .i64 .i64 m m (by omega) (by omega) (by rw [hz2];omega) (by omega);rw [hz1,Int.toNat_natCast,Nat.mul_one] at h;exact h
theorem zc9 (w:World):Sem.run Tryz.prog (binOp .eql 106 (.slice none 0 0) (.slice none 0 0)) w=.ok (.bool true) w:=by kernel_rfl
theorem zda (w:World)(a:Addr)(l c:Nat):Sem.run Tryz.prog (binOp .eql 106 (.slice (some a) l c) (.slice none 0 0)) w=.ok (.bool false) w:=by kernel_rfl
def RowPost (w:World)(zs:List Int)(n:Nat)(e:Ending)(w':World):Prop:=∃ v,e=.returned v∧RowR w' v zs n∧Below w.heap.size w w'
def RowPostN (w:World)(zs:List Int)(n:Nat)(e:Ending)(w':World):Prop:=∃ v,e=.returned v∧RowR w' v zs n∧Below w.heap.size w w'∧∀ a l c,v=.slice (some a) l c→w.heap.size≤a.block
theorem zeT (w:World)(vx va vy vb:Value)(x y:Int)(us vs:List Int)(nx na ny nb m:Nat)(hx:NumR w vx x nx)(ha:RowR w va us na)(hy:NumR w vy y ny)(hb:RowR w vb vs nb)(hl:us.length=vs.length)(h8:us.length≤1000)
  (h1:nx+na+1≤m) (h2:ny+nb+1≤m) (hm:m≤100000000000):
  Calls Tryz.prog 85 #[vx,va,vy,vb] w fun e w'=>RowPostN w (List.zipWith (fun p q=>x*p+y*q) us vs) (m+1) e w':=by
 obtain⟨i0,hi,hz0,hz1,hz2⟩:=info_parts Tryz.infoRNum;have HI0:=hide hi;have HZ0:=hide hz0;have HZ1:=hide hz1;have HZ2:=hide hz2;clear hi hz0 hz1 hz2;have HA:=hide ha;have HB:=hide hb;have HX:=hide hx;have HY:=hide hy;have hlt:=zg (fun p q=>x*p+y*q) us vs hl;have HZ:=hide (zi (fun p q=>x*p+y*q) us vs hl);obtain⟨xs,xo,xl,xc,rfl,-⟩:=hx.form;obtain⟨ys,yo,yl,yc,rfl,-⟩:=hy.form;obtain⟨ao',acap,rfl,-,-⟩:=ha;obtain⟨bo',bcap,rfl,-,-⟩:=hb;clear hx hy;have HL:=hide hl;clear hl;have hT:=two w (.int .i64 xs) (.slice xo xl xc) (.int .i64 ys) (.slice yo yl yc) 40 40;obtain⟨W0,hW0⟩:∃ W0:World,W0=(w.alloc (.cells #[.int .i64 xs,.slice xo xl xc] 40)).alloc (.cells #[.int .i64 ys,.slice yo yl yc] 40):=⟨_,rfl⟩;have hsz:W0.heap.size=w.heap.size+2:=by rw [hW0];simp
 rw [← hW0] at hT;have HT:=hide hT;have HSZ:=hide hsz;have HLT:=hide hlt;clear hT hsz hlt;generalize List.zipWith (fun p q=>x*p+y*q) us vs=ts at *;go_enter Tryz.func85,Tryz.ntmps85;go_wp2;rw [← hW0];clear hW0;go_loopw [9,10] (fun out i wr=>∃(k:Nat) (ps:List (Rn × Int)),k≤us.length∧i=.int .i64 k∧Hid (GrowR wr (w.heap.size+2) out ps (m+1))∧Hid (ps.map (·.2)=ts.take k)∧Hid (Below (w.heap.size+2) W0 wr)) (fun _ i _=>us.length-(intOf i).toNat)
 case atStart=>exact⟨0,[],Nat.zero_le _,rfl,hide (GrowR.nil _ _ _),hide (by simp),hide (zB _ _)⟩
 case round=>
  obtain⟨k,ps,hk,rfl,HG,HP,HBE⟩:=hrel;have HPL:Hid (ps.length=k):=by
   have:=congrArg List.length HP.out;rw [zM,List.length_take] at this;show ps.length=k;have:=HLT.out;omega
  have hbs:w.heap.size+2≤wr.heap.size:=by have:=HBE.out.size;have:=HSZ.out;omega
  by_cases hkl:k<us.length
  ·have hbw:Below w.heap.size w wr:=HT.out.below.trans (HBE.out.mono (by omega));have hky:k<vs.length:=by have:=HL.out;omega
   obtain⟨ab,_,e,la,sa,ao,al,ac,a2,a3,na'⟩:=(HA.out.below hbw zL).at k hkl;simp only [zV,true_and] at e;obtain⟨rfl,rfl⟩:=e;obtain⟨bb,_,e,lb,sb,bo,bl,bc,a6,a7,nb'⟩:=(HB.out.below hbw zL).at k hky;simp only [zV,true_and] at e;obtain⟨rfl,rfl⟩:=e;have law:ab<w.heap.size:=by
    obtain⟨_,_,e,l,-⟩:=HA.out.at k hkl;simp only [zV,Option.some.injEq,Addr.mk.injEq,and_true,true_and] at e;omega
   have lbw:bb<w.heap.size:=by
    obtain⟨_,_,e,l,-⟩:=HB.out.at k hky;simp only [zV,Option.some.injEq,Addr.mk.injEq,and_true,true_and] at e;omega
   have NA:=hide na';have NB:=hide nb';have NX:=hide (HX.out.below hbw zL);have NY:=hide (HY.out.below hbw zL);obtain⟨a0,a1,-,-⟩:=HT.out.fst.later HBE.out (by omega);obtain⟨a4,a5,-,-⟩:=HT.out.res.later HBE.out (by omega);have lx:w.heap.size<wr.heap.size:=by omega
   have ly:w.heap.size+1<wr.heap.size:=by omega
   have HTS:Hid (∀ r:Rn,(ps++[(r,x*us.getD k 0+y*vs.getD k 0)]).map (·.2)=ts.take (k+1)):=fun r=>by
    have hkt:k<ts.length:=by have:=HLT.out;omega
    rw [List.map_append,HP.out,List.take_succ_eq_append_getElem hkt,← HZ.out k hkl,zG,List.getElem?_eq_getElem hkt];rfl
   have HBW:=hide hbw;clear na' nb' hbw;generalize us.getD k 0=p at *;generalize vs.getD k 0=q at *;go_wp2_with fail;refine zq (S:=(fun w'=>w'.cell? ⟨w.heap.size,0,none⟩=some (.int .i64 xs)∧w'.cell? ⟨w.heap.size,1,none⟩=some (.slice xo xl xc)∧w'.cell? ⟨ab,k*2,none⟩=some (.int .i64 sa)∧w'.cell? ⟨ab,k*2+1,none⟩=some (.slice ao al ac)∧w'.cell? ⟨w.heap.size+1,0,none⟩=some (.int .i64 ys)∧w'.cell? ⟨w.heap.size+1,1,none⟩=some (.slice yo yl yc)∧w'.cell? ⟨bb,k*2,none⟩=some (.int .i64 sb)∧w'.cell? ⟨bb,k*2+1,none⟩=some (.slice bo bl bc))) (k:=17) (by kernel_rfl) (by(try dsimp only);go_keep) (fun hHeld=>?_);refine zd 0 17 [] ?_;try simp only [zA]
   refine zd 1 18 [] ?_;try simp only [zA]
   refine zd 2 19 [] ?_;try simp only [zA]
   refine zd 3 20 [] ?_;try simp only [zA]
   refine zd 4 21 [] ?_;try simp only [zA]
   refine zd 5 22 [] ?_;try simp only [zA]
   refine zd 7 24 [] ?_;try simp only [zA]
   refine zd 8 25 [] ?_;try simp only [zA]
   refine zd 9 26 [] ?_;try simp only [zA]
   refine zd 10 27 [] ?_;try simp only [zA]
   refine zd 11 28 [] ?_;try simp only [zA]
   refine ze 6 (by kernel_rfl) rfl (fun K hK=>?_);go_simp
   (refine(zaA _ _ _ x p nx na (by exact NX.out) (by exact NA.out) (by omega) (by omega)).mono ?_;rintro e w2 ⟨r2,rfl,hr2,hb⟩;have b0:=(hb.cell (p:=⟨w.heap.size,0,none⟩) lx).trans a0;have b1:=(hb.cell (p:=⟨w.heap.size,1,none⟩) lx).trans a1;have b2:=(hb.cell (p:=⟨ab,k*2,none⟩) la).trans a2;have b3:=(hb.cell (p:=⟨ab,k*2+1,none⟩) la).trans a3;have b4:=(hb.cell (p:=⟨w.heap.size+1,0,none⟩) ly).trans a4;have b5:=(hb.cell (p:=⟨w.heap.size+1,1,none⟩) ly).trans a5;have b6:=(hb.cell (p:=⟨bb,k*2,none⟩) lb).trans a6;have b7:=(hb.cell (p:=⟨bb,k*2+1,none⟩) lb).trans a7;have hs2:wr.heap.size≤w2.heap.size:=hb.size;have HR2:=hide hr2;have HW2:Hid (Below wr.heap.size wr w2):=((zB wr.heap.size wr).drew).trans hb;have NY2:=hide (NY.out.below HW2.out zL);have NB2:=hide (NB.out.below HW2.out zL);clear hb hr2)
   go_wp2_with fail;refine hK.out _ _ (fun _=>by(try dsimp only);go_keep) ?_;clear hK K;try simp only [zA]
   refine ze 12 (by kernel_rfl) rfl (fun K hK=>?_);go_simp
   (refine(zaA _ _ _ y q ny nb (by exact NY2.out) (by exact NB2.out) (by omega) (by omega)).mono ?_;rintro e w3 ⟨r3,rfl,hr3,hb⟩;have c0:=(hb.cell (p:=⟨w.heap.size,0,none⟩) (zT lx hs2)).trans b0;have c1:=(hb.cell (p:=⟨w.heap.size,1,none⟩) (zT lx hs2)).trans b1;have c2:=(hb.cell (p:=⟨ab,k*2,none⟩) (zT la hs2)).trans b2;have c3:=(hb.cell (p:=⟨ab,k*2+1,none⟩) (zT la hs2)).trans b3;have c4:=(hb.cell (p:=⟨w.heap.size+1,0,none⟩) (zT ly hs2)).trans b4;have c5:=(hb.cell (p:=⟨w.heap.size+1,1,none⟩) (zT ly hs2)).trans b5;have c6:=(hb.cell (p:=⟨bb,k*2,none⟩) (zT lb hs2)).trans b6;have c7:=(hb.cell (p:=⟨bb,k*2+1,none⟩) (zT lb hs2)).trans b7;have hs3:wr.heap.size≤w3.heap.size:=Nat.le_trans hs2 hb.size;have HR3:=hide hr3;have HR2':=hide (HR2.out.below hb zL);have HW3:=hide (HW2.out.trans (hb.mono HW2.out.size));clear hb hr3)
   go_wp2_with fail;refine hK.out _ _ (fun _=>by(try dsimp only);go_keep) ?_;clear hK K;try simp only [zA]
   refine ze 13 (by kernel_rfl) rfl (fun K hK=>?_);go_simp
   (refine(zce _ _ _ (x*p) (y*q) m (HR2'.out.mono (by omega)) (HR3.out.mono (by omega)) (by omega)).mono ?_;rintro e w4 ⟨r4,rfl,hr4,hb⟩;obtain⟨rs,ro,rl,rc,rfl,-⟩:=hr4.form;have d0:=(hb.cell (p:=⟨w.heap.size,0,none⟩) (zT lx hs3)).trans c0;have d1:=(hb.cell (p:=⟨w.heap.size,1,none⟩) (zT lx hs3)).trans c1;have d2:=(hb.cell (p:=⟨ab,k*2,none⟩) (zT la hs3)).trans c2;have d3:=(hb.cell (p:=⟨ab,k*2+1,none⟩) (zT la hs3)).trans c3;have d4:=(hb.cell (p:=⟨w.heap.size+1,0,none⟩) (zT ly hs3)).trans c4;have d5:=(hb.cell (p:=⟨w.heap.size+1,1,none⟩) (zT ly hs3)).trans c5;have d6:=(hb.cell (p:=⟨bb,k*2,none⟩) (zT lb hs3)).trans c6;have d7:=(hb.cell (p:=⟨bb,k*2+1,none⟩) (zT lb hs3)).trans c7;have hs4:wr.heap.size≤w4.heap.size:=Nat.le_trans hs3 hb.size;have HR4:Hid (NumR w4 (Rn.val ⟨rs,ro,rl,rc⟩) (x*p+y*q) (m+1)):=hr4;have HW4:=hide (HW3.out.trans (hb.mono HW3.out.size));have HG4:=hide (HG.out.later HW4.out);have ha4:Below w4.heap.size w4 (w4.alloc (.cells #[.int .i64 rs,.slice ro rl rc] 40)):=(zB _ _).alloc zL _;have e0:=(ha4.cell (p:=⟨w.heap.size,0,none⟩) (zT lx hs4)).trans d0;have e1:=(ha4.cell (p:=⟨w.heap.size,1,none⟩) (zT lx hs4)).trans d1;have e2:=(ha4.cell (p:=⟨ab,k*2,none⟩) (zT la hs4)).trans d2;have e3:=(ha4.cell (p:=⟨ab,k*2+1,none⟩) (zT la hs4)).trans d3;have e4:=(ha4.cell (p:=⟨w.heap.size+1,0,none⟩) (zT ly hs4)).trans d4;have e5:=(ha4.cell (p:=⟨w.heap.size+1,1,none⟩) (zT ly hs4)).trans d5;have e6:=(ha4.cell (p:=⟨bb,k*2,none⟩) (zT lb hs4)).trans d6;have e7:=(ha4.cell (p:=⟨bb,k*2+1,none⟩) (zT lb hs4)).trans d7;clear hb hr4 ha4)
   go_wp2_with fail;refine hK.out _ _ (fun _=>by(try dsimp only);go_keep) ?_;clear hK K;try simp only [zA]
   refine ze 14 (by kernel_rfl) rfl (fun K hK=>?_);go_simp;refine hK.out _ _ (fun _=>by(try dsimp only);go_keep) ?_;clear hK K;try simp only [zA]
   refine ze 15 (by kernel_rfl) rfl (fun K hK=>?_);refine step_append_lies _ rfl _ _ 106 rfl (w.heap.size+2) 40 i0 (.agg #[.int .i64 0,.slice none 0 0]) 2 32 (by kernel_rfl) HI0.out HZ0.out HZ1.out HZ2.out rfl (by decide) u9 ps.length (ps.flatMap rcells) rfl (HG4.out.1.alloc _) ⟨w4.heap.size,0,none⟩ 1 1 [.int .i64 rs,.slice ro rl rc] rfl rfl (World.news_of_block (heap_alloc_new w4 _)) (fun u hu=>by simp only [List.mem_cons,List.mem_nil_iff,or_false] at hu;rcases hu with rfl | rfl <;> rfl) (by decide) (by unfold maxLen;have:=HPL.out;omega) (by have:=HPL.out;omega) (by simp;omega) (w4.heap.size+1) (by simp) ?_;intro g cap' w5 hown5 hgrow5 hat5 hlt5;have hb5:Below (w.heap.size+2) w4 w5:=zw HG4.out.1 (by omega) hgrow5;have f0:=(hb5.cell (p:=⟨w.heap.size,0,none⟩) (by show w.heap.size<w.heap.size+2;omega)).trans d0;have f1:=(hb5.cell (p:=⟨w.heap.size,1,none⟩) (by show w.heap.size<w.heap.size+2;omega)).trans d1;have f2:=(hb5.cell (p:=⟨ab,k*2,none⟩) (by show ab<w.heap.size+2;omega)).trans d2;have f3:=(hb5.cell (p:=⟨ab,k*2+1,none⟩) (by show ab<w.heap.size+2;omega)).trans d3;have f4:=(hb5.cell (p:=⟨w.heap.size+1,0,none⟩) (by show w.heap.size+1<w.heap.size+2;omega)).trans d4;have f5:=(hb5.cell (p:=⟨w.heap.size+1,1,none⟩) (by show w.heap.size+1<w.heap.size+2;omega)).trans d5;have f6:=(hb5.cell (p:=⟨bb,k*2,none⟩) (by show bb<w.heap.size+2;omega)).trans d6;have f7:=(hb5.cell (p:=⟨bb,k*2+1,none⟩) (by show bb<w.heap.size+2;omega)).trans d7;have HG5:=hide (zai HG4.out HR4.out hown5 hgrow5);have HB5:=hide (HBE.out.trans ((HW4.out.mono (by omega)).trans hb5));clear hown5 hgrow5 hat5 hlt5 hb5;refine hK.out _ _ (fun _=>by(try dsimp only);go_keep) ?_;clear hK K;try simp only [zA]
   refine ze 16 (by kernel_rfl) rfl (fun K hK=>?_);go_simp;refine hK.out _ _ (fun _=>by(try dsimp only);go_keep) ?_;clear hK K;try simp only [zA]
   refine zk (by kernel_rfl) ?_;have HP5:=hide (HTS.out ⟨rs,ro,rl,rc⟩);clear a0 a1 a2 a3 a4 a5 a6 a7 b0 b1 b2 b3 b4 b5 b6 b7 c0 c1 c2 c3 c4 c5 c6 c7 d0 d1 d2 d3 d4 d5 d6 d7 e0 e1 e2 e3 e4 e5 e6 e7 f0 f1 f2 f3 f4 f5 f6 f7 HTS HG HG4 HR4 HR2 HR2' HR3;go_wp2;go_roundw
   case rel=>exact⟨k+1,_,by omega,by go_num,HG5,HP5,HB5⟩
   case measure=>simp [intOf];omega
  ·obtain rfl:k=us.length:=by omega
   have HR:Hid (RowR wr u9 ts (m+1)):=by
    have:=HG.out.row;rw [HP.out,List.take_of_length_le (by have:=HLT.out;omega)] at this;exact this
   have HB:=hide (HT.out.below.trans (HBE.out.mono (by omega)));have HFR:Hid (∀ a l c,u9=.slice (some a) l c→w.heap.size≤a.block):=fun a l c e=>by
    rcases HG.out.1.2 with⟨e1,-⟩ |⟨g',cap',cur,e1,hb',-⟩
    ·rw [e1] at e;cases e
    ·rw [e1] at e;simp only [zV,Option.some.injEq] at e;rw [← e.1];have:=HSZ.out;show w.heap.size≤g';omega
   clear HG HP;go_wp2;go_ret;exact⟨_,rfl,HR.out,HB.out,HFR.out⟩
theorem zbQ (w:World)(vx va vy vb:Value)(x y:Int)(us vs:List Int)(nx na ny nb m:Nat)(hx:NumR w vx x nx)(ha:RowR w va us na)(hy:NumR w vy y ny)(hb:RowR w vb vs nb)(hl:us.length=vs.length)(h8:us.length≤1000)
  (h1:nx+na+1≤m) (h2:ny+nb+1≤m) (hm:m≤100000000000):
  Calls Tryz.prog 85 #[vx,va,vy,vb] w fun e w'=>RowPost w (List.zipWith (fun p q=>x*p+y*q) us vs) (m+1) e w':=
 (zeT w vx va vy vb x y us vs nx na ny nb m hx ha hy hb hl h8 h1 h2 hm).mono fun _ _ ⟨v,a,b,c,_⟩=>⟨v,a,b,c⟩
end Go.Proofs.YtdedolkgcdlmeaaGreatDoor
