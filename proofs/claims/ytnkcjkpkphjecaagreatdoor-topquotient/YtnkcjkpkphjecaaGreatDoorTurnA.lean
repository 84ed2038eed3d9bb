import Derived.Test.YtnkcjkpkphjecaaGreatDoorGcdA
import Derived.Test.YtnkcjkpkphjecaaGreatDoorFold
import Derived.Test.YtnkcjkpkphjecaaGreatDoorMix
import Derived.Test.YtnkcjkpkphjecaaGreatDoorMats
import Derived.Test.YtnkcjkpkphjecaaGreatDoorVecO
import Derived.Test.YtnkcjkpkphjecaaGreatDoorTidy
import Derived.Laws.CopyOwn
import Derived.Test.YtnkcjkpkphjecaaGreatDoorKerT
import Derived.Test.YtnkcjkpkphjecaaGreatDoorSmA
namespace Go.Proofs.YtnkcjkpkphjecaaGreatDoor
open Go
section
variable {P:Program}{ops:Array Oper}{Q:Exit→Act→World→Prop}{md:Region.Mode}{S:World→Prop}{A:Nat→Bool}
def wpUp (P:Program)(md:Region.Mode)(ops:Array Oper)(Q:Exit→Act→World→Prop)(S:World→Prop)(A:Nat→Bool):Nat→Array Bool→Act→World→Prop
 | 0=>fun listed a w=>Region.ready md ops listed=[]∧Q .normal a w
 | fuel+1=>fun listed a w=>(Region.ready md ops listed=[]→Q .normal a w) ∧
   ∀ j,j∈Region.ready md ops listed→wpOp P ops Q j (fun a' w'=>(A j=true→S w')∧wpUp P md ops Q S A fuel (listed.setIfInBounds j true) a' w') a w
theorem zgu (fuel:Nat):∀(listed:Array Bool) (a:Act) (w:World),wpUp P md ops Q S A fuel listed a w→wpAny P md ops Q fuel listed a w:=by
 induction fuel with
 | zero=>exact fun _ _ _ h=>h
 | succ fuel ih=>exact fun _ _ _ h=>⟨h.1,fun j hj=>wpOp_mono (fun a' w' h'=>ih _ a' w' h'.2) (h.2 j hj)⟩
def waitsA (md:Region.Mode)(ops:Array Oper)(A:Nat→Bool)(listed:Array Bool)(i:Nat)(ds:List Nat):Bool:=
 ((List.range ops.size).all fun j=>A j || ds.contains j || listed.getD j false) &&
  ds.all fun j=>!listed.getD j false && match ops[j]? with
   | some o=>o.after.any fun e=>Region.binds md e && (e.on == i || ds.contains e.on)
   | none=>true
theorem zka {i:Nat}{oi:Oper}{v:Value}(hi:ops[i]?=some oi)(hsel:∀(j:Nat) (o:Oper) cs b,ops[j]?=some o→o.op≠.select cs b)
  (hQ:∀ c a w,Q (.panic c) (a.put oi.dst v) w→Q (.panic c) a w) (ds:List Nat) (hds:∀ j,j∈ds→∀ o,ops[j]?=some o→∃ e∈o.after,Region.binds md e=true∧(e.on=i∨e.on∈ds)) (fuel:Nat):
  ∀(listed:Array Bool) (a:Act) (w:World),(∀ j o,ops[j]?=some o→listed.getD j true=false→j ∉ ds→A j=true) →
   (∀ j oj,ops[j]?=some oj→j≠i→listed.getD j true=false→(∀ e∈oj.after,Region.binds md e=true→e.on≠i)→oi.apart ops oj=true) →
   i∈Region.ready md ops listed→(∀ j∈ds,listed.getD j false=false)→YieldsIf P ops S oi v a→S w →
   wpUp P md ops Q S A fuel (listed.setIfInBounds i true) (a.put oi.dst v) w→wpUp P md ops Q S A (fuel+1) listed a w:=by
 induction fuel with
 | zero=>
  intro listed a w _ _ hr _ hy hS H
  refine⟨fun h0=>absurd hr (by rw [h0];exact List.not_mem_nil),fun j hj=>?_⟩
  by_cases e:j=i
  ·subst e;exact hy.wpOp hi hS ⟨fun _=>hS,H⟩
  ·have:=ready_mono hj e
   rw [H.1] at this
   cases this
 | succ fuel ih=>
  intro listed a w hlow hfree hr hun hy hS H
  refine⟨fun h0=>absurd hr (by rw [h0];exact List.not_mem_nil),fun j hj=>?_⟩
  by_cases e:j=i
  ·subst e;exact hy.wpOp hi hS ⟨fun _=>hS,H⟩
  ·obtain⟨hj0,oj,hoj,hall⟩:=mem_ready.1 hj
   have hi0:=(mem_ready.1 hr).1
   have hi1:listed.getD i false=true→False:=fun h=>by
    by_cases hl:i < listed.size
    ·simp [hl] at hi0 h;rw [hi0] at h;cases h
    ·simp [Array.getElem?_eq_none (Nat.le_of_not_lt hl)] at h
   have hnd:j ∉ ds:=fun hd=>by
    obtain⟨ed,hed,hbd,hon⟩:=hds j hd oj hoj
    have h1:=hall ed hed hbd
    rcases hon with hon | hon
    ·rw [hon] at h1;exact hi1 h1
    ·rw [hun _ hon] at h1;cases h1
   have hnot:∀ ed∈oj.after,Region.binds md ed=true→ed.on≠i:=fun ed hed hbd heq=>hi1 (by have:=hall ed hed hbd;rwa [heq] at this)
   have h2:=wpOp_putIf hoj (hfree j oj hoj e hj0 hnot) (fun cs b=>hsel i oi cs b hi) (fun cs b=>hsel j oj cs b hoj) hQ hy (H.2 j (ready_mono hj e))
   refine wpOp_mono (fun a' w' h3=>?_) h2
   have hS':=h3.2.1 (hlow j oj hoj hj0 hnd)
   have hback:∀ m,(listed.setIfInBounds j true).getD m true=false→listed.getD m true=false:=fun m hmu=>by
    by_cases ejm:j=m
    ·subst ejm;exact hj0
    ·rwa [getD_set_ne true ejm] at hmu
   refine⟨h3.2.1,ih (listed.setIfInBounds j true) a' w' (fun m om hm hmu=>hlow m om hm (hback m hmu)) (fun m om hm hmi hmu hmn=>hfree m om hm hmi (hback m hmu) hmn) (ready_mono hr (Ne.symm e)) (fun d hd=>?_) h3.1 hS' ?_⟩
   ·rw [getD_set_ne (i:=j) (j:=d) false (fun e'=>hnd (by rw [e'];exact hd))]
    exact hun d hd
   ·rw [Array.setIfInBounds_comm _ _ e]
    exact h3.2.2
theorem zkb {i:Nat}{oi:Oper}{v:Value}(hi:ops[i]?=some oi)(hsel:∀(j:Nat) (o:Oper) cs b,ops[j]?=some o→o.op≠.select cs b)
  (hQ:∀ c a w,Q (.panic c) (a.put oi.dst v) w→Q (.panic c) a w) (hA:A i=false) (fuel:Nat):
  ∀(listed:Array Bool) (a:Act) (w:World),
   (∀ j oj,ops[j]?=some oj→j≠i→listed.getD j true=false→(∀ e∈oj.after,Region.binds md e=true→e.on≠i)→oi.apart ops oj=true) →
   i∈Region.ready md ops listed→YieldsIf P ops (fun _=>True) oi v a →
   wpUp P md ops Q S A fuel (listed.setIfInBounds i true) (a.put oi.dst v) w→wpUp P md ops Q S A (fuel+1) listed a w:=by
 have hno:A i=true→S=S→∀ w,S w:=fun h=>by rw [hA] at h;cases h
 induction fuel with
 | zero=>
  intro listed a w _ hr hy H
  refine⟨fun h0=>absurd hr (by rw [h0];exact List.not_mem_nil),fun j hj=>?_⟩
  by_cases e:j=i
  ·subst e;exact hy.wpOp hi trivial ⟨fun h=>hno h rfl w,H⟩
  ·have:=ready_mono hj e
   rw [H.1] at this
   cases this
 | succ fuel ih=>
  intro listed a w hfree hr hy H
  refine⟨fun h0=>absurd hr (by rw [h0];exact List.not_mem_nil),fun j hj=>?_⟩
  by_cases e:j=i
  ·subst e;exact hy.wpOp hi trivial ⟨fun h=>hno h rfl w,H⟩
  ·obtain⟨hj0,oj,hoj,hall⟩:=mem_ready.1 hj
   have hi0:=(mem_ready.1 hr).1
   have hi1:listed.getD i false=true→False:=fun h=>by
    by_cases hl:i < listed.size
    ·simp [hl] at hi0 h;rw [hi0] at h;cases h
    ·simp [Array.getElem?_eq_none (Nat.le_of_not_lt hl)] at h
   have hnot:∀ ed∈oj.after,Region.binds md ed=true→ed.on≠i:=fun ed hed hbd heq=>hi1 (by have:=hall ed hed hbd;rwa [heq] at this)
   have h2:=wpOp_putIf hoj (hfree j oj hoj e hj0 hnot) (fun cs b=>hsel i oi cs b hi) (fun cs b=>hsel j oj cs b hoj) hQ hy (H.2 j (ready_mono hj e))
   refine wpOp_mono (fun a' w' h3=>?_) h2
   refine⟨h3.2.1,ih (listed.setIfInBounds j true) a' w' (fun m om hm hmi hmu hmn=>hfree m om hm hmi ?_ hmn) (ready_mono hr (Ne.symm e)) h3.1 ?_⟩
   ·by_cases ejm:j=m
    ·subst ejm;exact hj0
    ·rwa [getD_set_ne true ejm] at hmu
   ·rw [Array.setIfInBounds_comm _ _ e]
    exact h3.2.2
theorem zke {listed:Array Bool}{i:Nat}{ds:List Nat}(h:waitsA md ops A listed i ds=true):
  (∀ j o,ops[j]?=some o→listed.getD j true=false→j ∉ ds→A j=true)∧(∀ j∈ds,listed.getD j false=false)∧∀ j,j∈ds→∀ o,ops[j]?=some o→∃ e∈o.after,Region.binds md e=true∧(e.on=i∨e.on∈ds):=by
 simp only [waitsA,Bool.and_eq_true,List.all_eq_true] at h
 refine⟨fun j o hj hl hn=>?_,fun j hj=>?_,fun j hj o ho=>?_⟩
 ·have h1:=h.1 j (List.mem_range.2 (Array.getElem?_eq_some_iff.1 hj).1)
  simp only [Bool.or_eq_true,List.contains_iff_mem] at h1
  rcases h1 with(h1 | h1) | h1
  ·exact h1
  ·exact absurd h1 hn
  ·by_cases hs:j < listed.size
   ·simp [hs] at hl h1;rw [hl] at h1;cases h1
   ·simp [Array.getElem?_eq_none (Nat.le_of_not_lt hs)] at h1
 ·have:=(h.2 j hj).1
  simpa using this
 ·have h2:=(h.2 j hj).2
  rw [ho] at h2
  obtain⟨e,he,hb⟩:=Array.any_eq_true'.1 h2
  simp only [Bool.and_eq_true,Bool.or_eq_true,beq_iff_eq,List.contains_iff_mem] at hb
  exact⟨e,he,hb.1,hb.2⟩
theorem zdM (i d:Nat)(ds:List Nat){oi:Oper}{v:Value}{fuel:Nat}{listed:Array Bool}{a:Act}{w:World}(hi:ops[i]?=some oi)(hd:oi.dst=some d)
  (hs:Region.noSelect ops=true) (hf:Region.free md ops listed i=true) (hr:(Region.ready md ops listed).contains i=true) (hw:waitsA md ops A listed i ds=true)
  (hQ:∀ c a w,Q (.panic c) (a.put (some d) v) w→Q (.panic c) a w) (hwt:Region.wanted oi (yielded ops a.tmps)=true) (hy:∀ w,S w→(execOp a.eval oi).run P w=.ok (.value v) w) (hS:S w)
  (h:wpUp P md ops Q S A fuel (listed.setIfInBounds i true) (a.put (some d) v) w):wpUp P md ops Q S A (fuel+1) listed a w:=
 have hw':=zke hw
 zka hi (Region.noSelect_spec hs) (by rw [hd];exact hQ) ds hw'.2.2 fuel listed a w hw'.1 (Region.free_spec hi hf) (by simpa using hr)
  hw'.2.1 (.inl ⟨hwt,hy⟩) hS (by rw [hd];exact h)
theorem zz (i d:Nat){oi:Oper}{v:Value}{fuel:Nat}{listed:Array Bool}{a:Act}{w:World}(hi:ops[i]?=some oi)(hd:oi.dst=some d)
  (hs:Region.noSelect ops=true) (hf:Region.free md ops listed i=true) (hr:(Region.ready md ops listed).contains i=true) (hA:A i=false)
  (hQ:∀ c a w,Q (.panic c) (a.put (some d) v) w→Q (.panic c) a w) (hwt:Region.wanted oi (yielded ops a.tmps)=true) (hy:∀ w,(execOp a.eval oi).run P w=.ok (.value v) w)
  (h:wpUp P md ops Q S A fuel (listed.setIfInBounds i true) (a.put (some d) v) w):wpUp P md ops Q S A (fuel+1) listed a w:=
 zkb hi (Region.noSelect_spec hs) (by rw [hd];exact hQ) hA fuel listed a w (Region.free_spec hi hf) (by simpa using hr) (.inl ⟨hwt,fun w _=>hy w⟩) (by rw [hd];exact h)
theorem zbo (i:Nat){o:Oper}{fuel:Nat}{listed:Array Bool}{a:Act}{w:World}(hr:Region.ready md ops listed=[i])(ho:ops[i]?=some o)
  (h:∀ K':Act→World→Prop,Shut (∀ a w,(A i=true→S w)→wpUp P md ops Q S A fuel (listed.setIfInBounds i true) a w→K' a w)→if Region.wanted o (yielded ops a.tmps)=true then Oper.wp P o a w K' Q else K' (a.put o.dst undef) w):
  wpUp P md ops Q S A (fuel+1) listed a w:=by
 refine⟨fun h0=>absurd (hr.symm.trans h0) (by simp),fun j hj=>?_⟩
 rw [hr] at hj
 obtain rfl:j=i:=by simpa using hj
 exact wpOp_step ho (fun K' hK=>h K' (fun a w hS hW=>hK a w ⟨hS,hW⟩))
theorem zf6 {fuel:Nat}{listed:Array Bool}{a:Act}{w:World}(hr:Region.ready md ops listed=[])(h:Q .normal a w):wpUp P md ops Q S A fuel listed a w:=by
 cases fuel with
 | zero=>exact⟨hr,h⟩
 | succ fuel=>exact⟨fun _=>h,fun j hj=>by rw [hr] at hj;cases hj⟩
theorem zf7 {id:Nat}{a:Act}{w:World}(hm:P.follows .mixedOrders=true)(hS:S w.drew)
  (h:S w.drew→wpUp P .any ops Q S A ops.size (Array.replicate ops.size false) a w.drew):(Code.region id ops true).wp P Q a w:=
 wp_region_any hm (zgu _ _ _ _ (h hS))
end
end Go.Proofs.YtnkcjkpkphjecaaGreatDoor
/- mat.common of 1 and 1; mat.chained of nothing but 1. -/
namespace Go.Proofs.YtnkcjkpkphjecaaGreatDoor
open Go.RowKit Limbs
theorem Box.alloc {W:World}{B:Nat}{u0 u1:Value}(h:Box W B u0 u1)(hB:B < W.heap.size)(ob:Obj):Box (W.alloc ob) B u0 u1:=h.later ((Below.refl W.heap.size W).alloc zL ob) hB
theorem NumL.one {w:World}{v:Value}{n:Nat}(h:NumL w v 1 n):NumL w v 1 2:=h.tight (by decide)
theorem ziM (r k:Nat)(hk:k < r):(List.replicate r (1:Int)).getD k 0=1:=by
 rw [List.getD_eq_getElem?_getD,List.getElem?_replicate,if_pos hk];rfl
end Go.Proofs.YtnkcjkpkphjecaaGreatDoor
/- Rows in the one form are bounded by what generates the same. -/
namespace Go.Proofs.YtnkcjkpkphjecaaGreatDoor
open Go.RowKit Limbs
theorem FormL.short {n:Nat}{hs:List (List Int)}{p:Nat→Nat}(h:FormL n hs p):hs.length≤n:=by
 have hrm:∀ k,k < hs.length→k≤p k:=fun k=>by
  induction k with
  | zero=>exact fun _=>Nat.zero_le _
  | succ k ih=>intro hk;have:=ih (by omega);have:=h.form.inc k (k+1) (by omega) hk;omega
 by_cases h0:hs.length=0
 ·omega
 ·have:=hrm (hs.length - 1) (by omega);have:=h.form.lt (hs.length - 1) (by omega);omega
theorem zhA {n nv:Nat}{hs l:List (List Int)}{p:Nat→Nat}(h:FormL n hs p)(ha:Alikes n (InL hs) (InL l))(hl:∀ us∈l,us.length=n)(hb:∀ us∈l,∀ j,j < n→ab (us.getD j 0) < bp nv)(hn:n≤16):
  ∀ r∈hs,∀ j,j < r.length→ab (r.getD j 0) < bp (n * nv+2):=by
 obtain⟨C,hC⟩:=zI (r:=hs.length) (n:=n) (mm:=l.length) (H:=fun k b=>(hs.getD k []).getD b 0) (M:=fun k b=>(l.getD k []).getD b 0) (fun a haa=>zy ((ha _).1 (.base (zm haa) (h.len _ (zm haa)))))
 obtain⟨T,hT⟩:=zI (r:=l.length) (n:=n) (mm:=hs.length) (H:=fun k b=>(l.getD k []).getD b 0) (M:=fun k b=>(hs.getD k []).getD b 0) (fun a haa=>zy ((ha _).2 (.base (zm haa) (hl _ (zm haa)))))
 intro r hr j hj
 obtain⟨k,hk,e⟩:=List.getElem_of_mem hr
 have hlen:=h.len r hr
 have h1:=zez hs.length l.length n _ _ C T p (bp nv) (by have:=zx nv;omega) h.form.lt (fun i k hi hki=>h.form.zero i (p k) hi (h.form.inc k i hki hi)) (fun i hi=>h.form.pos i hi) (fun i k hi hk hik=>⟨(h.form.red i k hik hk).1,Int.le_of_lt (h.form.red i k hik hk).2⟩) hC hT (fun a b ha hb'=>Int.le_of_lt (hb _ (zm ha) b hb')) k j hk (by omega)
 have h2:=zcU (v:=nv) h.short hn
 rw [zk hk,e] at h1
 exact Int.lt_of_le_of_lt h1 h2
theorem MatN.tight {w:World}{v:Value}{zss:List (List Int)}{n m:Nat}(h:MatN w v zss n)(hz:∀ zs∈zss,∀ j,j < zs.length→ab (zs.getD j 0) < bp m):MatN w v zss m:=by
 obtain⟨ao,cap,hv,h1,h2⟩:=h
 refine⟨ao,cap,hv,h1,fun h0=>?_⟩
 obtain⟨b,off,e,hlt,hc⟩:=h2 h0
 refine⟨b,off,e,hlt,fun i zs hi=>?_⟩
 obtain⟨u,cu,hu⟩:=hc i zs hi
 exact⟨u,cu,hu.tight (hz zs (List.mem_of_getElem? hi))⟩
theorem MatN.abs {w:World}{v:Value}{ms:List (List Int)}{nv:Nat}(h:MatN w v ms nv):∀ us∈ms,∀ j,j < us.length→ab (us.getD j 0) < bp nv:=fun us hus j hj=>by
 obtain⟨i,hi,e⟩:=List.getElem_of_mem hus
 obtain⟨b,off,cap',e1,hlt,u,hc,hu⟩:=h.at i hi
 rw [e] at hu
 obtain⟨b',off',cap2,e2⟩:=hu.form (by omega)
 subst e2
 obtain⟨-,neg,o,l,c,-,-,hz⟩:=hu.at j hj
 exact hz.ab_lt
end Go.Proofs.YtnkcjkpkphjecaaGreatDoor
/- A vector that grows at its end; texts that do. -/
namespace Go.Proofs.YtnkcjkpkphjecaaGreatDoor
open Go.RowKit Limbs
def apart (og:Option Nat)(s:Value):Prop:=∀ a l c,s=.slice (some a) l c→0 < l→some a.block≠og
theorem Lim.grown {W W':World}{row:Option Nat}{s:Value}{zs:List Int}(h:Lim W s zs)(hg:W.grownBy W' row)(hne:apart row s):Lim W' s zs:=by
 obtain⟨ao,cap,rfl,h1,h2,h3,h4⟩:=h
 refine⟨ao,cap,rfl,h1,h2,h3,fun h0=>?_⟩
 obtain⟨b,off,rfl,hlt,hc⟩:=h4 h0
 have hb:=hne _ _ _ rfl h0
 exact⟨b,off,rfl,zT hlt hg.size,fun i hi=>hg.cell (hc i hi) hb⟩
def Nm.val (r:Nm):Value:=.agg #[.bool r.neg,.slice r.o r.l r.c]
def Nm.sl (r:Nm):Value:=.slice r.o r.l r.c
def ncells (p:Nm × Int):List Value:=[.bool p.1.neg,.slice p.1.o p.1.l p.1.c]
theorem NumL.grown {W W':World}{row:Option Nat}{r:Nm}{z:Int}{n:Nat}(h:NumL W r.val z n)(hg:W.grownBy W' row)(hne:apart row r.sl):NumL W' r.val z n:=by
 obtain⟨neg,s,zs,e,hl,h3⟩:=h
 simp only [Nm.val,Value.agg.injEq,Array.mk.injEq,List.cons.injEq,Value.bool.injEq,and_true] at e
 obtain⟨rfl,rfl⟩:=e
 exact⟨_,_,zs,rfl,hl.grown hg hne,h3⟩
theorem NumL.inside {W:World}{r:Nm}{z:Int}{n:Nat}(h:NumL W r.val z n):∀ a l c,r.sl=.slice (some a) l c→0 < l→a.block < W.heap.size:=fun a l c e h0=>by
 obtain⟨neg,s,zs,e1,hl,-⟩:=h
 simp only [Nm.val,Value.agg.injEq,Array.mk.injEq,List.cons.injEq,Value.bool.injEq,and_true] at e1
 obtain⟨rfl,rfl⟩:=e1
 obtain⟨ao,cap,e2,-,-,-,h4⟩:=hl
 unfold Nm.sl at e
 rw [e] at e2
 simp only [Value.slice.injEq] at e2
 obtain⟨rfl,rfl,rfl⟩:=e2
 obtain⟨b,off,e3,hlt,-⟩:=h4 h0
 simp only [Option.some.injEq] at e3
 rw [e3]
 exact hlt
def Grow (W:World)(base:Nat)(v:Value)(ps:List (Nm × Int))(n:Nat):Prop:=
 W.ownsRow base 42 2 v ps.length (ps.flatMap ncells)∧∀ p∈ps,NumL W p.1.val p.2 n∧apart v.ownBlock p.1.sl
theorem Grow.nil (W:World)(base n:Nat):Grow W base (.slice none 0 0) [] n:=⟨World.ownsRow_nil _ _ _ _,fun _ h=>by cases h⟩
theorem Grow.later {W W':World}{base:Nat}{v:Value}{ps:List (Nm × Int)}{n:Nat}(h:Grow W base v ps n)(hb:Below W.heap.size W W'):Grow W' base v ps n:=by
 refine⟨?_,fun p hp=>⟨(h.2 p hp).1.below hb zL,(h.2 p hp).2⟩⟩
 refine⟨h.1.1,?_⟩
 rcases h.1.2 with hn |⟨g,cap,cur,e,hbg,hh,rest⟩
 ·exact .inl hn
 ·exact .inr ⟨g,cap,cur,e,hbg,(hb.block _ (zn hh)).trans hh,rest⟩
theorem zhP {base:Nat}{wr w3:World}{v:Value}{ps:List (Nm × Int)}{n:Nat}{r:Nm}{z:Int}{g cap:Nat}{ob:Obj}(h:Grow wr base v ps n)(hz:NumL wr r.val z n)(ha:apart v.ownBlock r.sl)
  (hown:w3.ownsRow base 42 2 (.slice (some ⟨g,0,none⟩) (ps.length+1) cap) (ps.length+1) (ps.flatMap ncells ++ ncells (r,z)))
  (hg:(wr.alloc ob).grownBy w3 v.ownBlock) (hat:v.ownBlock=some g∨g=wr.heap.size+1):Grow w3 base (.slice (some ⟨g,0,none⟩) (ps.length+1) cap) (ps ++ [(r,z)]) n:=by
 refine⟨by rw [List.length_append,List.length_singleton,List.flatMap_append,List.flatMap_singleton];exact hown,fun p hp=>?_⟩
 have key:∀ p:Nm × Int,NumL wr p.1.val p.2 n→apart v.ownBlock p.1.sl→NumL w3 p.1.val p.2 n∧apart (some g) p.1.sl:=fun p h1 h2=>by
  refine⟨(h1.below ((Below.refl _ _).alloc zL ob) zL).grown hg h2,fun a l c e h0 hb=>?_⟩
  rcases hat with h | h
  ·exact h2 a l c e h0 (hb.trans h.symm)
  ·have:=h1.inside a l c e h0
   simp only [Option.some.injEq] at hb
   omega
 rcases List.mem_append.1 hp with h' | h'
 ·exact key p (h.2 p h').1 (h.2 p h').2
 ·rw [List.mem_singleton] at h'
  rw [h']
  exact key (r,z) hz ha
theorem zhN {base:Nat}{wr w3:World}{v:Value}{ps:List (Nm × Int)}{n:Nat}{ob:Obj}(h:Grow wr base v ps n)(hB:base≤wr.heap.size)(hg:(wr.alloc ob).grownBy w3 v.ownBlock):Below base wr w3:=
 ((Below.refl _ _).alloc hB _).grown hg (by simp;omega) (fun k hk=>(h.1.lt k hk).1)
theorem ziE (ps:List (Nm × Int)):∀ i (h:i < ps.length),(ps.flatMap ncells)[i * 2]?=some (.bool ps[i].1.neg)∧(ps.flatMap ncells)[i * 2+1]?=some (.slice ps[i].1.o ps[i].1.l ps[i].1.c):=by
 induction ps with
 | nil=>intro i h;exact absurd h (by simp)
 | cons p ps ih=>
  intro i h
  rw [List.flatMap_cons]
  cases i with
  | zero=>exact⟨rfl,rfl⟩
  | succ i=>
   obtain⟨h1,h2⟩:=ih i (by simpa using h)
   have e1:(i+1) * 2=i * 2+2:=by omega
   rw [e1,show i * 2+2+1=i * 2+1+2 by omega,List.getElem?_append_right (by simp [ncells]),List.getElem?_append_right (by simp [ncells])]
   exact⟨h1,h2⟩
theorem Grow.vec {W:World}{base:Nat}{v:Value}{ps:List (Nm × Int)}{n:Nat}(h:Grow W base v ps n):VecN W v (ps.map (·.2)) n:=by
 obtain⟨⟨-,h1⟩,h2⟩:=h
 have hlen:(ps.map (·.2)).length=ps.length:=List.length_map ..
 rcases h1 with⟨rfl,hn⟩ |⟨g,cap,cur,rfl,hb,hh,hc1,hc2,hc3,hc4⟩
 ·exact⟨none,0,by rw [hlen,hn],by rw [hlen];omega,fun h0=>absurd h0 (by rw [hlen];omega)⟩
 ·refine⟨_,cap,by rw [hlen],by rw [hlen];exact hc1,fun h0=>⟨g,0,rfl,zn hh,fun i hi=>?_⟩⟩
  rw [hlen] at hi
  obtain⟨e1,e2⟩:=ziE ps i hi
  have hcell:∀ k u,k < ps.length * 2→(ps.flatMap ncells)[k]?=some u→W.cell? ⟨g,0+k,none⟩=some u:=fun k u hk hu=>by
   have:=World.news_of_block hh k u (by rw [← hc4,List.getElem?_take,if_pos hk] at hu;exact hu)
   have e:(⟨g,0,none⟩:Addr).add k=⟨g,0+k,none⟩:=by unfold Addr.add;split <;> simp_all
   rwa [e] at this
  refine⟨ps[i].1.neg,ps[i].1.o,ps[i].1.l,ps[i].1.c,hcell _ _ (by omega) e1,hcell _ _ (by omega) e2,?_⟩
  have e3:(ps.map (·.2)).getD i 0=ps[i].2:=by
   rw [List.getD_eq_getElem?_getD,List.getElem?_map,List.getElem?_eq_getElem hi];rfl
  rw [e3]
  exact(h2 _ (List.getElem_mem hi)).1
end Go.Proofs.YtnkcjkpkphjecaaGreatDoor
/- copy: numbers of a vector go over into a vector of one's own. -/
namespace Go.Proofs.YtnkcjkpkphjecaaGreatDoor
open Go.RowKit Limbs
def pcells (p:Nm × Int):List Value:=[.bool p.1.neg,.slice p.1.o p.1.l p.1.c]
theorem zjz (zs us:List Int)(k:Nat)(u:Int)(hk:k < zs.length):splice (zs.set k u) (k+1) us=splice zs k (u :: us):=by
 unfold splice
 have hk':k < (zs.set k u).length:=by rw [List.length_set];exact hk
 rw [List.take_succ_eq_append_getElem hk',List.getElem_set_self,List.take_set_of_le zL,List.drop_set_of_lt (by omega),List.length_cons,show k+1+us.length=k+(us.length+1) by omega,List.append_assoc]
 rfl
theorem NumL.laid {w W:World}{P:Nat}{zs:List Int}{n:Nat}(h:VecO w W P zs n){k:Nat}(hk:k < zs.length)(neg:Bool)(o:Option Addr)(l c:Nat){v:Value}{y:Int}{m:Nat}(hv:NumL W v y m):
  NumL ((W.setCell ⟨P,k * 2,none⟩ (.bool neg)).setCell ⟨P,k * 2+1,none⟩ (.slice o l c)) v y m:=by
 obtain⟨neg0,o0,l0,c0,k0,k1,-⟩:=h.at k hk
 have k1':(W.setCell ⟨P,k * 2,none⟩ (.bool neg)).cell? ⟨P,k * 2+1,none⟩=some (.slice o0 l0 c0):=(World.cell?_setCell_other (h:=fun e=>by simp at e) ..).trans k1
 exact(hv.setCell k0 (fun z e=>by cases e)).setCell k1' (fun z e=>by cases e)
theorem VecO.lay {w:World}{P n:Nat}:∀(ps:List (Nm × Int)) (k:Nat) (W:World) (zs:List Int),VecO w W P zs n→k+ps.length≤zs.length→(∀ p∈ps,NumL W (.agg #[.bool p.1.neg,.slice p.1.o p.1.l p.1.c]) p.2 n)→VecO w (W.setCells P (k * 2) (ps.flatMap pcells)) P (splice zs k (ps.map (·.2))) n
 | [],k,W,zs,h,_,_=>by simpa [splice,World.setCells] using h
 | p :: ps,k,W,zs,h,hk,hn=>by
  rw [List.length_cons] at hk
  have hset:=h.set (k:=k) (by omega) (hn p (by simp))
  have hrest:=VecO.lay ps (k+1) _ _ hset (by rw [List.length_set];omega) (fun q hq=>NumL.laid h (by omega) _ _ _ _ (hn q (by simp [hq])))
  rw [zjz _ _ _ _ (by omega),show(k+1) * 2=k * 2+1+1 by omega] at hrest
  exact hrest
end Go.Proofs.YtnkcjkpkphjecaaGreatDoor
/- Rows that are made one by one, in a list of one's own; rows twice as wide. -/
namespace Go.Proofs.YtnkcjkpkphjecaaGreatDoor
open Go.RowKit Limbs
structure RowsI (w W:World)(B:Nat)(m:Nat)(rows:List (List Int))(k N:Nat):Prop where
 low:Below w.heap.size w W
 high:w.heap.size≤B
 lt:B < W.heap.size
 blk:∃ cs t,W.heap[B]?=some (.cells cs t)
 nil:∀ i,k≤i→i < m→W.cell? ⟨B,i,none⟩=some (.slice none 0 0)
 row:∀ i,i < k→∃ Q,W.cell? ⟨B,i,none⟩=some (.slice (some ⟨Q,0,none⟩) (rows.getD i []).length (rows.getD i []).length)∧VecN W (.slice (some ⟨Q,0,none⟩) (rows.getD i []).length (rows.getD i []).length) (rows.getD i []) N∧Q < W.heap.size∧Q≠B
theorem zfk (m i:Nat)(hi:i < m):(madeCells #[.slice none 0 0] m)[i]?=some (.slice none 0 0):=by
 simp [madeCells,hi,Nat.mod_one]
theorem RowsI.start {w W0:World}(hb:Below w.heap.size w W0)(m:Nat)(rows:List (List Int))(N:Nat):RowsI w (W0.alloc (.cells (madeCells #[.slice none 0 0] m) 53)) W0.heap.size m rows 0 N:=by
 refine⟨hb.alloc hb.size _,hb.size,by simp,⟨_,_,heap_alloc_new W0 _⟩,fun i _ hi=>?_,fun i hi=>absurd hi (by omega)⟩
 rw [World.cell?_alloc_new]
 exact zfk m i hi
theorem RowsI.later {w W W':World}{B m:Nat}{rows:List (List Int)}{k N:Nat}(h:RowsI w W B m rows k N)(hb:Below W.heap.size W W'):RowsI w W' B m rows k N where
 low:=h.low.trans (hb.mono h.low.size)
 high:=h.high
 lt:=zT h.lt hb.size
 blk:=by obtain⟨cs,t,e⟩:=h.blk;exact⟨cs,t,(hb.block _ (zn e)).trans e⟩
 nil:=fun i h1 h2=>(hb.cell (p:=⟨B,i,none⟩) h.lt).trans (h.nil i h1 h2)
 row:=fun i hi=>by
  obtain⟨Q,e,hv,hq,hne⟩:=h.row i hi
  exact⟨Q,(hb.cell (p:=⟨B,i,none⟩) h.lt).trans e,hv.below hb zL,zT hq hb.size,hne⟩
theorem RowsI.thaw {w W:World}{B m:Nat}{rows:List (List Int)}{k N:Nat}(h:RowsI w W B m rows k N)(i:Nat):W.frozen? ⟨B,i,none⟩=false:=by
 obtain⟨cs,t,e⟩:=h.blk
 simp [World.frozen?,e]
theorem RowsI.step {w W W':World}{B m:Nat}{rows:List (List Int)}{k N:Nat}(h:RowsI w W B m rows k N)(hk:k < m)(hb:Below W.heap.size (W.setCell ⟨B,k,none⟩ (.slice (some ⟨W.heap.size,0,none⟩) (rows.getD k []).length (rows.getD k []).length)) W')
  (hlt:W.heap.size < W'.heap.size) (hv:VecN W' (.slice (some ⟨W.heap.size,0,none⟩) (rows.getD k []).length (rows.getD k []).length) (rows.getD k []) N):RowsI w W' B m rows (k+1) N:=by
 have hnil:=h.nil k zL hk
 have hu:∀ z,(Value.slice none 0 0)≠.int .u32 z:=fun z e=>by cases e
 have hlb:=h.lt
 refine⟨(h.low.setCell (p:=⟨B,k,none⟩) h.high _).trans (hb.mono h.low.size),h.high,by omega,?_,fun i h1 h2=>?_,fun i hi=>?_⟩
 ·obtain⟨cs,t,e⟩:=h.blk
  exact⟨_,t,(hb.block B hlb).trans (heap_setCell_same W B k _ _ _ e)⟩
 ·exact(hb.cell (p:=⟨B,i,none⟩) hlb).trans ((World.cell?_setCell_other (h:=fun e=>by simp at e <;> omega) ..).trans (h.nil i (by omega) h2))
 ·by_cases e:i=k
  ·subst e
   exact⟨_,(hb.cell (p:=⟨B,i,none⟩) hlb).trans (World.cell?_setCell_same (h:=hnil) ..),hv,hlt,by omega⟩
  ·obtain⟨Q',e',hv',hq',hne'⟩:=h.row i (by omega)
   have hv2:=hv'.other (x:=.slice (some ⟨W.heap.size,0,none⟩) (rows.getD k []).length (rows.getD k []).length) hne' hnil hu
   exact⟨Q',(hb.cell (p:=⟨B,i,none⟩) hlb).trans ((World.cell?_setCell_other (h:=fun e=>by simp at e <;> omega) ..).trans e'),hv2.below hb (by simp),by omega,hne'⟩
theorem RowsI.mat {w W:World}{B m:Nat}{rows:List (List Int)}{N:Nat}(h:RowsI w W B m rows m N)(hm:rows.length=m):MatN W (.slice (some ⟨B,0,none⟩) m m) rows N:=by
 subst hm
 refine⟨_,_,rfl,Nat.le_refl _,fun h0=>⟨_,_,rfl,h.lt,fun i zs hi=>?_⟩⟩
 obtain⟨hi',e⟩:=List.getElem?_eq_some_iff.1 hi
 obtain⟨Q,e1,hv,-,-⟩:=h.row i hi'
 rw [zk hi',e] at e1 hv
 exact⟨_,by rw [Nat.zero_add];exact e1,hv⟩
def besL (n:Nat)(hs os:List (List Int)):List (List Int):=List.zipWith (fun r o=>r ++(o ++ List.replicate (n - o.length) 0)) hs os
end Go.Proofs.YtnkcjkpkphjecaaGreatDoor
/- Rows that grow, in a list of one's own. -/
namespace Go.Proofs.YtnkcjkpkphjecaaGreatDoor
open Go.RowKit Limbs
def updN {α:Type}(f:Nat→α)(k:Nat)(x:α):Nat→α:=fun i=>if i=k then x else f i
theorem zaE {α:Type}(f:Nat→α)(k:Nat)(x:α):updN f k x k=x:=if_pos rfl
theorem zap {α:Type}(f:Nat→α)(k:Nat)(x:α){i:Nat}(h:i≠k):updN f k x i=f i:=if_neg h
structure OutG (w W:World)(O m:Nat)(vs:Nat→Value)(ps:Nat→List (Nm × Int))(N:Nat):Prop where
 low:Below w.heap.size w W
 high:w.heap.size≤O
 blk:∃ cs,W.heap[O]?=some (.cells cs 53)
 cell:∀ i,i < m→W.cell? ⟨O,i,none⟩=some (vs i)
 grow:∀ i,i < m→Grow W w.heap.size (vs i) (ps i) N
 two:∀ i k,i < m→k < m→i≠k→∀ g,(vs i).ownBlock=some g→(vs k).ownBlock≠some g
 lim:∀ i k,i < m→k < m→∀ p∈ps i,apart (vs k).ownBlock p.1.sl
theorem OutG.start {w W0:World}(hb:Below w.heap.size w W0)(m N:Nat):OutG w (W0.alloc (.cells (madeCells #[.slice none 0 0] m) 53)) W0.heap.size m (fun _=>.slice none 0 0) (fun _=>[]) N where
 low:=hb.alloc hb.size _
 high:=hb.size
 blk:=⟨_,heap_alloc_new W0 _⟩
 cell:=fun i hi=>by
  rw [World.cell?_alloc_new]
  exact zfk m i hi
 grow:=fun _ _=>Grow.nil _ _ _
 two:=fun _ _ _ _ _ g h=>by cases h
 lim:=fun _ _ _ _ p hp=>by cases hp
theorem OutG.lt {w W:World}{O m:Nat}{vs:Nat→Value}{ps:Nat→List (Nm × Int)}{N:Nat}(h:OutG w W O m vs ps N):O < W.heap.size:=by
 obtain⟨cs,e⟩:=h.blk
 exact zn e
theorem OutG.thaw {w W:World}{O m:Nat}{vs:Nat→Value}{ps:Nat→List (Nm × Int)}{N:Nat}(h:OutG w W O m vs ps N)(k:Nat):W.frozen? ⟨O,k,none⟩=false:=by
 obtain⟨cs,e⟩:=h.blk
 simp [World.frozen?,e]
theorem OutG.later {w W W':World}{O m:Nat}{vs:Nat→Value}{ps:Nat→List (Nm × Int)}{N:Nat}(h:OutG w W O m vs ps N)(hb:Below W.heap.size W W'):OutG w W' O m vs ps N where
 low:=h.low.trans (hb.mono h.low.size)
 high:=h.high
 blk:=by obtain⟨cs,e⟩:=h.blk;exact⟨cs,(hb.block _ (zn e)).trans e⟩
 cell:=fun i hi=>(hb.cell (p:=⟨O,i,none⟩) h.lt).trans (h.cell i hi)
 grow:=fun i hi=>(h.grow i hi).later hb
 two:=h.two
 lim:=h.lim
theorem OutG.own_ne {w W:World}{O m:Nat}{vs:Nat→Value}{ps:Nat→List (Nm × Int)}{N:Nat}(h:OutG w W O m vs ps N){i:Nat}(hi:i < m):some O≠(vs i).ownBlock:=fun e=>by
 obtain⟨cs,hO⟩:=h.blk
 rcases(h.grow i hi).1.2 with⟨e1,-⟩ |⟨g,cap,cur,e1,-,hh,-⟩
 ·rw [e1] at e;cases e
 ·rw [e1] at e
  simp only [Value.ownBlock,Option.some.injEq] at e
  rw [← e,hO] at hh
  simp only [Option.some.injEq,Obj.cells.injEq] at hh
  exact absurd hh.2.1 (by decide)
theorem zfq {W W':World}{base:Nat}{e:TypeId}{size:Nat}{v:Value}{n:Nat}{xs:List Value}(h:W.ownsRow base e size v n xs)(hk:∀ g,v.ownBlock=some g→W'.heap[g]?=W.heap[g]?):W'.ownsRow base e size v n xs:=by
 refine⟨h.1,?_⟩
 rcases h.2 with hn |⟨g,cap,cur,ev,hbg,hg,rest⟩
 ·exact .inl hn
 ·exact .inr ⟨g,cap,cur,ev,hbg,(hk g (by rw [ev];rfl)).trans hg,rest⟩
theorem zdq {W:World}{base n:Nat}{v:Value}{ps:List (Nm × Int)}(h:Grow W base v ps n){g:Nat}(hg:v.ownBlock=some g):g < W.heap.size:=(h.1.lt g hg).2
theorem OutG.push {w W W3:World}{O m:Nat}{vs:Nat→Value}{ps:Nat→List (Nm × Int)}{N:Nat}(h:OutG w W O m vs ps N){k:Nat}(hk:k < m)(qs:List (Nm × Int))(hq:∀ p∈qs,NumL W p.1.val p.2 N)(hqa:∀ i,i < m→∀ p∈qs,apart (vs i).ownBlock p.1.sl)
  {g L cap:Nat} (hL:L=(ps k).length+qs.length) (hown:W3.ownsRow w.heap.size 42 2 (.slice (some ⟨g,0,none⟩) L cap) L ((ps k).flatMap ncells ++ qs.flatMap ncells)) (hg:W.grownBy W3 (vs k).ownBlock) (hat:(vs k).ownBlock=some g∨W.heap.size≤g):
  OutG w (W3.setCell ⟨O,k,none⟩ (.slice (some ⟨g,0,none⟩) L cap)) O m (updN vs k (.slice (some ⟨g,0,none⟩) L cap)) (updN ps k (ps k ++ qs)) N:=by
 obtain⟨cs,hO⟩:=h.blk
 have hOlt:=h.lt
 have hO3:W3.heap[O]?=some (.cells cs 53):=(hg.block O hOlt (h.own_ne hk)).trans hO
 have hc3:∀ i,i < m→W3.cell? ⟨O,i,none⟩=some (vs i):=fun i hi=>hg.cell (h.cell i hi) (h.own_ne hk)
 have hgO:g≠O:=by
  intro e
  rcases hown.2 with⟨e1,-⟩ |⟨g',cap',cur,e1,-,hh,-⟩
  ·cases e1
  ·simp only [Value.slice.injEq,Option.some.injEq,Addr.mk.injEq,and_true] at e1
   rw [← e1.1,e,hO3] at hh
   simp only [Option.some.injEq,Obj.cells.injEq] at hh
   exact absurd hh.2.1 (by decide)
 have hslice:∃ o l c,vs k=.slice o l c:=by
  rcases(h.grow k hk).1.2 with⟨e1,-⟩ |⟨g',cap',cur,e1,-⟩
  ·exact⟨_,_,_,e1⟩
  ·exact⟨_,_,_,e1⟩
 have hu:∀ z,vs k≠.int .u32 z:=fun z e=>by
  obtain⟨o,l,c,e1⟩:=hslice
  rw [e1] at e;cases e
 have hnum:∀ p:Nm × Int,NumL W p.1.val p.2 N→apart (vs k).ownBlock p.1.sl→NumL (W3.setCell ⟨O,k,none⟩ (.slice (some ⟨g,0,none⟩) L cap)) p.1.val p.2 N:=fun p h1 h2=>(h1.grown hg h2).setCell (hc3 k hk) hu
 have hnew:∀ p:Nm × Int,NumL W p.1.val p.2 N→apart (vs k).ownBlock p.1.sl→apart (some g) p.1.sl:=fun p h1 h2 a l c e h0 hb=>by
  rcases hat with hat | hat
  ·exact h2 a l c e h0 (hb.trans hat.symm)
  ·have:=h1.inside a l c e h0
   simp only [Option.some.injEq] at hb
   omega
 have hall:∀ i,i < m→∀ p∈updN ps k (ps k ++ qs) i,NumL W p.1.val p.2 N∧∀ j,j < m→apart (vs j).ownBlock p.1.sl:=fun i hi p hp=>by
  by_cases e:i=k
  ·rw [e,zaE] at hp
   rcases List.mem_append.1 hp with hp | hp
   ·exact⟨((h.grow k hk).2 p hp).1,fun j hj=>h.lim k j hk hj p hp⟩
   ·exact⟨hq p hp,fun j hj=>hqa j hj p hp⟩
  ·rw [zap _ _ _ e] at hp
   exact⟨((h.grow i hi).2 p hp).1,fun j hj=>h.lim i j hi hj p hp⟩
 have hlim:∀ i j,i < m→j < m→∀ p∈updN ps k (ps k ++ qs) i,apart (updN vs k (.slice (some ⟨g,0,none⟩) L cap) j).ownBlock p.1.sl:=fun i j hi hj p hp=>by
  obtain⟨h1,h2⟩:=hall i hi p hp
  by_cases e:j=k
  ·rw [e,zaE];exact hnew p h1 (h2 k hk)
  ·rw [zap _ _ _ e];exact h2 j hj
 have hheap:∀ b,b≠O→(W3.setCell ⟨O,k,none⟩ (.slice (some ⟨g,0,none⟩) L cap)).heap[b]?=W3.heap[b]?:=fun b hb=>heap_setCell_other _ _ b _ (fun e=>hb e)
 have hb3:Below w.heap.size w W3:=h.low.grown hg h.low.size (fun b hb=>((h.grow k hk).1.lt b hb).1)
 refine⟨hb3.setCell (p:=⟨O,k,none⟩) h.high _,h.high,⟨_,heap_setCell_same W3 O k _ _ _ hO3⟩,fun i hi=>?_,fun i hi=>⟨?_,fun p hp=>⟨?_,hlim i i hi hi p hp⟩⟩,fun i j hi hj hij b h1 h2=>?_,hlim⟩
 ·by_cases e:i=k
  ·rw [e,zaE];exact World.cell?_setCell_same (h:=hc3 k hk) ..
  ·rw [zap _ _ _ e];exact(World.cell?_setCell_other (h:=fun e'=>by simp at e' <;> omega) ..).trans (hc3 i hi)
 ·by_cases e:i=k
  ·rw [e,zaE,zaE,List.length_append,← hL,List.flatMap_append]
   exact zfq hown fun b hb=>hheap b (by
    simp only [Value.ownBlock,Option.some.injEq] at hb
    omega)
  ·rw [zap _ _ _ e,zap _ _ _ e]
   refine zfq (h.grow i hi).1 fun b hb=>(hheap b fun e'=>h.own_ne hi (by rw [hb,e'])).trans ?_
   exact hg.block b (zdq (h.grow i hi) hb) fun e'=>h.two i k hi hk e b hb e'.symm
 ·obtain⟨h1,h2⟩:=hall i hi p hp
  exact hnum p h1 (h2 k hk)
 ·by_cases e:i=k
  ·rw [e,zaE] at h1
   have ej:j≠k:=by omega
   rw [zap _ _ _ ej] at h2
   simp only [Value.ownBlock,Option.some.injEq] at h1
   rcases hat with hat | hat
   ·exact h.two k j hk hj (by omega) b (by rw [hat,h1]) h2
   ·have:=zdq (h.grow j hj) h2
    omega
  ·rw [zap _ _ _ e] at h1
   by_cases ej:j=k
   ·rw [ej,zaE] at h2
    simp only [Value.ownBlock,Option.some.injEq] at h2
    rcases hat with hat | hat
    ·exact h.two k i hk hi (by omega) b (by rw [hat,h2]) h1
    ·have:=zdq (h.grow i hi) h1
     omega
   ·rw [zap _ _ _ ej] at h2
    exact h.two i j hi hj hij b h1 h2
theorem OutG.mat {w W:World}{O m:Nat}{vs:Nat→Value}{ps:Nat→List (Nm × Int)}{N:Nat}(h:OutG w W O m vs ps N)(zss:List (List Int))(hl:zss.length=m)(hz:∀ i,i < m→(ps i).map (·.2)=zss.getD i []):MatN W (.slice (some ⟨O,0,none⟩) m m) zss N:=by
 subst hl
 refine⟨_,_,rfl,Nat.le_refl _,fun h0=>⟨_,_,rfl,h.lt,fun i zs hi=>?_⟩⟩
 obtain⟨hi',e⟩:=List.getElem?_eq_some_iff.1 hi
 refine⟨vs i,by rw [Nat.zero_add];exact h.cell i hi',?_⟩
 have:=(h.grow i hi').vec
 rw [hz i hi',zk hi',e] at this
 exact this
theorem OutG.old {w W:World}{O m:Nat}{vs:Nat→Value}{ps:Nat→List (Nm × Int)}{N:Nat}(h:OutG w W O m vs ps N){r:Nm}{z:Int}{n:Nat}(hr:NumL w r.val z n){i:Nat}(hi:i < m):apart (vs i).ownBlock r.sl:=fun a l c e h0 hb=>by
 have h1:=hr.inside a l c e h0
 have h2:=((h.grow i hi).1.lt a.block hb.symm).1
 omega
end Go.Proofs.YtnkcjkpkphjecaaGreatDoor
