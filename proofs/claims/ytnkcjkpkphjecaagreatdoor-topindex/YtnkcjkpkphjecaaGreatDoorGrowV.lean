import Derived.Test.YtnkcjkpkphjecaaGreatDoorRegions
import Derived.Test.YtnkcjkpkphjecaaGreatDoorShift
import Derived.Deep.AppendLies
import Derived.OwnWalk
namespace Go.Proofs.YtnkcjkpkphjecaaGreatDoor
open Go
section
variable {P:Program}{ops:Array Oper}{Q:Exit→Act→World→Prop}{md:Region.Mode}{S:World→Prop}{k:Nat}
def wpUpto (P:Program)(md:Region.Mode)(ops:Array Oper)(Q:Exit→Act→World→Prop)(S:World→Prop)(k:Nat):Nat→Array Bool→Act→World→Prop
 | 0=>fun listed a w=>Region.ready md ops listed=[]∧Q .normal a w
 | fuel+1=>fun listed a w=>(Region.ready md ops listed=[]→Q .normal a w) ∧
   ∀ j,j∈Region.ready md ops listed→wpOp P ops Q j (fun a' w'=>(j < k→S w')∧wpUpto P md ops Q S k fuel (listed.setIfInBounds j true) a' w') a w
theorem zg5 (fuel:Nat):∀(listed:Array Bool) (a:Act) (w:World),wpUpto P md ops Q S k fuel listed a w→wpAny P md ops Q fuel listed a w:=by
 induction fuel with
 | zero=>exact fun _ _ _ h=>h
 | succ fuel ih=>exact fun _ _ _ h=>⟨h.1,fun j hj=>wpOp_mono (fun a' w' h'=>ih _ a' w' h'.2) (h.2 j hj)⟩
def waits (md:Region.Mode)(ops:Array Oper)(k i:Nat)(ds:List Nat):Bool:=
 ((List.range ops.size).all fun j=>decide (j < k) || ds.contains j) &&
  ds.all fun j=>match ops[j]? with
   | some o=>o.after.any fun e=>Region.binds md e && (e.on == i || ds.contains e.on)
   | none=>true
theorem zk9 {i:Nat}{ds:List Nat}(h:waits md ops k i ds=true):
  (∀ j o,ops[j]?=some o→j ∉ ds→j < k)∧∀ j,j∈ds→∀ o,ops[j]?=some o→∃ e∈o.after,Region.binds md e=true∧(e.on=i∨e.on∈ds):=by
 simp only [waits,Bool.and_eq_true,List.all_eq_true] at h
 refine⟨fun j o hj hn=>?_,fun j hj o ho=>?_⟩
 ·have h1:=h.1 j (List.mem_range.2 (Array.getElem?_eq_some_iff.1 hj).1)
  simp only [Bool.or_eq_true,decide_eq_true_eq,List.contains_iff_mem] at h1
  exact h1.resolve_right hn
 ·have h2:=h.2 j hj
  rw [ho] at h2
  obtain⟨e,he,hb⟩:=Array.any_eq_true'.1 h2
  simp only [Bool.and_eq_true,Bool.or_eq_true,beq_iff_eq,List.contains_iff_mem] at hb
  exact⟨e,he,hb.1,hb.2⟩
theorem zk7 {i:Nat}{oi:Oper}{v:Value}(hi:ops[i]?=some oi)(hsel:∀(j:Nat) (o:Oper) cs b,ops[j]?=some o→o.op≠.select cs b)
  (hQ:∀ c a w,Q (.panic c) (a.put oi.dst v) w→Q (.panic c) a w) (ds:List Nat) (hw:waits md ops k i ds=true) (fuel:Nat):
  ∀(listed:Array Bool) (a:Act) (w:World),
   (∀ j oj,ops[j]?=some oj→j≠i→listed.getD j true=false→(∀ e∈oj.after,Region.binds md e=true→e.on≠i)→oi.apart ops oj=true) →
   i∈Region.ready md ops listed→(∀ j∈ds,listed.getD j false=false)→YieldsIf P ops S oi v a→S w →
   wpUpto P md ops Q S k fuel (listed.setIfInBounds i true) (a.put oi.dst v) w→wpUpto P md ops Q S k (fuel+1) listed a w:=by
 obtain⟨hlow,hds⟩:=zk9 hw
 induction fuel with
 | zero=>
  intro listed a w _ hr _ hy hS H
  refine⟨fun h0=>absurd hr (by rw [h0];exact List.not_mem_nil),fun j hj=>?_⟩
  by_cases e:j=i
  ·subst e;exact hy.wpOp hi hS ⟨fun _=>hS,H⟩
  ·have:=ready_mono hj e
   rw [H.1] at this
   cases this
 | succ fuel ih=>
  intro listed a w hfree hr hun hy hS H
  refine⟨fun h0=>absurd hr (by rw [h0];exact List.not_mem_nil),fun j hj=>?_⟩
  by_cases e:j=i
  ·subst e;exact hy.wpOp hi hS ⟨fun _=>hS,H⟩
  ·obtain⟨hj0,oj,hoj,hall⟩:=mem_ready.1 hj
   have hi0:=(mem_ready.1 hr).1
   have hi1:listed.getD i false=true→False:=fun h=>by
    by_cases hl:i < listed.size
    ·simp [hl] at hi0 h;rw [hi0] at h;cases h
    ·simp [Array.getElem?_eq_none (Nat.le_of_not_lt hl)] at h
   have hnd:j ∉ ds:=fun hd=>by
    obtain⟨ed,hed,hbd,hon⟩:=hds j hd oj hoj
    have h1:=hall ed hed hbd
    rcases hon with hon | hon
    ·rw [hon] at h1;exact hi1 h1
    ·rw [hun _ hon] at h1;cases h1
   have hnot:∀ ed∈oj.after,Region.binds md ed=true→ed.on≠i:=fun ed hed hbd heq=>hi1 (by have:=hall ed hed hbd;rwa [heq] at this)
   have h2:=wpOp_putIf hoj (hfree j oj hoj e hj0 hnot) (fun cs b=>hsel i oi cs b hi) (fun cs b=>hsel j oj cs b hoj) hQ hy (H.2 j (ready_mono hj e))
   refine wpOp_mono (fun a' w' h3=>?_) h2
   have hS':=h3.2.1 (hlow j oj hoj hnd)
   refine⟨h3.2.1,ih (listed.setIfInBounds j true) a' w' (fun m om hm hmi hmu hmn=>?_) (ready_mono hr (Ne.symm e)) (fun d hd=>?_) h3.1 hS' ?_⟩
   ·refine hfree m om hm hmi ?_ hmn
    by_cases ejm:j=m
    ·subst ejm;exact hj0
    ·rwa [getD_set_ne true ejm] at hmu
   ·rw [getD_set_ne (i:=j) (j:=d) false (fun e'=>hnd (by rw [e'];exact hd))]
    exact hun d hd
   ·rw [Array.setIfInBounds_comm _ _ e]
    exact h3.2.2
theorem zc (i d:Nat)(ds:List Nat){oi:Oper}{v:Value}{fuel:Nat}{listed:Array Bool}{a:Act}{w:World}(hi:ops[i]?=some oi)(hd:oi.dst=some d)
  (hs:Region.noSelect ops=true) (hf:Region.free md ops listed i=true) (hr:(Region.ready md ops listed).contains i=true) (hw:waits md ops k i ds=true) (hu:(ds.all fun j=>!listed.getD j false)=true)
  (hQ:∀ c a w,Q (.panic c) (a.put (some d) v) w→Q (.panic c) a w) (hwt:Region.wanted oi (yielded ops a.tmps)=true) (hy:∀ w,S w→(execOp a.eval oi).run P w=.ok (.value v) w) (hS:S w)
  (h:wpUpto P md ops Q S k fuel (listed.setIfInBounds i true) (a.put (some d) v) w):wpUpto P md ops Q S k (fuel+1) listed a w:=
 zk7 hi (Region.noSelect_spec hs) (by rw [hd];exact hQ) ds hw fuel listed a w (Region.free_spec hi hf) (by simpa using hr)
  (fun j hj=>by simpa using List.all_eq_true.1 hu j hj) (.inl ⟨hwt,hy⟩) hS (by rw [hd];exact h)
theorem zf (i:Nat){o:Oper}{fuel:Nat}{listed:Array Bool}{a:Act}{w:World}(hr:Region.ready md ops listed=[i])(ho:ops[i]?=some o)
  (h:∀ K':Act→World→Prop,Shut (∀ a w,(i < k→S w)→wpUpto P md ops Q S k fuel (listed.setIfInBounds i true) a w→K' a w)→if Region.wanted o (yielded ops a.tmps)=true then Oper.wp P o a w K' Q else K' (a.put o.dst undef) w):
  wpUpto P md ops Q S k (fuel+1) listed a w:=by
 refine⟨fun h0=>absurd (hr.symm.trans h0) (by simp),fun j hj=>?_⟩
 rw [hr] at hj
 obtain rfl:j=i:=by simpa using hj
 exact wpOp_step ho (fun K' hK=>h K' (fun a w hS hW=>hK a w ⟨hS,hW⟩))
theorem zl {fuel:Nat}{listed:Array Bool}{a:Act}{w:World}(hr:Region.ready md ops listed=[])(h:Q .normal a w):wpUpto P md ops Q S k fuel listed a w:=by
 cases fuel with
 | zero=>exact⟨hr,h⟩
 | succ fuel=>exact⟨fun _=>h,fun j hj=>by rw [hr] at hj;cases hj⟩
theorem zp {id:Nat}{a:Act}{w:World}(hm:P.follows .mixedOrders=true)(hS:S w.drew)
  (h:S w.drew→wpUpto P .any ops Q S k ops.size (Array.replicate ops.size false) a w.drew):(Code.region id ops true).wp P Q a w:=
 wp_region_any hm (zg5 _ _ _ _ (h hS))
theorem zik (l:List Nat)(p q:Nat→Bool)(hpq:∀ x,q x=true→p x=true){i:Nat}(hi:i∈l)(hp:p i=true)(hq:q i=false):(l.filter q).length < (l.filter p).length:=by
 induction l with
 | nil=>cases hi
 | cons x xs ih=>
  have hle:(xs.filter q).length≤(xs.filter p).length:=by
   clear ih hi
   induction xs with
   | nil=>exact Nat.le_refl _
   | cons y ys ih=>
    simp only [List.filter_cons]
    cases hq':q y
    ·cases p y <;> simp <;> omega
    ·simp [hpq y hq'];omega
  simp only [List.filter_cons]
  rcases List.mem_cons.1 hi with rfl | hi
  ·rw [hp,hq];simp;omega
  ·have:=ih hi
   cases hq':q x
   ·cases p x <;> simp <;> omega
   ·simp [hpq x hq'];omega
def ordered (md:Region.Mode)(ops:Array Oper):Bool:=
 (List.range ops.size).all fun j=>match ops[j]? with
  | some o=>o.after.all fun e=>!Region.binds md e || decide (e.on < j)
  | none=>true
theorem zjB (h:ordered md ops=true){j:Nat}{o:Oper}(hj:ops[j]?=some o){e:Edge}(he:e∈o.after)(hb:Region.binds md e=true):e.on < j:=by
 have h1:=List.all_eq_true.1 h j (List.mem_range.2 (Array.getElem?_eq_some_iff.1 hj).1)
 simp only [hj] at h1
 have h2:=(Array.all_eq_true_iff_forall_mem.1 h1) e he
 simpa [hb] using h2
theorem zeu (ho:ordered md ops=true){listed:Array Bool}(hs:listed.size=ops.size)(h0:Region.ready md ops listed=[]):∀ i,i < ops.size→listed.getD i false=true:=by
 intro i
 induction i using Nat.strongRecOn with
 | _ i ih=>
  intro hi
  cases hc:listed.getD i false with
  | true=>rfl
  | false=>
   have hl:i < listed.size:=by omega
   have hm:i∈Region.ready md ops listed:=by
    refine mem_ready.2 ⟨?_,ops[i],by simp [hi],fun e he hb=>?_⟩
    ·simp [hl] at hc ⊢;exact hc
    ·have hlt:=zjB (j:=i) ho (by simp [hi]) he hb
     exact ih _ hlt (by omega)
   rw [h0] at hm
   cases hm
theorem zg3 (ho:ordered md ops=true)(I:Array Bool→Act→World→Prop)
  (step:∀(L:Array Bool) (a:Act) (w:World) (i:Nat) (o:Oper),I L a w→ops[i]?=some o→L.getD i true=false→(∀ e∈o.after,Region.binds md e=true→L.getD e.on false=true) →
   ∀ K':Act→World→Prop,Shut (∀ a' w',I (L.setIfInBounds i true) a' w'→K' a' w')→if Region.wanted o (yielded ops a.tmps)=true then Oper.wp P o a w K' Q else K' (a.put o.dst undef) w)
  (fin:∀(L:Array Bool) (a:Act) (w:World),I L a w→(∀ i,i < ops.size→L.getD i false=true)→Q .normal a w) (fuel:Nat):
  ∀(L:Array Bool) (a:Act) (w:World),L.size=ops.size→((List.range ops.size).filter fun i=>!L.getD i true).length≤fuel→I L a w→wpAny P md ops Q fuel L a w:=by
 induction fuel with
 | zero=>
  intro L a w hs hf hI
  have h0:Region.ready md ops L=[]:=by
   cases hr:Region.ready md ops L with
   | nil=>rfl
   | cons x xs=>
    have hx:x∈Region.ready md ops L:=by rw [hr];simp
    obtain⟨h1,o,h2,-⟩:=mem_ready.1 hx
    have hm:x∈(List.range ops.size).filter fun i=>!L.getD i true:=List.mem_filter.2 ⟨List.mem_range.2 (Array.getElem?_eq_some_iff.1 h2).1,by simp only [h1];rfl⟩
    have:=List.length_pos_of_mem hm
    omega
  exact⟨h0,fin L a w hI (zeu ho hs h0)⟩
 | succ fuel ih=>
  intro L a w hs hf hI
  refine⟨fun h0=>fin L a w hI (zeu ho hs h0),fun i hi=>?_⟩
  obtain⟨h1,o,h2,h3⟩:=mem_ready.1 hi
  refine wpOp_step h2 fun K' hK=>step L a w i o hI h2 h1 h3 K' (fun a' w' hI'=>hK a' w' (ih _ a' w' (by simpa using hs) ?_ hI'))
  have hil:i < L.size:=by rw [hs];exact(Array.getElem?_eq_some_iff.1 h2).1
  have hlt:=zik (List.range ops.size) (fun j=>!L.getD j true) (fun j=>!(L.setIfInBounds i true).getD j true) (fun x hx=>by
   by_cases e:i=x
   ·subst e;simp [hil] at hx
   ·rwa [getD_set_ne true e] at hx) (List.mem_range.2 (Array.getElem?_eq_some_iff.1 h2).1) (by simp only [h1];rfl) (by simp [hil])
  omega
theorem zan {id:Nat}{a:Act}{w:World}(hm:P.follows .mixedOrders=true)(ho:ordered .any ops=true)(I:Array Bool→Act→World→Prop)
  (start:I (Array.replicate ops.size false) a w.drew)
  (step:∀(L:Array Bool) (a:Act) (w:World) (i:Nat) (o:Oper),I L a w→ops[i]?=some o→L.getD i true=false→(∀ e∈o.after,Region.binds .any e=true→L.getD e.on false=true) →
   ∀ K':Act→World→Prop,Shut (∀ a' w',I (L.setIfInBounds i true) a' w'→K' a' w')→if Region.wanted o (yielded ops a.tmps)=true then Oper.wp P o a w K' Q else K' (a.put o.dst undef) w)
  (fin:∀(L:Array Bool) (a:Act) (w:World),I L a w→(∀ i,i < ops.size→L.getD i false=true)→Q .normal a w):(Code.region id ops true).wp P Q a w:=
 wp_region_any hm (zg3 ho I step fin _ _ _ _ (by simp) (Nat.le_trans (List.length_filter_le _ _) (by simp)) start)
end
end Go.Proofs.YtnkcjkpkphjecaaGreatDoor
/- The greatest that goes into both: what lies where while it is reckoned. -/
namespace Go.Proofs.YtnkcjkpkphjecaaGreatDoor
open Go.RowKit Limbs
structure Nm where
 neg:Bool
 o:Option Addr
 l:Nat
 c:Nat
theorem NumL.nm {w:World}{v:Value}{z:Int}{n:Nat}(h:NumL w v z n):∃ r:Nm,v=.agg #[.bool r.neg,.slice r.o r.l r.c]:=by
 obtain⟨neg,s,zs,rfl,hl,-⟩:=h
 obtain⟨ao,cap,rfl,-⟩:=hl
 exact⟨⟨neg,ao,zs.length,cap⟩,rfl⟩
structure Var (W:World)(B:Nat)(r:Nm)(z:Int):Prop where
 box:Box W B (.bool r.neg) (.slice r.o r.l r.c)
 num:NumL W (.agg #[.bool r.neg,.slice r.o r.l r.c]) z 12
 lt:B < W.heap.size
theorem Var.later {W W':World}{B:Nat}{r:Nm}{z:Int}(h:Var W B r z)(hb:Below W.heap.size W W'):Var W' B r z:=⟨h.box.later hb h.lt,h.num.below hb zL,zT h.lt hb.size⟩
theorem Var.drew {W:World}{B:Nat}{r:Nm}{z:Int}(h:Var W B r z):Var W.drew B r z:=⟨h.box,h.num,h.lt⟩
theorem NumL.wrote {W:World}{B:Nat}{u0 u1 v0 v1 v:Value}{z:Int}{n:Nat}(h:NumL W v z n)(hb:Box W B u0 u1)(h0:∀ z,u0≠.int .u32 z)(h1:∀ z,u1≠.int .u32 z):NumL ((W.setCell ⟨B,0,none⟩ v0).setCell ⟨B,1,none⟩ v1) v z n:=
 (h.setCell hb.1 h0).setCell (p:=⟨B,1,none⟩) (u:=u1) ((World.cell?_setCell_other (h:=fun e=>by simp at e) ..).trans hb.2.1) h1
theorem Var.other {W:World}{B C:Nat}{r s:Nm}{z y:Int}(h:Var W B r z)(hc:Var W C s y)(hne:B≠C)(v0 v1:Value):Var ((W.setCell ⟨C,0,none⟩ v0).setCell ⟨C,1,none⟩ v1) B r z:=
 ⟨(h.box.other hne _ _).other hne _ _,h.num.wrote hc.box (by simp) (by simp),by simpa using h.lt⟩
theorem Var.write {W:World}{C:Nat}{s r:Nm}{y z:Int}(hc:Var W C s y)(hn:NumL W (.agg #[.bool r.neg,.slice r.o r.l r.c]) z 12):Var ((W.setCell ⟨C,0,none⟩ (.bool r.neg)).setCell ⟨C,1,none⟩ (.slice r.o r.l r.c)) C r z:=
 ⟨hc.box.write _ _,hn.wrote hc.box (by simp) (by simp),by simpa using hc.lt⟩
theorem NumL.drewed {W:World}{v:Value}{z:Int}{n:Nat}(h:NumL W v z n):NumL W.drew v z n:=h
theorem zha {B:Nat}{w W:World}(h:Below B w W):Below B w W.drew:=h.drew
structure VarQ (W:World)(B:Nat)(r:Nm)(z:Int):Prop where
 box:Box W B (.bool r.neg) (.slice r.o r.l r.c)
 num:NumL W (.agg #[.bool r.neg,.slice r.o r.l r.c]) z 13
 lt:B < W.heap.size
theorem VarQ.later {W W':World}{B:Nat}{r:Nm}{z:Int}(h:VarQ W B r z)(hb:Below W.heap.size W W'):VarQ W' B r z:=⟨h.box.later hb h.lt,h.num.below hb zL,zT h.lt hb.size⟩
theorem VarQ.drew {W:World}{B:Nat}{r:Nm}{z:Int}(h:VarQ W B r z):VarQ W.drew B r z:=⟨h.box,h.num,h.lt⟩
theorem VarQ.other {W:World}{B C:Nat}{r s:Nm}{z y:Int}(h:VarQ W B r z)(hc:Var W C s y)(hne:B≠C)(v0 v1:Value):VarQ ((W.setCell ⟨C,0,none⟩ v0).setCell ⟨C,1,none⟩ v1) B r z:=
 ⟨(h.box.other hne _ _).other hne _ _,h.num.wrote hc.box (by simp) (by simp),by simpa using h.lt⟩
structure GSt (w W:World)(G X Y H U V:Nat)(rg rx ry rh ru rv:Nm)(g h x u y v:Int):Prop where
 g:Var W G rg g
 x:Var W X rx x
 y:Var W Y ry y
 h:Var W H rh h
 u:Var W U ru u
 v:Var W V rv v
 below:Below w.heap.size w W
theorem GSt.later {w W W':World}{G X Y H U V:Nat}{rg rx ry rh ru rv:Nm}{g h x u y v:Int}(s:GSt w W G X Y H U V rg rx ry rh ru rv g h x u y v)(hb:Below W.heap.size W W'):GSt w W' G X Y H U V rg rx ry rh ru rv g h x u y v:=
 ⟨s.g.later hb,s.x.later hb,s.y.later hb,s.h.later hb,s.u.later hb,s.v.later hb,s.below.trans (hb.mono s.below.size)⟩
theorem GSt.drew {w W:World}{G X Y H U V:Nat}{rg rx ry rh ru rv:Nm}{g h x u y v:Int}(s:GSt w W G X Y H U V rg rx ry rh ru rv g h x u y v):GSt w W.drew G X Y H U V rg rx ry rh ru rv g h x u y v:=
 ⟨s.g.drew,s.x.drew,s.y.drew,s.h.drew,s.u.drew,s.v.drew,s.below.drew⟩
structure Blocks (w:World)(G X Y H U V:Nat):Prop where
 g:w.heap.size≤G
 gx:G < X
 xy:X < Y
 yh:Y < H
 yu:Y < U
 yv:Y < V
 hu:H≠U
 hv:H≠V
 uv:U≠V
theorem GSt.gh {w W:World}{G X Y H U V:Nat}{rg rx ry rh ru rv r r':Nm}{g h x u y v z z':Int}(s:GSt w W G X Y H U V rg rx ry rh ru rv g h x u y v)(b:Blocks w G X Y H U V)
  (hn:NumL W (.agg #[.bool r.neg,.slice r.o r.l r.c]) z 12) (hn':NumL W (.agg #[.bool r'.neg,.slice r'.o r'.l r'.c]) z' 12):
  GSt w ((((W.setCell ⟨G,0,none⟩ (.bool r.neg)).setCell ⟨G,1,none⟩ (.slice r.o r.l r.c)).setCell ⟨H,0,none⟩ (.bool r'.neg)).setCell ⟨H,1,none⟩ (.slice r'.o r'.l r'.c)) G X Y H U V r rx ry r' ru rv z z' x u y v:=by
 obtain⟨b1,b2,b3,b4,b5,b6,b7,b8,b9⟩:=b
 have hh:=s.h.other s.g (by omega) (.bool r.neg) (.slice r.o r.l r.c)
 have hg:=s.g.write hn
 exact⟨hg.other hh (by omega) _ _,(s.x.other s.g (by omega) _ _).other hh (by omega) _ _,(s.y.other s.g (by omega) _ _).other hh (by omega) _ _,hh.write (hn'.wrote s.g.box (by simp) (by simp)),(s.u.other s.g (by omega) _ _).other hh (by omega) _ _,(s.v.other s.g (by omega) _ _).other hh (by omega) _ _,
  (((s.below.setCell (by simp;omega) _).setCell (by simp;omega) _).setCell (by simp;omega) _).setCell (by simp;omega) _⟩
theorem GSt.xu {w W:World}{G X Y H U V:Nat}{rg rx ry rh ru rv r r':Nm}{g h x u y v z z':Int}(s:GSt w W G X Y H U V rg rx ry rh ru rv g h x u y v)(b:Blocks w G X Y H U V)
  (hn:NumL W (.agg #[.bool r.neg,.slice r.o r.l r.c]) z 12) (hn':NumL W (.agg #[.bool r'.neg,.slice r'.o r'.l r'.c]) z' 12):
  GSt w ((((W.setCell ⟨X,0,none⟩ (.bool r.neg)).setCell ⟨X,1,none⟩ (.slice r.o r.l r.c)).setCell ⟨U,0,none⟩ (.bool r'.neg)).setCell ⟨U,1,none⟩ (.slice r'.o r'.l r'.c)) G X Y H U V rg r ry rh r' rv g h z z' y v:=by
 obtain⟨b1,b2,b3,b4,b5,b6,b7,b8,b9⟩:=b
 have hu:=s.u.other s.x (by omega) (.bool r.neg) (.slice r.o r.l r.c)
 have hx:=s.x.write hn
 exact⟨(s.g.other s.x (by omega) _ _).other hu (by omega) _ _,hx.other hu (by omega) _ _,(s.y.other s.x (by omega) _ _).other hu (by omega) _ _,(s.h.other s.x (by omega) _ _).other hu (by omega) _ _,hu.write (hn'.wrote s.x.box (by simp) (by simp)),(s.v.other s.x (by omega) _ _).other hu (by omega) _ _,
  (((s.below.setCell (by simp;omega) _).setCell (by simp;omega) _).setCell (by simp;omega) _).setCell (by simp;omega) _⟩
theorem GSt.yv {w W:World}{G X Y H U V:Nat}{rg rx ry rh ru rv r r':Nm}{g h x u y v z z':Int}(s:GSt w W G X Y H U V rg rx ry rh ru rv g h x u y v)(b:Blocks w G X Y H U V)
  (hn:NumL W (.agg #[.bool r.neg,.slice r.o r.l r.c]) z 12) (hn':NumL W (.agg #[.bool r'.neg,.slice r'.o r'.l r'.c]) z' 12):
  GSt w ((((W.setCell ⟨Y,0,none⟩ (.bool r.neg)).setCell ⟨Y,1,none⟩ (.slice r.o r.l r.c)).setCell ⟨V,0,none⟩ (.bool r'.neg)).setCell ⟨V,1,none⟩ (.slice r'.o r'.l r'.c)) G X Y H U V rg rx r rh ru r' g h x u z z':=by
 obtain⟨b1,b2,b3,b4,b5,b6,b7,b8,b9⟩:=b
 have hv:=s.v.other s.y (by omega) (.bool r.neg) (.slice r.o r.l r.c)
 have hy:=s.y.write hn
 exact⟨(s.g.other s.y (by omega) _ _).other hv (by omega) _ _,(s.x.other s.y (by omega) _ _).other hv (by omega) _ _,hy.other hv (by omega) _ _,(s.h.other s.y (by omega) _ _).other hv (by omega) _ _,(s.u.other s.y (by omega) _ _).other hv (by omega) _ _,hv.write (hn'.wrote s.y.box (by simp) (by simp)),
  (((s.below.setCell (by simp;omega) _).setCell (by simp;omega) _).setCell (by simp;omega) _).setCell (by simp;omega) _⟩
def GcdPost (w:World)(a b:Int)(e:Ending)(w':World):Prop:=
 ∃ vg vx vy g x y,e=.returned (.tuple #[vg,vx,vy])∧NumL w' vg g 12∧NumL w' vx x 12∧NumL w' vy y 12∧g=x * a+y * b∧0≤g∧(∃ p,a=p * g)∧(∃ p,b=p * g)∧Below w.heap.size w w'
end Go.Proofs.YtnkcjkpkphjecaaGreatDoor
/- A vector that grows at its end; texts that do. -/
namespace Go.Proofs.YtnkcjkpkphjecaaGreatDoor
open Go.RowKit Limbs
def apart (og:Option Nat)(s:Value):Prop:=∀ a l c,s=.slice (some a) l c→0 < l→some a.block≠og
theorem Lim.grown {W W':World}{row:Option Nat}{s:Value}{zs:List Int}(h:Lim W s zs)(hg:W.grownBy W' row)(hne:apart row s):Lim W' s zs:=by
 obtain⟨ao,cap,rfl,h1,h2,h3,h4⟩:=h
 refine⟨ao,cap,rfl,h1,h2,h3,fun h0=>?_⟩
 obtain⟨b,off,rfl,hlt,hc⟩:=h4 h0
 have hb:=hne _ _ _ rfl h0
 exact⟨b,off,rfl,zT hlt hg.size,fun i hi=>hg.cell (hc i hi) hb⟩
def Nm.val (r:Nm):Value:=.agg #[.bool r.neg,.slice r.o r.l r.c]
def Nm.sl (r:Nm):Value:=.slice r.o r.l r.c
def ncells (p:Nm × Int):List Value:=[.bool p.1.neg,.slice p.1.o p.1.l p.1.c]
theorem NumL.grown {W W':World}{row:Option Nat}{r:Nm}{z:Int}{n:Nat}(h:NumL W r.val z n)(hg:W.grownBy W' row)(hne:apart row r.sl):NumL W' r.val z n:=by
 obtain⟨neg,s,zs,e,hl,h3⟩:=h
 simp only [Nm.val,Value.agg.injEq,Array.mk.injEq,List.cons.injEq,Value.bool.injEq,and_true] at e
 obtain⟨rfl,rfl⟩:=e
 exact⟨_,_,zs,rfl,hl.grown hg hne,h3⟩
theorem NumL.inside {W:World}{r:Nm}{z:Int}{n:Nat}(h:NumL W r.val z n):∀ a l c,r.sl=.slice (some a) l c→0 < l→a.block < W.heap.size:=fun a l c e h0=>by
 obtain⟨neg,s,zs,e1,hl,-⟩:=h
 simp only [Nm.val,Value.agg.injEq,Array.mk.injEq,List.cons.injEq,Value.bool.injEq,and_true] at e1
 obtain⟨rfl,rfl⟩:=e1
 obtain⟨ao,cap,e2,-,-,-,h4⟩:=hl
 unfold Nm.sl at e
 rw [e] at e2
 simp only [Value.slice.injEq] at e2
 obtain⟨rfl,rfl,rfl⟩:=e2
 obtain⟨b,off,e3,hlt,-⟩:=h4 h0
 simp only [Option.some.injEq] at e3
 rw [e3]
 exact hlt
def Grow (W:World)(base:Nat)(v:Value)(ps:List (Nm × Int))(n:Nat):Prop:=
 W.ownsRow base 42 2 v ps.length (ps.flatMap ncells)∧∀ p∈ps,NumL W p.1.val p.2 n∧apart v.ownBlock p.1.sl
theorem Grow.nil (W:World)(base n:Nat):Grow W base (.slice none 0 0) [] n:=⟨World.ownsRow_nil _ _ _ _,fun _ h=>by cases h⟩
theorem Grow.later {W W':World}{base:Nat}{v:Value}{ps:List (Nm × Int)}{n:Nat}(h:Grow W base v ps n)(hb:Below W.heap.size W W'):Grow W' base v ps n:=by
 refine⟨?_,fun p hp=>⟨(h.2 p hp).1.below hb zL,(h.2 p hp).2⟩⟩
 refine⟨h.1.1,?_⟩
 rcases h.1.2 with hn |⟨g,cap,cur,e,hbg,hh,rest⟩
 ·exact .inl hn
 ·exact .inr ⟨g,cap,cur,e,hbg,(hb.block _ (zn hh)).trans hh,rest⟩
theorem ziD {base:Nat}{wr w3:World}{v:Value}{ps:List (Nm × Int)}{n:Nat}{r:Nm}{z:Int}{g cap:Nat}{ob:Obj}(h:Grow wr base v ps n)(hz:NumL wr r.val z n)(ha:apart v.ownBlock r.sl)
  (hown:w3.ownsRow base 42 2 (.slice (some ⟨g,0,none⟩) (ps.length+1) cap) (ps.length+1) (ps.flatMap ncells ++ ncells (r,z)))
  (hg:(wr.alloc ob).grownBy w3 v.ownBlock) (hat:v.ownBlock=some g∨g=wr.heap.size+1):Grow w3 base (.slice (some ⟨g,0,none⟩) (ps.length+1) cap) (ps ++ [(r,z)]) n:=by
 refine⟨by rw [List.length_append,List.length_singleton,List.flatMap_append,List.flatMap_singleton];exact hown,fun p hp=>?_⟩
 have key:∀ p:Nm × Int,NumL wr p.1.val p.2 n→apart v.ownBlock p.1.sl→NumL w3 p.1.val p.2 n∧apart (some g) p.1.sl:=fun p h1 h2=>by
  refine⟨(h1.below ((Below.refl _ _).alloc zL ob) zL).grown hg h2,fun a l c e h0 hb=>?_⟩
  rcases hat with h | h
  ·exact h2 a l c e h0 (hb.trans h.symm)
  ·have:=h1.inside a l c e h0
   simp only [Option.some.injEq] at hb
   omega
 rcases List.mem_append.1 hp with h' | h'
 ·exact key p (h.2 p h').1 (h.2 p h').2
 ·rw [List.mem_singleton] at h'
  rw [h']
  exact key (r,z) hz ha
theorem ziB {base:Nat}{wr w3:World}{v:Value}{ps:List (Nm × Int)}{n:Nat}{ob:Obj}(h:Grow wr base v ps n)(hB:base≤wr.heap.size)(hg:(wr.alloc ob).grownBy w3 v.ownBlock):Below base wr w3:=
 ((Below.refl _ _).alloc hB _).grown hg (by simp;omega) (fun k hk=>(h.1.lt k hk).1)
theorem zfz (ps:List (Nm × Int)):∀ i (h:i < ps.length),(ps.flatMap ncells)[i * 2]?=some (.bool ps[i].1.neg)∧(ps.flatMap ncells)[i * 2+1]?=some (.slice ps[i].1.o ps[i].1.l ps[i].1.c):=by
 induction ps with
 | nil=>intro i h;exact absurd h (by simp)
 | cons p ps ih=>
  intro i h
  rw [List.flatMap_cons]
  cases i with
  | zero=>exact⟨rfl,rfl⟩
  | succ i=>
   obtain⟨h1,h2⟩:=ih i (by simpa using h)
   have e1:(i+1) * 2=i * 2+2:=by omega
   rw [e1,show i * 2+2+1=i * 2+1+2 by omega,List.getElem?_append_right (by simp [ncells]),List.getElem?_append_right (by simp [ncells])]
   exact⟨h1,h2⟩
theorem Grow.vec {W:World}{base:Nat}{v:Value}{ps:List (Nm × Int)}{n:Nat}(h:Grow W base v ps n):VecN W v (ps.map (·.2)) n:=by
 obtain⟨⟨-,h1⟩,h2⟩:=h
 have hlen:(ps.map (·.2)).length=ps.length:=List.length_map ..
 rcases h1 with⟨rfl,hn⟩ |⟨g,cap,cur,rfl,hb,hh,hc1,hc2,hc3,hc4⟩
 ·exact⟨none,0,by rw [hlen,hn],by rw [hlen];omega,fun h0=>absurd h0 (by rw [hlen];omega)⟩
 ·refine⟨_,cap,by rw [hlen],by rw [hlen];exact hc1,fun h0=>⟨g,0,rfl,zn hh,fun i hi=>?_⟩⟩
  rw [hlen] at hi
  obtain⟨e1,e2⟩:=zfz ps i hi
  have hcell:∀ k u,k < ps.length * 2→(ps.flatMap ncells)[k]?=some u→W.cell? ⟨g,0+k,none⟩=some u:=fun k u hk hu=>by
   have:=World.news_of_block hh k u (by rw [← hc4,List.getElem?_take,if_pos hk] at hu;exact hu)
   have e:(⟨g,0,none⟩:Addr).add k=⟨g,0+k,none⟩:=by unfold Addr.add;split <;> simp_all
   rwa [e] at this
  refine⟨ps[i].1.neg,ps[i].1.o,ps[i].1.l,ps[i].1.c,hcell _ _ (by omega) e1,hcell _ _ (by omega) e2,?_⟩
  have e3:(ps.map (·.2)).getD i 0=ps[i].2:=by
   rw [List.getD_eq_getElem?_getD,List.getElem?_map,List.getElem?_eq_getElem hi];rfl
  rw [e3]
  exact(h2 _ (List.getElem_mem hi)).1
end Go.Proofs.YtnkcjkpkphjecaaGreatDoor
/- Rows of vectors. -/
namespace Go.Proofs.YtnkcjkpkphjecaaGreatDoor
open Go.RowKit Limbs
theorem Tryz.infoVec:(Tryz.prog.info? 53).map (fun i=>(i.zero,i.size,i.bytes))=some (some (.slice none 0 0),1,24):=by kernel_rfl
theorem zcI {W W':World}{base:Nat}{e:TypeId}{size:Nat}{v:Value}{n:Nat}{xs:List Value}(h:W.ownsRow base e size v n xs)(hb:Below W.heap.size W W'):W'.ownsRow base e size v n xs:=by
 refine⟨h.1,?_⟩
 rcases h.2 with hn |⟨g,cap,cur,e,hbg,hh,rest⟩
 ·exact .inl hn
 ·exact .inr ⟨g,cap,cur,e,hbg,(hb.block _ (zn hh)).trans hh,rest⟩
theorem zbo {base:Nat}{wr w3:World}{e:TypeId}{size:Nat}{v:Value}{n:Nat}{xs:List Value}{ob:Obj}(h:wr.ownsRow base e size v n xs)(hB:base≤wr.heap.size)(hg:(wr.alloc ob).grownBy w3 v.ownBlock):Below base wr w3:=
 ((Below.refl _ _).alloc hB _).grown hg (by simp;omega) (fun k hk=>(h.lt k hk).1)
def MatN (w:World)(v:Value)(zss:List (List Int))(n:Nat):Prop:=
 ∃ ao cap,v=.slice ao zss.length cap∧zss.length≤cap∧(0 < zss.length→∃ b off,ao=some ⟨b,off,none⟩∧b < w.heap.size∧∀ i zs,zss[i]?=some zs→∃ u,w.cell? ⟨b,off+i,none⟩=some u∧VecN w u zs n)
theorem MatN.below {B:Nat}{w w':World}{v:Value}{zss:List (List Int)}{n:Nat}(h:MatN w v zss n)(hb:Below B w w')(hB:w.heap.size≤B):MatN w' v zss n:=by
 obtain⟨ao,cap,hv,h1,h2⟩:=h
 refine⟨ao,cap,hv,h1,fun h0=>?_⟩
 obtain⟨b,off,e,hlt,hc⟩:=h2 h0
 refine⟨b,off,e,zT hlt hb.size,fun i zs hi=>?_⟩
 obtain⟨u,h3,h4⟩:=hc i zs hi
 exact⟨u,(hb.cell (p:=⟨b,off+i,none⟩) (zT hlt hB)).trans h3,h4.below hb hB⟩
theorem MatN.at {W:World}{v:Value}{zss:List (List Int)}{n:Nat}(h:MatN W v zss n)(i:Nat)(hi:i < zss.length):∃ b off cap,v=.slice (some ⟨b,off,none⟩) zss.length cap∧b < W.heap.size∧∃ u,W.cell? ⟨b,off+i,none⟩=some u∧VecN W u zss[i] n:=by
 obtain⟨ao,cap,rfl,-,h2⟩:=h
 obtain⟨b,off,rfl,hlt,hc⟩:=h2 (by omega)
 obtain⟨u,h3,h4⟩:=hc i zss[i] (by simp [hi])
 exact⟨b,off,cap,rfl,hlt,u,h3,h4⟩
theorem zfu {W:World}{base:Nat}{v:Value}{qs:List (Value × List Int)}{n:Nat}(h:W.ownsRow base 53 1 v qs.length (qs.map (·.1)))(h2:∀ q∈qs,VecN W q.1 q.2 n):MatN W v (qs.map (·.2)) n:=by
 obtain⟨-,h1⟩:=h
 have hlen:(qs.map (·.2)).length=qs.length:=List.length_map ..
 rcases h1 with⟨rfl,hn⟩ |⟨g,cap,cur,rfl,hb,hh,hc1,hc2,hc3,hc4⟩
 ·exact⟨none,0,by rw [hlen,hn],by rw [hlen];omega,fun h0=>absurd h0 (by rw [hlen];omega)⟩
 ·refine⟨_,cap,by rw [hlen],by rw [hlen];exact hc1,fun h0=>⟨g,0,rfl,zn hh,fun i zs hi=>?_⟩⟩
  obtain⟨hi',e⟩:=List.getElem?_eq_some_iff.1 hi
  rw [hlen] at hi'
  have e':zs=qs[i].2:=by rw [← e,List.getElem_map]
  have:=World.news_of_block hh i qs[i].1 (by
   have e:(qs.map (·.1))[i]?=some qs[i].1:=by rw [List.getElem?_map,List.getElem?_eq_getElem hi'];rfl
   rw [← hc4,List.getElem?_take,if_pos (by omega)] at e
   exact e)
  have ea:(⟨g,0,none⟩:Addr).add i=⟨g,i,none⟩:=by unfold Addr.add;split <;> simp_all
  rw [ea] at this
  exact⟨_,by rw [Nat.zero_add];exact this,by rw [e'];exact h2 _ (List.getElem_mem hi')⟩
end Go.Proofs.YtnkcjkpkphjecaaGreatDoor
/- Rows of vectors that grow at their end. Their own block holds slices alone: so no number lies in it, and what is appended changes no vector. -/
namespace Go.Proofs.YtnkcjkpkphjecaaGreatDoor
open Go.RowKit Limbs
def AllSl (W:World)(row:Option Nat):Prop:=∀ g,row=some g→∃ cur t fz,W.heap[g]?=some (.cells cur t fz)∧∀ u,u∈cur.toList→∃ o l c,u=.slice o l c
theorem zet (W:World):AllSl W none:=fun _ h=>by cases h
theorem AllSl.cell {W:World}{g:Nat}(h:AllSl W (some g)){k:Nat}{u:Value}(hc:W.cell? ⟨g,k,none⟩=some u):∃ o l c,u=.slice o l c:=by
 obtain⟨cur,t,fz,hh,hs⟩:=h g rfl
 rw [cell_of_row W g k cur t fz hh] at hc
 refine hs u ?_
 obtain⟨hk,e⟩:=Array.getElem?_eq_some_iff.1 hc
 rw [← e]
 exact Array.getElem_mem_toList hk
theorem AllSl.later {W W':World}{row:Option Nat}(h:AllSl W row)(hb:Below W.heap.size W W'):AllSl W' row:=fun g hg=>by
 obtain⟨cur,t,fz,hh,hs⟩:=h g hg
 exact⟨cur,t,fz,(hb.block _ (zn hh)).trans hh,hs⟩
theorem Lim.grownS {W W':World}{row:Option Nat}{s:Value}{zs:List Int}(h:Lim W s zs)(hg:W.grownBy W' row)(hr:AllSl W row):Lim W' s zs:=by
 obtain⟨ao,cap,rfl,h1,h2,h3,h4⟩:=h
 refine⟨ao,cap,rfl,h1,h2,h3,fun h0=>?_⟩
 obtain⟨b,off,e,hlt,hc⟩:=h4 h0
 have hne:some b≠row:=fun e'=>by
  subst e'
  obtain⟨o,l,c,e⟩:=hr.cell (hc 0 h0)
  cases e
 exact⟨b,off,e,zT hlt hg.size,fun i hi=>hg.cell (hc i hi) hne⟩
theorem NumL.grownS {W W':World}{row:Option Nat}{v:Value}{z:Int}{n:Nat}(h:NumL W v z n)(hg:W.grownBy W' row)(hr:AllSl W row):NumL W' v z n:=by
 obtain⟨neg,s,zs,h1,h2,h3⟩:=h
 exact⟨neg,s,zs,h1,h2.grownS hg hr,h3⟩
theorem VecN.grownS {W W':World}{row:Option Nat}{v:Value}{zs:List Int}{n:Nat}(h:VecN W v zs n)(hg:W.grownBy W' row)(hr:AllSl W row):VecN W' v zs n:=by
 obtain⟨ao,cap,hv,h1,h2⟩:=h
 refine⟨ao,cap,hv,h1,fun h0=>?_⟩
 obtain⟨b,off,e,hlt,hc⟩:=h2 h0
 have hne:some b≠row:=fun e'=>by
  subst e'
  obtain⟨neg,_,_,_,h3,-⟩:=hc 0 h0
  obtain⟨o,l,c,e⟩:=hr.cell h3
  cases e
 refine⟨b,off,e,zT hlt hg.size,fun i hi=>?_⟩
 obtain⟨neg,o,l,c,h3,h4,h5⟩:=hc i hi
 exact⟨neg,o,l,c,hg.cell h3 hne,hg.cell h4 hne,h5.grownS hg hr⟩
theorem zed (n:Nat):∀ u,u∈(Builtin.zeroCells (Value.cells (.slice none 0 0)) n).toList→∃ o l c,u=.slice o l c:=fun u hu=>by
 simp only [Builtin.zeroCells,Array.toList_map,List.mem_map] at hu
 obtain⟨i,-,rfl⟩:=hu
 exact⟨none,0,0,by
  have:i % (Value.cells (.slice none 0 0)).size=0:=by simp [Value.cells,Nat.mod_one]
  rw [this];rfl⟩
theorem zga {P:Program}(w:World)(t ty:TypeId)(base:Nat)(e:TypeId)(i:TypeInfo)(ht:P.underlying t=some (.slice e))(hi:P.info? e=some i)(hz:i.zero=some (.slice none 0 0))
  (hsize:i.size=1) (v:Value) (n:Nat) (xs:List Value) (hown:w.ownsRow base e 1 v n xs) (hall:AllSl w v.ownBlock)
  (ad:Addr) (o:Option Addr) (l c cc:Nat) (hnews:∀ j u,[Value.slice o l c][j]?=some u→w.cell? (ad.add j)=some u)
  (h63:n+1≤maxLen) (hbytes:(n+1) * i.bytes≤140737488355328) (g cap:Nat) (w':World)
  (hr:(Builtin.append_ #[t,t] ty #[v,.slice (some ad) 1 cc]).run P w=.ok (.slice (some ⟨g,0,none⟩) (n+1) cap) w'):AllSl w' (some g):=by
 have hx:∀ u,u∈xs→∃ o l c,u=.slice o l c:=by
  rcases hown.2 with⟨rfl,rfl⟩ |⟨g',cap',cur,rfl,hbg,hg,hnc,hcm,hcs,htake⟩
  ·have:xs=[]:=List.eq_nil_of_length_eq_zero (by simpa using hown.1)
   rw [this]
   exact fun _ h=>by cases h
  ·intro u hu
   obtain⟨cur',t',fz',hh,hs⟩:=hall g' rfl
   rw [hg] at hh
   simp only [Option.some.injEq,Obj.cells.injEq] at hh
   obtain⟨rfl,-,-⟩:=hh
   rw [← htake] at hu
   exact hs u (List.mem_of_mem_take hu)
 have hmake:∀(k:Nat) (ys:List Value),(∀ u,u∈ys→∃ o l c,u=.slice o l c)→AllSl (w.drew.alloc (.cells (ys.toArray ++ Builtin.zeroCells (Value.cells (.slice none 0 0)) k) e)) (some w.heap.size):=fun k ys hy g0 hg0=>by
  simp only [Option.some.injEq] at hg0
  subst hg0
  refine⟨_,_,_,heap_alloc_new w.drew _,fun u hu=>?_⟩
  rw [Array.toList_append,List.mem_append] at hu
  rcases hu with hu | hu
  ·exact hy u (by simpa using hu)
  ·exact zed k u hu
 have hsl:∀ u,u∈[Value.slice o l c]→∃ o l c,u=.slice o l c:=fun u hu=>by
  rw [List.mem_singleton] at hu
  exact⟨o,l,c,hu⟩
 have h1c:∀ u∈[Value.slice o l c],u.oneCell'=true:=fun u hu=>by
  rw [List.mem_singleton] at hu
  rw [hu];rfl
 have hsmall:n+1≤9223372036854775807:=by simp only [maxLen] at h63;omega
 rcases hown.2 with⟨rfl,rfl⟩ |⟨g',cap',cur,rfl,hbg,hg,hnc,hcm,hcs,htake⟩
 ·have hr':=run_append_nil (P:=P) w t ty e i (.slice none 0 0) ht hi hz ad 1 cc [Value.slice o l c] (by rw [hsize];rfl) hnews (by decide) (by decide) (by simp only [Nat.zero_add] at hbytes;omega)
  rw [hr'] at hr
  simp only [Result.ok.injEq,Value.slice.injEq,Option.some.injEq,Addr.mk.injEq,and_true] at hr
  obtain⟨⟨rfl,-⟩,rfl⟩:=hr
  exact hmake _ _ hsl
 ·by_cases hroom:n+1≤cap'
  ·have hr':=run_append_room (P:=P) w t ty e i ht hi g' n cap' cur hg ad 1 cc [Value.slice o l c] (by rw [hsize];rfl) hnews h1c hroom (by rw [hsize,hcs];simp;omega)
   rw [hr'] at hr
   simp only [Result.ok.injEq,Value.slice.injEq,Option.some.injEq,Addr.mk.injEq,and_true,true_and] at hr
   obtain⟨⟨rfl,-⟩,rfl⟩:=hr
   intro g0 hg0
   simp only [Option.some.injEq] at hg0
   subst hg0
   refine⟨_,_,_,setRow_heap w g' cur _ e _ hg,fun u hu=>?_⟩
   obtain⟨cur',t',fz',hh,hs⟩:=hall g' rfl
   rw [hg] at hh
   simp only [Option.some.injEq,Obj.cells.injEq] at hh
   obtain⟨rfl,-,-⟩:=hh
   simp only [List.mem_append] at hu
   rcases hu with(hu | hu) | hu
   ·exact hs u (List.mem_of_mem_take hu)
   ·exact hsl u hu
   ·exact hs u (List.mem_of_mem_drop hu)
  ·have holds:∀ j u,xs[j]?=some u→w.cell? ((⟨g',0,none⟩:Addr).add j)=some u:=hown.cells (g:=g') rfl
   have hr':=run_append_grow (P:=P) w t ty e i (.slice none 0 0) ht hi hz ⟨g',0,none⟩ n cap' xs (by rw [hsize];exact hown.1) holds ad 1 cc [Value.slice o l c] (by rw [hsize];rfl) hnews (by omega) (by omega) (growslice_fits (by omega) hbytes)
   rw [hr'] at hr
   simp only [Result.ok.injEq,Value.slice.injEq,Option.some.injEq,Addr.mk.injEq,and_true,true_and] at hr
   obtain⟨⟨rfl,-⟩,rfl⟩:=hr
   have:=hmake (grownCap w (n+1) cap' e - (n+1)) (xs ++ [Value.slice o l c]) (fun u hu=>by
    rcases List.mem_append.1 hu with h | h
    ·exact hx u h
    ·exact hsl u h)
   rwa [← List.append_toArray] at this
theorem zla {P:Program}{w:World}{ops:Array Oper}{rest:List Oper}{op:Oper}{a:Act}{Q:Exit→Act→World→Prop}(hgd:op.guard=none)(s x:Operand)(t:TypeId)
  (ho:op.op=.call { callee:=.builtin .append,args:=#[s,x],argTypes:=#[t,t] })
  (base:Nat) (e:TypeId) (i:TypeInfo) (bytes:Nat) (ht:P.underlying t=some (.slice e)) (hi:P.info? e=some i) (hz:i.zero=some (.slice none 0 0))
  (hsize:i.size=1) (hby:i.bytes=bytes) (v:Value) (n:Nat) (xs:List Value) (hs:a.eval s=v) (hown:w.ownsRow base e 1 v n xs) (hall:AllSl w v.ownBlock)
  (ad:Addr) (cc:Nat) (o:Option Addr) (l c:Nat) (hx:a.eval x=.slice (some ad) 1 cc) (hnews:∀ j u,[Value.slice o l c][j]?=some u→w.cell? (ad.add j)=some u)
  (h63:n+1≤maxLen) (hbytes:(n+1) * bytes≤140737488355328) (hbase:base≤w.heap.size)
  (h:∀ g cap w',w'.ownsRow base e 1 (.slice (some ⟨g,0,none⟩) (n+1) cap) (n+1) (xs ++ [.slice o l c])→w.grownBy w' v.ownBlock→AllSl w' (some g)→wpList P ops Q rest (a.put op.dst (.slice (some ⟨g,0,none⟩) (n+1) cap)) w'):wpList P ops Q (op :: rest) a w:=by
 refine wpList_plain hgd fun K hK=>?_
 subst hby
 obtain⟨g,cap,w',hr,h2,h3,h4,h5⟩:=run_append_lies (P:=P) w t op.type base e i (.slice none 0 0) 1 i.bytes ht hi hz hsize rfl rfl (by decide) v n xs hown ad 1 cc [.slice o l c] rfl hnews (fun u hu=>by rw [List.mem_singleton] at hu;rw [hu];rfl) (by decide) h63 hbytes hbase _ rfl
 have hA:=zga w t op.type base e i ht hi hz hsize v n xs hown hall ad o l c cc hnews h63 hbytes g cap w' hr
 unfold Oper.wp execOp
 simp only [ho,resolve,invoke,builtin,Sem.run_bind,Sem.run_pure,Result.andThen_ok,List.map_toArray,List.map_cons,List.map_nil,hs,hx,hr]
 exact hK _ _ (h g cap w' h2 h3 hA)
structure GrowV (W:World)(base:Nat)(v:Value)(qs:List (Value × List Int))(n:Nat):Prop where
 own:W.ownsRow base 53 1 v qs.length (qs.map (·.1))
 all:AllSl W v.ownBlock
 vec:∀ q∈qs,VecN W q.1 q.2 n
theorem GrowV.nil (W:World)(base n:Nat):GrowV W base (.slice none 0 0) [] n:=⟨World.ownsRow_nil _ _ _ _,zet _,fun _ h=>by cases h⟩
theorem GrowV.later {W W':World}{base:Nat}{v:Value}{qs:List (Value × List Int)}{n:Nat}(h:GrowV W base v qs n)(hb:Below W.heap.size W W'):GrowV W' base v qs n:=
 ⟨zcI h.own hb,h.all.later hb,fun p hp=>(h.vec p hp).below hb zL⟩
theorem GrowV.mono {W:World}{base:Nat}{v:Value}{qs:List (Value × List Int)}{n m:Nat}(h:GrowV W base v qs n)(hm:n≤m):GrowV W base v qs m:=
 ⟨h.own,h.all,fun p hp=>(h.vec p hp).mono hm⟩
theorem ziA {base:Nat}{W w':World}{v:Value}{qs:List (Value × List Int)}{n:Nat}{o:Option Addr}{l c:Nat}{zs:List Int}{g cap:Nat}(h:GrowV W base v qs n)(hz:VecN W (.slice o l c) zs n)
  (hown:w'.ownsRow base 53 1 (.slice (some ⟨g,0,none⟩) (qs.length+1) cap) (qs.length+1) (qs.map (·.1) ++ [.slice o l c]))
  (hg:W.grownBy w' v.ownBlock) (hA:AllSl w' (some g)):GrowV w' base (.slice (some ⟨g,0,none⟩) (qs.length+1) cap) (qs ++ [(.slice o l c,zs)]) n:=by
 refine⟨by rw [List.length_append,List.length_singleton,List.map_append];exact hown,hA,fun p hp=>?_⟩
 rcases List.mem_append.1 hp with h' | h'
 ·exact(h.vec p h').grownS hg h.all
 ·rw [List.mem_singleton] at h'
  rw [h']
  exact hz.grownS hg h.all
theorem GrowV.mat {W:World}{base:Nat}{v:Value}{qs:List (Value × List Int)}{n:Nat}(h:GrowV W base v qs n):MatN W v (qs.map (·.2)) n:=zfu h.own h.vec
theorem ziE {base:Nat}{W w':World}{v:Value}{qs:List (Value × List Int)}{n:Nat}(h:GrowV W base v qs n)(hB:base≤W.heap.size)(hg:W.grownBy w' v.ownBlock):Below base W w':=
 (Below.refl _ _).grown hg hB (fun k hk=>(h.own.lt k hk).1)
end Go.Proofs.YtnkcjkpkphjecaaGreatDoor
