import Derived.Test.YtncamilanceahaaGreatRegions
namespace Go.Proofs.YtncamilanceahaaGreat
open Go
variable{W w W':World}{z y g h x u z':Int}{B G X Y H U V fuel i n C id:Nat}{v:Value}
section
variable {P:Program}{ops:Array Oper}{Q:Exit→Act→World→Prop}{md:Region.Mode}{S:World→Prop}{k:Nat}
def wpUpto (P:Program)(md:Region.Mode)(ops:Array Oper)(Q:Exit→Act→World→Prop)(S:World→Prop)(k:Nat):Nat→Array Bool→Act→World→Prop
 | 0=>fun listed a w=>Region.ready md ops listed=[]∧Q .normal a w
 | fuel+1=>fun listed a w=>(Region.ready md ops listed=[]→Q .normal a w) ∧
   ∀ j,j∈Region.ready md ops listed→wpOp P ops Q j (fun a' w'=>(j<k→S w')∧wpUpto P md ops Q S k fuel (listed.setIfInBounds j true) a' w') a w
theorem zfZ (fuel:Nat):∀(listed:Array Bool) (a:Act) (w:World),wpUpto P md ops Q S k fuel listed a w→wpAny P md ops Q fuel listed a w:=by
 induction fuel with
 | zero=>exact fun _ _ _ h=>h
 | succ fuel ih=>exact fun _ _ _ h=>⟨h.1,fun j hj=>wpOp_mono (fun a' w' h'=>ih _ a' w' h'.2) (h.2 j hj)⟩
def waits (md:Region.Mode)(ops:Array Oper)(k i:Nat)(ds:List Nat):Bool:=
 ((List.range ops.size).all fun j=>decide (j<k) || ds.contains j) &&
  ds.all fun j=>match ops[j]? with
   | some o=>o.after.any fun e=>Region.binds md e && (e.on==i || ds.contains e.on)
   | none=>true
theorem zj4{ds:List Nat}(h:waits md ops k i ds=true):
  (∀ j o,ops[j]?=some o→j ∉ ds→j<k)∧∀ j,j∈ds→∀ o,ops[j]?=some o→∃ e∈o.after,Region.binds md e=true∧(e.on=i∨e.on∈ds):=by
 simp only [waits,Bool.and_eq_true,List.all_eq_true] at h;refine⟨fun j o hj hn=>?_,fun j hj o ho=>?_⟩
 ·have h1:=h.1 j (List.mem_range.2 (Array.getElem?_eq_some_iff.1 hj).1);simp only [Bool.or_eq_true,decide_eq_true_eq,List.contains_iff_mem] at h1;exact h1.resolve_right hn
 ·have h2:=h.2 j hj;rw [ho] at h2;obtain⟨e,he,hb⟩:=Array.any_eq_true'.1 h2;simp only [Bool.and_eq_true,Bool.or_eq_true,beq_iff_eq,List.contains_iff_mem] at hb;exact⟨e,he,hb.1,hb.2⟩
theorem zj1{oi:Oper}(hi:ops[i]?=some oi)(hsel:∀(j:Nat) (o:Oper) cs b,ops[j]?=some o→o.op≠.select cs b)
  (hQ:∀ c a w,Q (.panic c) (a.put oi.dst v) w→Q (.panic c) a w) (ds:List Nat) (hw:waits md ops k i ds=true) (fuel:Nat):
  ∀(listed:Array Bool) (a:Act) (w:World),
   (∀ j oj,ops[j]?=some oj→j≠i→listed.getD j true=false→(∀ e∈oj.after,Region.binds md e=true→e.on≠i)→oi.apart ops oj=true) →
   i∈Region.ready md ops listed→(∀ j∈ds,listed.getD j false=false)→YieldsIf P ops S oi v a→S w →
   wpUpto P md ops Q S k fuel (listed.setIfInBounds i true) (a.put oi.dst v) w→wpUpto P md ops Q S k (fuel+1) listed a w:=by
 obtain⟨hlow,hds⟩:=zj4 hw
 induction fuel with
 | zero=>
  intro listed a w _ hr _ hy hS H;refine⟨fun h0=>absurd hr (by rw [h0];exact List.not_mem_nil),fun j hj=>?_⟩;by_cases e:j=i
  ·subst e;exact hy.wpOp hi hS ⟨fun _=>hS,H⟩
  ·have:=ready_mono hj e;rw [H.1] at this;cases this
 | succ fuel ih=>
  intro listed a w hfree hr hun hy hS H;refine⟨fun h0=>absurd hr (by rw [h0];exact List.not_mem_nil),fun j hj=>?_⟩;by_cases e:j=i
  ·subst e;exact hy.wpOp hi hS ⟨fun _=>hS,H⟩
  ·obtain⟨hj0,oj,hoj,hall⟩:=mem_ready.1 hj;have hi0:=(mem_ready.1 hr).1;have hi1:listed.getD i false=true→False:=fun h=>by
    by_cases hl:i<listed.size
    ·simp [hl] at hi0 h;rw [hi0] at h;cases h
    ·simp [Array.getElem?_eq_none (Nat.le_of_not_lt hl)] at h
   have hnd:j ∉ ds:=fun hd=>by
    obtain⟨ed,hed,hbd,hon⟩:=hds j hd oj hoj;have h1:=hall ed hed hbd;rcases hon with hon | hon
    ·rw [hon] at h1;exact hi1 h1
    ·rw [hun _ hon] at h1;cases h1
   have hnot:∀ ed∈oj.after,Region.binds md ed=true→ed.on≠i:=fun ed hed hbd heq=>hi1 (by have:=hall ed hed hbd;rwa [heq] at this);have h2:=wpOp_putIf hoj (hfree j oj hoj e hj0 hnot) (fun cs b=>hsel i oi cs b hi) (fun cs b=>hsel j oj cs b hoj) hQ hy (H.2 j (ready_mono hj e));refine wpOp_mono (fun a' w' h3=>?_) h2;have hS':=h3.2.1 (hlow j oj hoj hnd);refine⟨h3.2.1,ih (listed.setIfInBounds j true) a' w' (fun m om hm hmi hmu hmn=>?_) (ready_mono hr (Ne.symm e)) (fun d hd=>?_) h3.1 hS' ?_⟩
   ·refine hfree m om hm hmi ?_ hmn;by_cases ejm:j=m
    ·subst ejm;exact hj0
    ·rwa [getD_set_ne true ejm] at hmu
   ·rw [getD_set_ne (i:=j) (j:=d) false (fun e'=>hnd (by rw [e'];exact hd))];exact hun d hd
   ·rw [Array.setIfInBounds_comm _ _ e];exact h3.2.2
theorem zj2 (i d:Nat)(ds:List Nat){oi:Oper}{listed:Array Bool}{a:Act}(hi:ops[i]?=some oi)(hd:oi.dst=some d)
  (hs:Region.noSelect ops=true) (hf:Region.free md ops listed i=true) (hr:(Region.ready md ops listed).contains i=true) (hw:waits md ops k i ds=true) (hu:(ds.all fun j=>!listed.getD j false)=true)
  (hQ:∀ c a w,Q (.panic c) (a.put (some d) v) w→Q (.panic c) a w) (hwt:Region.wanted oi (yielded ops a.tmps)=true) (hy:∀ w,S w→(execOp a.eval oi).run P w=.ok (.value v) w) (hS:S w)
  (h:wpUpto P md ops Q S k fuel (listed.setIfInBounds i true) (a.put (some d) v) w):wpUpto P md ops Q S k (fuel+1) listed a w:=
 zj1 hi (Region.noSelect_spec hs) (by rw [hd];exact hQ) ds hw fuel listed a w (Region.free_spec hi hf) (by simpa using hr)
  (fun j hj=>by simpa using List.all_eq_true.1 hu j hj) (.inl ⟨hwt,hy⟩) hS (by rw [hd];exact h)
theorem zf (i d:Nat)(ds:List Nat){oi:Oper}{listed:Array Bool}{a:Act}(h:wpUpto P md ops Q S k fuel (listed.setIfInBounds i true) (a.put (some d) v) w)(hi:ops[i]?=some oi:=by rfl)(hd:oi.dst=some d:=by rfl)(hs:Region.noSelect ops=true:=by kernel_rfl)(hf:Region.free md ops listed i=true:=by kernel_rfl)(hr:(Region.ready md ops listed).contains i=true:=by kernel_rfl)(hw:waits md ops k i ds=true:=by kernel_rfl)(hu:(ds.all fun j=>!listed.getD j false)=true:=by kernel_rfl)(hQ:∀ c a w,Q (.panic c) (a.put (some d) v) w→Q (.panic c) a w:=by exact fun _ _ _ h=>h)(hwt:Region.wanted oi (yielded ops a.tmps)=true:=by rfl)(hy:∀ w,S w→(execOp a.eval oi).run P w=.ok (.value v) w:=by intro w hSw;(try dsimp only at hSw);go_simp;with_reducible rfl)(hS:S w:=by assumption):wpUpto P md ops Q S k (fuel+1) listed a w:=zj2 i d ds hi hd hs hf hr hw hu hQ hwt hy hS h
theorem zg (i:Nat){o:Oper}{listed:Array Bool}{a:Act}(hr:Region.ready md ops listed=[i])(ho:ops[i]?=some o)
  (h:∀ K':Act→World→Prop,Shut (∀ a w,(i<k→S w)→wpUpto P md ops Q S k fuel (listed.setIfInBounds i true) a w→K' a w)→if Region.wanted o (yielded ops a.tmps)=true then Oper.wp P o a w K' Q else K' (a.put o.dst undef) w):
  wpUpto P md ops Q S k (fuel+1) listed a w:=by
 refine⟨fun h0=>absurd (hr.symm.trans h0) (by simp),fun j hj=>?_⟩;rw [hr] at hj;obtain rfl:j=i:=by simpa using hj
 exact wpOp_step ho (fun K' hK=>h K' (fun a w hS hW=>hK a w ⟨hS,hW⟩))
theorem zx{listed:Array Bool}{a:Act}(hr:Region.ready md ops listed=[])(h:Q .normal a w):wpUpto P md ops Q S k fuel listed a w:=by
 cases fuel with
 | zero=>exact⟨hr,h⟩
 | succ fuel=>exact⟨fun _=>h,fun j hj=>by rw [hr] at hj;cases hj⟩
theorem zy{a:Act}(hm:P.follows .mixedOrders=true)(hS:S w.drew)
  (h:S w.drew→wpUpto P .any ops Q S k ops.size (Array.replicate ops.size false) a w.drew):(Code.region id ops true).wp P Q a w:=
 wp_region_any hm (zfZ _ _ _ _ (h hS))
theorem zhw (l:List Nat)(p q:Nat→Bool)(hpq:∀ x,q x=true→p x=true)(hi:i∈l)(hp:p i=true)(hq:q i=false):(l.filter q).length<(l.filter p).length:=by
 induction l with
 | nil=>cases hi
 | cons x xs ih=>
  have hle:(xs.filter q).length≤(xs.filter p).length:=by
   clear ih hi
   induction xs with
   | nil=>exact Nat.le_refl _
   | cons y ys ih=>
    simp only [List.filter_cons];cases hq':q y
    ·cases p y <;> simp <;> omega
    ·simp [hpq y hq'];omega
  simp only [List.filter_cons];rcases List.mem_cons.1 hi with rfl | hi
  ·rw [hp,hq];simp;omega
  ·have:=ih hi;cases hq':q x
   ·cases p x <;> simp <;> omega
   ·simp [hpq x hq'];omega
def ordered (md:Region.Mode)(ops:Array Oper):Bool:=
 (List.range ops.size).all fun j=>match ops[j]? with
  | some o=>o.after.all fun e=>!Region.binds md e || decide (e.on<j)
  | none=>true
theorem ziM (h:ordered md ops=true){j:Nat}{o:Oper}(hj:ops[j]?=some o){e:Edge}(he:e∈o.after)(hb:Region.binds md e=true):e.on<j:=by
 have h1:=List.all_eq_true.1 h j (List.mem_range.2 (Array.getElem?_eq_some_iff.1 hj).1);simp only [hj] at h1;have h2:=(Array.all_eq_true_iff_forall_mem.1 h1) e he;simpa [hb] using h2
theorem zdW (ho:ordered md ops=true){listed:Array Bool}(hs:listed.size=ops.size)(h0:Region.ready md ops listed=[]):∀ i,i<ops.size→listed.getD i false=true:=by
 intro i
 induction i using Nat.strongRecOn with
 | _ i ih=>
  intro hi;cases hc:listed.getD i false with
  | true=>rfl
  | false=>
   have hl:i<listed.size:=by omega
   have hm:i∈Region.ready md ops listed:=by
    refine mem_ready.2 ⟨?_,ops[i],by simp [hi],fun e he hb=>?_⟩
    ·simp [hl] at hc ⊢;exact hc
    ·have hlt:=ziM (j:=i) ho (by simp [hi]) he hb;exact ih _ hlt (by omega)
   rw [h0] at hm;cases hm
theorem zfX (ho:ordered md ops=true)(I:Array Bool→Act→World→Prop)
  (step:∀(L:Array Bool) (a:Act) (w:World) (i:Nat) (o:Oper),I L a w→ops[i]?=some o→L.getD i true=false→(∀ e∈o.after,Region.binds md e=true→L.getD e.on false=true) →
   ∀ K':Act→World→Prop,Shut (∀ a' w',I (L.setIfInBounds i true) a' w'→K' a' w')→if Region.wanted o (yielded ops a.tmps)=true then Oper.wp P o a w K' Q else K' (a.put o.dst undef) w)
  (fin:∀(L:Array Bool) (a:Act) (w:World),I L a w→(∀ i,i<ops.size→L.getD i false=true)→Q .normal a w) (fuel:Nat):
  ∀(L:Array Bool) (a:Act) (w:World),L.size=ops.size→((List.range ops.size).filter fun i=>!L.getD i true).length≤fuel→I L a w→wpAny P md ops Q fuel L a w:=by
 induction fuel with
 | zero=>
  intro L a w hs hf hI;have h0:Region.ready md ops L=[]:=by
   cases hr:Region.ready md ops L with
   | nil=>rfl
   | cons x xs=>
    have hx:x∈Region.ready md ops L:=by rw [hr];simp
    obtain⟨h1,o,h2,-⟩:=mem_ready.1 hx;have hm:x∈(List.range ops.size).filter fun i=>!L.getD i true:=List.mem_filter.2 ⟨List.mem_range.2 (Array.getElem?_eq_some_iff.1 h2).1,by simp only [h1];rfl⟩;have:=List.length_pos_of_mem hm;omega
  exact⟨h0,fin L a w hI (zdW ho hs h0)⟩
 | succ fuel ih=>
  intro L a w hs hf hI;refine⟨fun h0=>fin L a w hI (zdW ho hs h0),fun i hi=>?_⟩;obtain⟨h1,o,h2,h3⟩:=mem_ready.1 hi;refine wpOp_step h2 fun K' hK=>step L a w i o hI h2 h1 h3 K' (fun a' w' hI'=>hK a' w' (ih _ a' w' (by simpa using hs) ?_ hI'));have hil:i<L.size:=by rw [hs];exact(Array.getElem?_eq_some_iff.1 h2).1
  have hlt:=zhw (List.range ops.size) (fun j=>!L.getD j true) (fun j=>!(L.setIfInBounds i true).getD j true) (fun x hx=>by
   by_cases e:i=x
   ·subst e;simp [hil] at hx
   ·rwa [getD_set_ne true e] at hx) (List.mem_range.2 (Array.getElem?_eq_some_iff.1 h2).1) (by simp only [h1];rfl) (by simp [hil])
  omega
theorem zZ{a:Act}(hm:P.follows .mixedOrders=true)(ho:ordered .any ops=true)(I:Array Bool→Act→World→Prop)
  (start:I (Array.replicate ops.size false) a w.drew)
  (step:∀(L:Array Bool) (a:Act) (w:World) (i:Nat) (o:Oper),I L a w→ops[i]?=some o→L.getD i true=false→(∀ e∈o.after,Region.binds .any e=true→L.getD e.on false=true) →
   ∀ K':Act→World→Prop,Shut (∀ a' w',I (L.setIfInBounds i true) a' w'→K' a' w')→if Region.wanted o (yielded ops a.tmps)=true then Oper.wp P o a w K' Q else K' (a.put o.dst undef) w)
  (fin:∀(L:Array Bool) (a:Act) (w:World),I L a w→(∀ i,i<ops.size→L.getD i false=true)→Q .normal a w):(Code.region id ops true).wp P Q a w:=
 wp_region_any hm (zfX ho I step fin _ _ _ _ (by simp) (Nat.le_trans (List.length_filter_le _ _) (by simp)) start)
end
open Go.RowKit Limbs
structure Nm where
 neg:Bool
 o:Option Addr
 l:Nat
 c:Nat
theorem NumL.nm(h:NumL w v z n):∃ r:Nm,v=.agg #[.bool r.neg,.slice r.o r.l r.c]:=by
 obtain⟨neg,s,zs,rfl,hl,-⟩:=h;obtain⟨ao,cap,rfl,-⟩:=hl;exact⟨⟨neg,ao,zs.length,cap⟩,rfl⟩
structure Var (W:World)(B:Nat)(r:Nm)(z:Int):Prop where
 box:Box W B (.bool r.neg) (.slice r.o r.l r.c)
 num:NumL W (.agg #[.bool r.neg,.slice r.o r.l r.c]) z 12
 lt:B<W.heap.size
theorem Var.later{r:Nm}(h:Var W B r z)(hb:Below W.heap.size W W'):Var W' B r z:=⟨h.box.later hb h.lt,h.num.below hb zL,zT h.lt hb.size⟩
theorem Var.drew{r:Nm}(h:Var W B r z):Var W.drew B r z:=⟨h.box,h.num,h.lt⟩
theorem NumL.wrote{u0 u1 v0 v1:Value}(h:NumL W v z n)(hb:Box W B u0 u1)(h0:∀ z,u0≠.int .u32 z)(h1:∀ z,u1≠.int .u32 z):NumL ((W.setCell ⟨B,0,none⟩ v0).setCell ⟨B,1,none⟩ v1) v z n:=
 (h.setCell hb.1 h0).setCell (p:=⟨B,1,none⟩) (u:=u1) ((World.cell?_setCell_other (h:=fun e=>by simp at e) ..).trans hb.2.1) h1
theorem Var.other{r s:Nm}(h:Var W B r z)(hc:Var W C s y)(hne:B≠C)(v0 v1:Value):Var ((W.setCell ⟨C,0,none⟩ v0).setCell ⟨C,1,none⟩ v1) B r z:=
 ⟨(h.box.other hne _ _).other hne _ _,h.num.wrote hc.box (by simp) (by simp),by simpa using h.lt⟩
theorem Var.write{s r:Nm}(hc:Var W C s y)(hn:NumL W (.agg #[.bool r.neg,.slice r.o r.l r.c]) z 12):Var ((W.setCell ⟨C,0,none⟩ (.bool r.neg)).setCell ⟨C,1,none⟩ (.slice r.o r.l r.c)) C r z:=
 ⟨hc.box.write _ _,hn.wrote hc.box (by simp) (by simp),by simpa using hc.lt⟩
theorem NumL.drewed(h:NumL W v z n):NumL W.drew v z n:=h
theorem zgq(h:Below B w W):Below B w W.drew:=h.drew
structure VarQ (W:World)(B:Nat)(r:Nm)(z:Int):Prop where
 box:Box W B (.bool r.neg) (.slice r.o r.l r.c)
 num:NumL W (.agg #[.bool r.neg,.slice r.o r.l r.c]) z 13
 lt:B<W.heap.size
theorem VarQ.later{r:Nm}(h:VarQ W B r z)(hb:Below W.heap.size W W'):VarQ W' B r z:=⟨h.box.later hb h.lt,h.num.below hb zL,zT h.lt hb.size⟩
theorem VarQ.drew{r:Nm}(h:VarQ W B r z):VarQ W.drew B r z:=⟨h.box,h.num,h.lt⟩
theorem VarQ.other{r s:Nm}(h:VarQ W B r z)(hc:Var W C s y)(hne:B≠C)(v0 v1:Value):VarQ ((W.setCell ⟨C,0,none⟩ v0).setCell ⟨C,1,none⟩ v1) B r z:=
 ⟨(h.box.other hne _ _).other hne _ _,h.num.wrote hc.box (by simp) (by simp),by simpa using h.lt⟩
structure GSt (w W:World)(G X Y H U V:Nat)(rg rx ry rh ru rv:Nm)(g h x u y v:Int):Prop where
 g:Var W G rg g
 x:Var W X rx x
 y:Var W Y ry y
 h:Var W H rh h
 u:Var W U ru u
 v:Var W V rv v
 below:Below w.heap.size w W
theorem GSt.later{rg rx ry rh ru rv:Nm}{v:Int}(s:GSt w W G X Y H U V rg rx ry rh ru rv g h x u y v)(hb:Below W.heap.size W W'):GSt w W' G X Y H U V rg rx ry rh ru rv g h x u y v:=
 ⟨s.g.later hb,s.x.later hb,s.y.later hb,s.h.later hb,s.u.later hb,s.v.later hb,s.below.trans (hb.mono s.below.size)⟩
theorem GSt.drew{rg rx ry rh ru rv:Nm}{v:Int}(s:GSt w W G X Y H U V rg rx ry rh ru rv g h x u y v):GSt w W.drew G X Y H U V rg rx ry rh ru rv g h x u y v:=
 ⟨s.g.drew,s.x.drew,s.y.drew,s.h.drew,s.u.drew,s.v.drew,s.below.drew⟩
structure Blocks (w:World)(G X Y H U V:Nat):Prop where
 g:w.heap.size≤G
 gx:G<X
 xy:X<Y
 yh:Y<H
 yu:Y<U
 yv:Y<V
 hu:H≠U
 hv:H≠V
 uv:U≠V
theorem GSt.gh{rg rx ry rh ru rv r r':Nm}{v:Int}(s:GSt w W G X Y H U V rg rx ry rh ru rv g h x u y v)(b:Blocks w G X Y H U V)
  (hn:NumL W (.agg #[.bool r.neg,.slice r.o r.l r.c]) z 12) (hn':NumL W (.agg #[.bool r'.neg,.slice r'.o r'.l r'.c]) z' 12):
  GSt w ((((W.setCell ⟨G,0,none⟩ (.bool r.neg)).setCell ⟨G,1,none⟩ (.slice r.o r.l r.c)).setCell ⟨H,0,none⟩ (.bool r'.neg)).setCell ⟨H,1,none⟩ (.slice r'.o r'.l r'.c)) G X Y H U V r rx ry r' ru rv z z' x u y v:=by
 obtain⟨b1,b2,b3,b4,b5,b6,b7,b8,b9⟩:=b;have hh:=s.h.other s.g (by omega) (.bool r.neg) (.slice r.o r.l r.c);have hg:=s.g.write hn;exact⟨hg.other hh (by omega) _ _,(s.x.other s.g (by omega) _ _).other hh (by omega) _ _,(s.y.other s.g (by omega) _ _).other hh (by omega) _ _,hh.write (hn'.wrote s.g.box (by simp) (by simp)),(s.u.other s.g (by omega) _ _).other hh (by omega) _ _,(s.v.other s.g (by omega) _ _).other hh (by omega) _ _,
  (((s.below.setCell (by simp;omega) _).setCell (by simp;omega) _).setCell (by simp;omega) _).setCell (by simp;omega) _⟩
theorem GSt.xu{rg rx ry rh ru rv r r':Nm}{v:Int}(s:GSt w W G X Y H U V rg rx ry rh ru rv g h x u y v)(b:Blocks w G X Y H U V)
  (hn:NumL W (.agg #[.bool r.neg,.slice r.o r.l r.c]) z 12) (hn':NumL W (.agg #[.bool r'.neg,.slice r'.o r'.l r'.c]) z' 12):
  GSt w ((((W.setCell ⟨X,0,none⟩ (.bool r.neg)).setCell ⟨X,1,none⟩ (.slice r.o r.l r.c)).setCell ⟨U,0,none⟩ (.bool r'.neg)).setCell ⟨U,1,none⟩ (.slice r'.o r'.l r'.c)) G X Y H U V rg r ry rh r' rv g h z z' y v:=by
 obtain⟨b1,b2,b3,b4,b5,b6,b7,b8,b9⟩:=b;have hu:=s.u.other s.x (by omega) (.bool r.neg) (.slice r.o r.l r.c);have hx:=s.x.write hn;exact⟨(s.g.other s.x (by omega) _ _).other hu (by omega) _ _,hx.other hu (by omega) _ _,(s.y.other s.x (by omega) _ _).other hu (by omega) _ _,(s.h.other s.x (by omega) _ _).other hu (by omega) _ _,hu.write (hn'.wrote s.x.box (by simp) (by simp)),(s.v.other s.x (by omega) _ _).other hu (by omega) _ _,
  (((s.below.setCell (by simp;omega) _).setCell (by simp;omega) _).setCell (by simp;omega) _).setCell (by simp;omega) _⟩
theorem GSt.yv{rg rx ry rh ru rv r r':Nm}{v:Int}(s:GSt w W G X Y H U V rg rx ry rh ru rv g h x u y v)(b:Blocks w G X Y H U V)
  (hn:NumL W (.agg #[.bool r.neg,.slice r.o r.l r.c]) z 12) (hn':NumL W (.agg #[.bool r'.neg,.slice r'.o r'.l r'.c]) z' 12):
  GSt w ((((W.setCell ⟨Y,0,none⟩ (.bool r.neg)).setCell ⟨Y,1,none⟩ (.slice r.o r.l r.c)).setCell ⟨V,0,none⟩ (.bool r'.neg)).setCell ⟨V,1,none⟩ (.slice r'.o r'.l r'.c)) G X Y H U V rg rx r rh ru r' g h x u z z':=by
 obtain⟨b1,b2,b3,b4,b5,b6,b7,b8,b9⟩:=b;have hv:=s.v.other s.y (by omega) (.bool r.neg) (.slice r.o r.l r.c);have hy:=s.y.write hn;exact⟨(s.g.other s.y (by omega) _ _).other hv (by omega) _ _,(s.x.other s.y (by omega) _ _).other hv (by omega) _ _,hy.other hv (by omega) _ _,(s.h.other s.y (by omega) _ _).other hv (by omega) _ _,(s.u.other s.y (by omega) _ _).other hv (by omega) _ _,hv.write (hn'.wrote s.y.box (by simp) (by simp)),
  (((s.below.setCell (by simp;omega) _).setCell (by simp;omega) _).setCell (by simp;omega) _).setCell (by simp;omega) _⟩
def GcdPost (w:World)(a b:Int)(e:Ending)(w':World):Prop:=
 ∃ vg vx vy g x y,e=.returned (.tuple #[vg,vx,vy])∧NumL w' vg g 12∧NumL w' vx x 12∧NumL w' vy y 12∧g=x*a+y*b∧0≤g∧(∃ p,a=p*g)∧(∃ p,b=p*g)∧Below w.heap.size w w'
end Go.Proofs.YtncamilanceahaaGreat
