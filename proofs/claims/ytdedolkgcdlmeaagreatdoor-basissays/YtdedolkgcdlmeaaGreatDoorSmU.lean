import Derived.Test.YtdedolkgcdlmeaaGreatDoorSmA
namespace Go.Proofs.YtdedolkgcdlmeaaGreatDoor
open Go
variable {w:World}{v:Value}{fuel k h i:Nat}{a b c d x y:Int}
section
variable {P:Program}{ops:Array Oper}{Q:Exit→Act→World→Prop}{md:Region.Mode}{S:World→Prop}{A:Nat→Bool}
def wpUp (P:Program)(md:Region.Mode)(ops:Array Oper)(Q:Exit→Act→World→Prop)(S:World→Prop)(A:Nat→Bool):Nat→Array Bool→Act→World→Prop
 | 0=>fun listed a w=>Region.ready md ops listed=[]∧Q .normal a w
 | fuel+1=>fun listed a w=>(Region.ready md ops listed=[]→Q .normal a w) ∧
   ∀ j,j∈Region.ready md ops listed→wpOp P ops Q j (fun a' w'=>(A j=true→S w')∧wpUp P md ops Q S A fuel (listed.setIfInBounds j true) a' w') a w
theorem zhT (fuel:Nat):∀(listed:Array Bool) (a:Act) (w:World),wpUp P md ops Q S A fuel listed a w→wpAny P md ops Q fuel listed a w:=by
 induction fuel with
 | zero=>exact fun _ _ _ h=>h
 | succ fuel ih=>exact fun _ _ _ h=>⟨h.1,fun j hj=>wpOp_mono (fun a' w' h'=>ih _ a' w' h'.2) (h.2 j hj)⟩
def waitsA (md:Region.Mode)(ops:Array Oper)(A:Nat→Bool)(listed:Array Bool)(i:Nat)(ds:List Nat):Bool:=
 ((List.range ops.size).all fun j=>A j || ds.contains j || listed.getD j false) &&
  ds.all fun j=>!listed.getD j false && match ops[j]? with
   | some o=>o.after.any fun e=>Region.binds md e && (e.on==i || ds.contains e.on)
   | none=>true
theorem zmr{oi:Oper}(hi:ops[i]?=some oi)(hsel:∀(j:Nat) (o:Oper) cs b,ops[j]?=some o→o.op≠.select cs b)
  (hQ:∀ c a w,Q (.panic c) (a.put oi.dst v) w→Q (.panic c) a w) (ds:List Nat) (hds:∀ j,j∈ds→∀ o,ops[j]?=some o→∃ e∈o.after,Region.binds md e=true∧(e.on=i∨e.on∈ds)) (fuel:Nat):
  ∀(listed:Array Bool) (a:Act) (w:World),(∀ j o,ops[j]?=some o→listed.getD j true=false→j ∉ ds→A j=true) →
   (∀ j oj,ops[j]?=some oj→j≠i→listed.getD j true=false→(∀ e∈oj.after,Region.binds md e=true→e.on≠i)→oi.apart ops oj=true) →
   i∈Region.ready md ops listed→(∀ j∈ds,listed.getD j false=false)→YieldsIf P ops S oi v a→S w →
   wpUp P md ops Q S A fuel (listed.setIfInBounds i true) (a.put oi.dst v) w→wpUp P md ops Q S A (fuel+1) listed a w:=by
 induction fuel with
 | zero=>
  intro listed a w _ _ hr _ hy hS H;refine⟨fun h0=>absurd hr (by rw [h0];exact List.not_mem_nil),fun j hj=>?_⟩;by_cases e:j=i
  ·subst e;exact hy.wpOp hi hS ⟨fun _=>hS,H⟩
  ·have:=ready_mono hj e;rw [H.1] at this;cases this
 | succ fuel ih=>
  intro listed a w hlow hfree hr hun hy hS H;refine⟨fun h0=>absurd hr (by rw [h0];exact List.not_mem_nil),fun j hj=>?_⟩;by_cases e:j=i
  ·subst e;exact hy.wpOp hi hS ⟨fun _=>hS,H⟩
  ·obtain⟨hj0,oj,hoj,hall⟩:=mem_ready.1 hj;have hi0:=(mem_ready.1 hr).1;have hi1:listed.getD i false=true→False:=fun h=>by
    by_cases hl:i<listed.size
    ·simp [hl] at hi0 h;rw [hi0] at h;cases h
    ·simp [Array.getElem?_eq_none (Nat.le_of_not_lt hl)] at h
   have hnd:j ∉ ds:=fun hd=>by
    obtain⟨ed,hed,hbd,hon⟩:=hds j hd oj hoj;have h1:=hall ed hed hbd;rcases hon with hon | hon
    ·rw [hon] at h1;exact hi1 h1
    ·rw [hun _ hon] at h1;cases h1
   have hnot:∀ ed∈oj.after,Region.binds md ed=true→ed.on≠i:=fun ed hed hbd heq=>hi1 (by have:=hall ed hed hbd;rwa [heq] at this);have h2:=wpOp_putIf hoj (hfree j oj hoj e hj0 hnot) (fun cs b=>hsel i oi cs b hi) (fun cs b=>hsel j oj cs b hoj) hQ hy (H.2 j (ready_mono hj e));refine wpOp_mono (fun a' w' h3=>?_) h2;have hS':=h3.2.1 (hlow j oj hoj hj0 hnd);have hback:∀ m,(listed.setIfInBounds j true).getD m true=false→listed.getD m true=false:=fun m hmu=>by
    by_cases ejm:j=m
    ·subst ejm;exact hj0
    ·rwa [getD_set_ne true ejm] at hmu
   refine⟨h3.2.1,ih (listed.setIfInBounds j true) a' w' (fun m om hm hmu=>hlow m om hm (hback m hmu)) (fun m om hm hmi hmu hmn=>hfree m om hm hmi (hback m hmu) hmn) (ready_mono hr (Ne.symm e)) (fun d hd=>?_) h3.1 hS' ?_⟩
   ·rw [getD_set_ne (i:=j) (j:=d) false (fun e'=>hnd (by rw [e'];exact hd))];exact hun d hd
   ·rw [Array.setIfInBounds_comm _ _ e];exact h3.2.2
theorem zms{oi:Oper}(hi:ops[i]?=some oi)(hsel:∀(j:Nat) (o:Oper) cs b,ops[j]?=some o→o.op≠.select cs b)
  (hQ:∀ c a w,Q (.panic c) (a.put oi.dst v) w→Q (.panic c) a w) (hA:A i=false) (fuel:Nat):
  ∀(listed:Array Bool) (a:Act) (w:World),
   (∀ j oj,ops[j]?=some oj→j≠i→listed.getD j true=false→(∀ e∈oj.after,Region.binds md e=true→e.on≠i)→oi.apart ops oj=true) →
   i∈Region.ready md ops listed→YieldsIf P ops (fun _=>True) oi v a →
   wpUp P md ops Q S A fuel (listed.setIfInBounds i true) (a.put oi.dst v) w→wpUp P md ops Q S A (fuel+1) listed a w:=by
 have hno:A i=true→S=S→∀ w,S w:=fun h=>by rw [hA] at h;cases h
 induction fuel with
 | zero=>
  intro listed a w _ hr hy H;refine⟨fun h0=>absurd hr (by rw [h0];exact List.not_mem_nil),fun j hj=>?_⟩;by_cases e:j=i
  ·subst e;exact hy.wpOp hi trivial ⟨fun h=>hno h rfl w,H⟩
  ·have:=ready_mono hj e;rw [H.1] at this;cases this
 | succ fuel ih=>
  intro listed a w hfree hr hy H;refine⟨fun h0=>absurd hr (by rw [h0];exact List.not_mem_nil),fun j hj=>?_⟩;by_cases e:j=i
  ·subst e;exact hy.wpOp hi trivial ⟨fun h=>hno h rfl w,H⟩
  ·obtain⟨hj0,oj,hoj,hall⟩:=mem_ready.1 hj;have hi0:=(mem_ready.1 hr).1;have hi1:listed.getD i false=true→False:=fun h=>by
    by_cases hl:i<listed.size
    ·simp [hl] at hi0 h;rw [hi0] at h;cases h
    ·simp [Array.getElem?_eq_none (Nat.le_of_not_lt hl)] at h
   have hnot:∀ ed∈oj.after,Region.binds md ed=true→ed.on≠i:=fun ed hed hbd heq=>hi1 (by have:=hall ed hed hbd;rwa [heq] at this);have h2:=wpOp_putIf hoj (hfree j oj hoj e hj0 hnot) (fun cs b=>hsel i oi cs b hi) (fun cs b=>hsel j oj cs b hoj) hQ hy (H.2 j (ready_mono hj e));refine wpOp_mono (fun a' w' h3=>?_) h2;refine⟨h3.2.1,ih (listed.setIfInBounds j true) a' w' (fun m om hm hmi hmu hmn=>hfree m om hm hmi ?_ hmn) (ready_mono hr (Ne.symm e)) h3.1 ?_⟩
   ·by_cases ejm:j=m
    ·subst ejm;exact hj0
    ·rwa [getD_set_ne true ejm] at hmu
   ·rw [Array.setIfInBounds_comm _ _ e];exact h3.2.2
theorem zmz {listed:Array Bool}{ds:List Nat}(h:waitsA md ops A listed i ds=true):
  (∀ j o,ops[j]?=some o→listed.getD j true=false→j ∉ ds→A j=true)∧(∀ j∈ds,listed.getD j false=false)∧∀ j,j∈ds→∀ o,ops[j]?=some o→∃ e∈o.after,Region.binds md e=true∧(e.on=i∨e.on∈ds):=by
 simp only [waitsA,Bool.and_eq_true,List.all_eq_true] at h;refine⟨fun j o hj hl hn=>?_,fun j hj=>?_,fun j hj o ho=>?_⟩
 ·have h1:=h.1 j (List.mem_range.2 (Array.getElem?_eq_some_iff.1 hj).1);simp only [Bool.or_eq_true,List.contains_iff_mem] at h1;rcases h1 with(h1 | h1) | h1
  ·exact h1
  ·exact absurd h1 hn
  ·by_cases hs:j<listed.size
   ·simp [hs] at hl h1;rw [hl] at h1;cases h1
   ·simp [Array.getElem?_eq_none (Nat.le_of_not_lt hs)] at h1
 ·have:=(h.2 j hj).1;simpa using this
 ·have h2:=(h.2 j hj).2;rw [ho] at h2;obtain⟨e,he,hb⟩:=Array.any_eq_true'.1 h2;simp only [Bool.and_eq_true,Bool.or_eq_true,beq_iff_eq,List.contains_iff_mem] at hb;exact⟨e,he,hb.1,hb.2⟩
theorem zmu (i d:Nat)(ds:List Nat){oi:Oper}{listed:Array Bool}{a:Act}(hi:ops[i]?=some oi)(hd:oi.dst=some d)
  (hs:Region.noSelect ops=true) (hf:Region.free md ops listed i=true) (hr:(Region.ready md ops listed).contains i=true) (hw:waitsA md ops A listed i ds=true)
  (hQ:∀ c a w,Q (.panic c) (a.put (some d) v) w→Q (.panic c) a w) (hwt:Region.wanted oi (yielded ops a.tmps)=true) (hy:∀ w,S w→(execOp a.eval oi).run P w=.ok (.value v) w) (hS:S w)
  (h:wpUp P md ops Q S A fuel (listed.setIfInBounds i true) (a.put (some d) v) w):wpUp P md ops Q S A (fuel+1) listed a w:=
 have hw':=zmz hw
 zmr hi (Region.noSelect_spec hs) (by rw [hd];exact hQ) ds hw'.2.2 fuel listed a w hw'.1 (Region.free_spec hi hf) (by simpa using hr)
  hw'.2.1 (.inl ⟨hwt,hy⟩) hS (by rw [hd];exact h)
theorem zas (i d:Nat)(ds:List Nat){oi:Oper}{listed:Array Bool}{a:Act}(h:wpUp P md ops Q S A fuel (listed.setIfInBounds i true) (a.put (some d) v) w)(hi:ops[i]?=some oi:=by rfl)(hd:oi.dst=some d:=by rfl)(hs:Region.noSelect ops=true:=by kernel_rfl)(hf:Region.free md ops listed i=true:=by kernel_rfl)(hr:(Region.ready md ops listed).contains i=true:=by kernel_rfl)(hw:waitsA md ops A listed i ds=true:=by kernel_rfl)(hQ:∀ c a w,Q (.panic c) (a.put (some d) v) w→Q (.panic c) a w:=by exact fun _ _ _ h=>h)(hwt:Region.wanted oi (yielded ops a.tmps)=true:=by rfl)(hy:∀ w,S w→(execOp a.eval oi).run P w=.ok (.value v) w:=by intro w hSw;(try dsimp only at hSw);go_simp;with_reducible rfl)(hS:S w:=by assumption):wpUp P md ops Q S A (fuel+1) listed a w:=zmu i d ds hi hd hs hf hr hw hQ hwt hy hS h
theorem zmt (i d:Nat){oi:Oper}{listed:Array Bool}{a:Act}(hi:ops[i]?=some oi)(hd:oi.dst=some d)
  (hs:Region.noSelect ops=true) (hf:Region.free md ops listed i=true) (hr:(Region.ready md ops listed).contains i=true) (hA:A i=false)
  (hQ:∀ c a w,Q (.panic c) (a.put (some d) v) w→Q (.panic c) a w) (hwt:Region.wanted oi (yielded ops a.tmps)=true) (hy:∀ w,(execOp a.eval oi).run P w=.ok (.value v) w)
  (h:wpUp P md ops Q S A fuel (listed.setIfInBounds i true) (a.put (some d) v) w):wpUp P md ops Q S A (fuel+1) listed a w:=
 zms hi (Region.noSelect_spec hs) (by rw [hd];exact hQ) hA fuel listed a w (Region.free_spec hi hf) (by simpa using hr) (.inl ⟨hwt,fun w _=>hy w⟩) (by rw [hd];exact h)
theorem zD (i d:Nat){oi:Oper}{listed:Array Bool}{a:Act}(h:wpUp P md ops Q S A fuel (listed.setIfInBounds i true) (a.put (some d) v) w)(hi:ops[i]?=some oi:=by rfl)(hd:oi.dst=some d:=by rfl)(hs:Region.noSelect ops=true:=by kernel_rfl)(hf:Region.free md ops listed i=true:=by kernel_rfl)(hr:(Region.ready md ops listed).contains i=true:=by kernel_rfl)(hA:A i=false:=by kernel_rfl)(hQ:∀ c a w,Q (.panic c) (a.put (some d) v) w→Q (.panic c) a w:=by exact fun _ _ _ h=>h)(hwt:Region.wanted oi (yielded ops a.tmps)=true:=by rfl)(hy:∀ w,(execOp a.eval oi).run P w=.ok (.value v) w:=by intro w;go_simp;with_reducible rfl):wpUp P md ops Q S A (fuel+1) listed a w:=zmt i d hi hd hs hf hr hA hQ hwt hy h
theorem zaK (i:Nat){o:Oper}{listed:Array Bool}{a:Act}(hr:Region.ready md ops listed=[i])(ho:ops[i]?=some o)
  (h:∀ K':Act→World→Prop,Shut (∀ a w,(A i=true→S w)→wpUp P md ops Q S A fuel (listed.setIfInBounds i true) a w→K' a w)→if Region.wanted o (yielded ops a.tmps)=true then Oper.wp P o a w K' Q else K' (a.put o.dst undef) w):
  wpUp P md ops Q S A (fuel+1) listed a w:=by
 refine⟨fun h0=>absurd (hr.symm.trans h0) (by simp),fun j hj=>?_⟩;rw [hr] at hj;obtain rfl:j=i:=by simpa using hj
 exact wpOp_step ho (fun K' hK=>h K' (fun a w hS hW=>hK a w ⟨hS,hW⟩))
theorem zev{listed:Array Bool}{a:Act}(hr:Region.ready md ops listed=[])(h:Q .normal a w):wpUp P md ops Q S A fuel listed a w:=by
 cases fuel with
 | zero=>exact⟨hr,h⟩
 | succ fuel=>exact⟨fun _=>h,fun j hj=>by rw [hr] at hj;cases hj⟩
theorem zew{id:Nat}{a:Act}(hm:P.follows .mixedOrders=true)(hS:S w.drew)
  (h:S w.drew→wpUp P .any ops Q S A ops.size (Array.replicate ops.size false) a w.drew):(Code.region id ops true).wp P Q a w:=
 wp_region_any hm (zhT _ _ _ _ (h hS))
end
open Go.RowKit Limbs
theorem Box.alloc{W:World}{B:Nat}{u0 u1:Value}(h:Box W B u0 u1)(hB:B<W.heap.size)(ob:Obj):Box (W.alloc ob) B u0 u1:=h.later ((zB W.heap.size W).alloc zL ob) hB
def EqM (r:Nat)(A B:Nat→Nat→Int):Prop:=∀ i j,i<r→j<r→A i j=B i j
def scM (e:Int):Nat→Nat→Int:=fun i j=>if i=j then e else 0
def trM (A:Nat→Nat→Int):Nat→Nat→Int:=fun i j=>A j i
section
variable {r:Nat}{A A' B B' C T U U' V V':Nat→Nat→Int}{e:Int}
theorem EqM.refl (A:Nat→Nat→Int):EqM r A A:=fun _ _ _ _=>rfl
theorem EqM.symm (h:EqM r A B):EqM r B A:=fun i j hi hj=>(h i j hi hj).symm
theorem EqM.trans (h:EqM r A B)(k:EqM r B C):EqM r A C:=fun i j hi hj=>(h i j hi hj).trans (k i j hi hj)
theorem EqM.mul (h:EqM r A A')(k:EqM r B B'):EqM r (mulM r A B) (mulM r A' B'):=fun i j hi hj=>zk fun q hq=>by rw [h i q hi hq,k q j hq hj]
theorem EqM.tr (h:EqM r A B):EqM r (trM A) (trM B):=fun i j hi hj=>h j i hj hi
theorem zbc (r:Nat)(A B C:Nat→Nat→Int):mulM r (mulM r A B) C=mulM r A (mulM r B C):=by
 funext i j;show sumN r (fun k=>sumN r (fun l=>A i l*B l k)*C k j)=sumN r (fun l=>A i l*sumN r (fun k=>B l k*C k j));have e1:sumN r (fun k=>sumN r (fun l=>A i l*B l k)*C k j)=sumN r (fun k=>sumN r (fun l=>A i l *(B l k*C k j))):=zk fun k _=>by
  rw [Int.mul_comm,← zah];exact zk fun l _=>by rw [Int.mul_comm,Int.mul_assoc]
 rw [e1,zem];exact zk fun l _=>by rw [zah]
theorem zkG (r:Nat)(A:Nat→Nat→Int)(e:Int):EqM r (mulM r A (scM e)) (fun i j=>A i j*e):=fun i j hi hj=>by
 show sumN r (fun k=>A i k*scM e k j)=_;rw [zW r j hj _ fun k hk hne=>by rw [scM,if_neg hne,Int.mul_zero],scM,if_pos rfl]
theorem zlA (r:Nat)(A:Nat→Nat→Int)(e:Int):EqM r (mulM r (scM e) A) (fun i j=>A i j*e):=fun i j hi hj=>by
 show sumN r (fun k=>scM e i k*A k j)=_;rw [zW r i hi _ fun k hk hne=>by rw [scM,if_neg (Ne.symm hne),Int.zero_mul],scM,if_pos rfl,Int.mul_comm]
theorem zcW (r:Nat)(A:Nat→Nat→Int):EqM r (mulM r A (scM 1)) A:=(zkG r A 1).trans fun _ _ _ _=>Int.mul_one _
theorem zbH (r:Nat)(A:Nat→Nat→Int):EqM r (mulM r (scM 1) A) A:=(zlA r A 1).trans fun _ _ _ _=>Int.mul_one _
theorem zdh (r:Nat)(A B:Nat→Nat→Int):trM (mulM r A B)=mulM r (trM B) (trM A):=by
 funext i j;exact zk fun k _=>Int.mul_comm _ _
theorem zhq (e:Int):trM (scM e)=scM e:=by
 funext i j;show(if j=i then e else 0)=if i=j then e else 0;by_cases h:i=j
 ·rw [if_pos h,if_pos h.symm]
 ·rw [if_neg h,if_neg (Ne.symm h)]
def InvM (r:Nat)(U U':Nat→Nat→Int):Prop:=EqM r (mulM r U U') (scM 1)∧EqM r (mulM r U' U) (scM 1)
theorem InvM.one (r:Nat):InvM r (scM 1) (scM 1):=⟨zcW r _,zcW r _⟩
theorem InvM.symm (h:InvM r U U'):InvM r U' U:=⟨h.2,h.1⟩
theorem InvM.tr (h:InvM r U U'):InvM r (trM U) (trM U'):=by
 refine⟨?_,?_⟩
 ·rw [← zdh,← zhq];exact h.2.tr
 ·rw [← zdh,← zhq];exact h.1.tr
theorem mid (h:EqM r (mulM r U' U) (scM 1)):EqM r (mulM r (mulM r V U') (mulM r U B)) (mulM r V B):=by
 have e1:mulM r (mulM r V U') (mulM r U B)=mulM r V (mulM r (mulM r U' U) B):=by rw [zbc,zbc]
 rw [e1];exact(EqM.refl V).mul ((h.mul (EqM.refl B)).trans (zbH r B))
theorem InvM.mul (h:InvM r U U')(k:InvM r V V'):InvM r (mulM r U V) (mulM r V' U'):=
 ⟨(mid k.1).trans h.1,(mid h.2).trans k.2⟩
def Equ (r:Nat)(A B:Nat→Nat→Int):Prop:=∃ U U' V V',InvM r U U'∧InvM r V V'∧EqM r B (mulM r (mulM r U A) V)
theorem Equ.rows (h:InvM r U U')(k:EqM r B (mulM r U A)):Equ r A B:=⟨U,U',scM 1,scM 1,h,.one r,k.trans (zcW r _).symm⟩
theorem Equ.cols (h:InvM r V V')(k:EqM r B (mulM r A V)):Equ r A B:=⟨scM 1,scM 1,V,V',.one r,h,k.trans ((zbH r A).symm.mul (EqM.refl V))⟩
theorem Equ.of (h:EqM r A B):Equ r A B:=.rows (.one r) (h.symm.trans (zbH r A).symm)
theorem Equ.refl (A:Nat→Nat→Int):Equ r A A:=.of (EqM.refl A)
theorem Equ.trans (h:Equ r A B)(k:Equ r B C):Equ r A C:=by
 obtain⟨U,U',V,V',hu,hv,e⟩:=h;obtain⟨X,X',Y,Y',hx,hy,e2⟩:=k;refine⟨mulM r X U,mulM r U' X',mulM r V Y,mulM r Y' V',hx.mul hu,hv.mul hy,e2.trans ?_⟩;refine(((EqM.refl X).mul e).mul (EqM.refl Y)).trans ?_;have:mulM r (mulM r X (mulM r (mulM r U A) V)) Y=mulM r (mulM r (mulM r X U) A) (mulM r V Y):=by simp only [zbc]
 rw [this];exact EqM.refl _
theorem Equ.tr (h:Equ r A B):Equ r (trM A) (trM B):=by
 obtain⟨U,U',V,V',hu,hv,e⟩:=h;refine⟨trM V,trM V',trM U,trM U',hv.tr,hu.tr,e.tr.trans ?_⟩;rw [zdh,zdh,zbc];exact EqM.refl _
theorem Equ.symm (h:Equ r A B):Equ r B A:=by
 obtain⟨U,U',V,V',hu,hv,e⟩:=h;refine⟨U',U,V',V,hu.symm,hv.symm,?_⟩;refine EqM.symm ((((EqM.refl U').mul e).mul (EqM.refl V')).trans ?_);have:mulM r (mulM r U' (mulM r (mulM r U A) V)) V'=mulM r (mulM r U' U) (mulM r A (mulM r V V')):=by simp only [zbc]
 rw [this];exact(hu.2.mul (((EqM.refl A).mul hv.1).trans (zcW r A))).trans (zbH r A)
def FreeM (r:Nat)(A:Nat→Nat→Int):Prop:=∀ x:Nat→Int,(∀ j,j<r→sumN r (fun k=>x k*A k j)=0)→∀ k,k<r→x k=0
theorem FreeM.cancel (f:FreeM r A){X Y:Nat→Nat→Int}(h:EqM r (mulM r X A) (mulM r Y A)):EqM r X Y:=fun i k hi hk=>by
 have:=f (fun q=>X i q+- Y i q) (fun j hj=>by
  have e1:sumN r (fun q=>(X i q+- Y i q)*A q j)=sumN r (fun q=>X i q*A q j)+- sumN r (fun q=>Y i q*A q j):=by
   rw [← zdg,← zbh];exact zk fun q _=>by rw [Int.add_mul,Int.neg_mul]
  rw [e1];have e2:sumN r (fun q=>X i q*A q j)=sumN r (fun q=>Y i q*A q j):=h i j hi hj;omega) k hk
 omega
theorem zjX (fA:FreeM r A)(fB:FreeM r B)(h:EqM r A (mulM r C B))(k:EqM r B (mulM r T A)):InvM r C T:=by
 refine⟨fA.cancel ?_,fB.cancel ?_⟩
 ·refine EqM.trans ?_ (zbH r A).symm;rw [zbc];exact((EqM.refl C).mul k.symm).trans h.symm
 ·refine EqM.trans ?_ (zbH r B).symm;rw [zbc];exact((EqM.refl T).mul h.symm).trans k.symm
theorem zfw (h:∀ i j,i<r→j<r→j<i→A i j=0)(p:∀ i,i<r→A i i≠0):FreeM r A:=fun x hx=>by
 have key:∀ m k,k<m→k<r→x k=0:=fun m=>by
  induction m with
  | zero=>intro k hk;omega
  | succ m ih=>
   intro k hk hr;by_cases hm:k<m
   ·exact ih k hm hr
   ·have e:=hx k hr;rw [zW r k hr _ fun i hi hne=>by
     by_cases hik:i<k
     ·rw [ih i (by omega) hi,Int.zero_mul]
     ·rw [h i k hi hr (by omega),Int.mul_zero]] at e
    rcases Int.mul_eq_zero.1 e with e | e
    ·exact e
    ·exact absurd e (p k hr)
 exact fun k hk=>key (k+1) k (by omega) hk
theorem zjq (h:∀ i j,i<r→j<r→i<j→A i j=0)(p:∀ i,i<r→A i i≠0):FreeM r A:=fun x hx=>by
 have key:∀ m k,k<r→r-k≤m→x k=0:=fun m=>by
  induction m with
  | zero=>intro k hk h0;omega
  | succ m ih=>
   intro k hk h0;have e:=hx k hk;rw [zW r k hk _ fun i hi hne=>by
    by_cases hik:k<i
    ·rw [ih i hi (by omega),Int.zero_mul]
    ·rw [h i k hi hk (by omega),Int.mul_zero]] at e
   rcases Int.mul_eq_zero.1 e with e | e
   ·exact e
   ·exact absurd e (p k hk)
 exact fun k hk=>key r k hk (by omega)
def dgM (f:Nat→Int):Nat→Nat→Int:=fun i j=>if i=j then f i else 0
theorem zmh (f:Nat→Int):trM (dgM f)=dgM f:=by
 funext i j;show(if j=i then f j else 0)=if i=j then f i else 0;by_cases h:i=j
 ·rw [if_pos h,if_pos h.symm,h]
 ·rw [if_neg h,if_neg (Ne.symm h)]
def twoM (k h:Nat)(a b c d:Int):Nat→Nat→Int:=fun i j=>if i=k then (if j=k then a else if j=h then b else 0) else if i=h then (if j=k then c else if j=h then d else 0) else if i=j then 1 else 0
def blkM (f:Nat→Int)(k h:Nat)(a b c d:Int):Nat→Nat→Int:=fun i j=>if i=k then (if j=k then a else if j=h then b else 0) else if i=h then (if j=k then c else if j=h then d else 0) else if i=j then f i else 0
theorem zcp {f:Nat→Int}(hkh:k<h)(hh:h<r)(a b c d x y z u:Int):EqM r (mulM r (twoM k h a b c d) (blkM f k h x y z u)) (blkM f k h (a*x+b*z) (a*y+b*u) (c*x+d*z) (c*y+d*u)):=fun i j hi hj=>by
 show sumN r (fun q=>twoM k h a b c d i q*blkM f k h x y z u q j)=_;by_cases e1:i=k
 ·subst e1;rw [zen r i h hkh hh _ fun q hq n1 n2=>by rw [twoM,if_pos rfl,if_neg n1,if_neg n2,Int.zero_mul]];have n:¬ h=i:=by omega
  simp only [twoM,blkM,if_true,if_neg n];by_cases e2:j=i
  ·simp only [e2,if_true]
  ·simp only [if_neg e2];by_cases e3:j=h
   ·simp only [e3,if_true]
   ·simp only [if_neg e3,Int.mul_zero,Int.add_zero]
 ·by_cases e4:i=h
  ·subst e4;rw [zen r k i hkh hh _ fun q hq n1 n2=>by rw [twoM,if_neg e1,if_pos rfl,if_neg n1,if_neg n2,Int.zero_mul]];simp only [twoM,blkM,if_true,if_neg e1];by_cases e2:j=k
   ·simp only [e2,if_true]
   ·simp only [if_neg e2];by_cases e3:j=i
    ·simp only [e3,if_true]
    ·simp only [if_neg e3,Int.mul_zero,Int.add_zero]
  ·rw [zW r i hi _ fun q hq hne=>by rw [twoM,if_neg e1,if_neg e4,if_neg (Ne.symm hne),Int.zero_mul]];simp only [twoM,blkM,if_neg e1,if_neg e4,if_true,Int.one_mul]
theorem zht (k h:Nat)(hkh:k<h):twoM k h 1 0 0 1=scM 1:=by
 funext i j;unfold twoM scM;by_cases e1:i=k
 ·subst e1;rw [if_pos rfl];by_cases e2:j=i
  ·rw [if_pos e2,if_pos e2.symm]
  ·rw [if_neg e2,if_neg (Ne.symm e2)];split <;> rfl
 ·rw [if_neg e1];by_cases e4:i=h
  ·subst e4;rw [if_pos rfl];by_cases e2:j=i
   ·rw [if_pos e2,if_pos e2.symm,if_neg (by omega)]
   ·rw [if_neg e2,if_neg (Ne.symm e2)];split <;> rfl
  ·rw [if_neg e4]
theorem zdi (k h:Nat)(a b c d:Int):twoM k h a b c d=blkM (fun _=>1) k h a b c d:=rfl
theorem zet(hkh:k<h)(hh:h<r){z u:Int}(h1:a*x+b*z=1)(h2:a*y+b*u=0)(h3:c*x+d*z=0)(h4:c*y+d*u=1)(h5:x*a+y*c=1)(h6:x*b+y*d=0)(h7:z*a+u*c=0)(h8:z*b+u*d=1):InvM r (twoM k h a b c d) (twoM k h x y z u):=by
 refine⟨?_,?_⟩
 ·have e:=zcp (f:=fun _=>1) hkh hh a b c d x y z u;rw [h1,h2,h3,h4,← zdi,← zdi,zht k h hkh] at e;exact e
 ·have e:=zcp (f:=fun _=>1) hkh hh x y z u a b c d;rw [h5,h6,h7,h8,← zdi,← zdi,zht k h hkh] at e;exact e
theorem zhp (f:Nat→Int)(hkh:k<h)(a b c d:Int):trM (blkM f k h a b c d)=blkM f k h a c b d:=by
 funext i j;show blkM f k h a b c d j i=_;unfold blkM
 repeat' split
 all_goals first | rfl | omega | exact congrArg f (by omega)
theorem zic {f:Nat→Int}(hkh:k<h)(hh:h<r){g l p q:Int}(hg:g=x*a+y*b)(hp:a=p*g)(hq:b=q*g)(hl:l=p*b):Equ r (blkM f k h a 0 0 b) (blkM f k h g 0 0 l):=by
 have s1:Equ r (blkM f k h a 0 0 b) (blkM f k h a (y*b) 0 b):=.rows (zet (a:=1) (b:=y) (c:=0) (d:=1) (x:=1) (y:=-y) (z:=0) (u:=1) hkh hh (by omega) (by omega) (by omega) (by omega) (by omega) (by omega) (by omega) (by omega)) (by
  have e:=zcp (r:=r) (f:=f) hkh hh 1 y 0 1 a 0 0 b;simp only [Int.one_mul,Int.mul_zero,Int.add_zero,Int.zero_mul,Int.zero_add] at e;exact e.symm)
 have hxp:x*p=p*x:=Int.mul_comm x p;have hxx:x *(p*x)=p*x*x:=Int.mul_comm x (p*x);have hpp:p*x*p=p *(p*x):=Int.mul_comm (p*x) p;have s2:Equ r (blkM f k h a 0 (y*b) b) (blkM f k h g b 0 l):=.rows (zet (a:=x) (b:=1) (c:=p*x-1) (d:=p) (x:=p) (y:=-1) (z:=1-p*x) (u:=x) hkh hh
   (by omega) (by omega)
   (by rw [Int.sub_mul,Int.mul_sub];omega)
   (by omega)
   (by omega) (by omega)
   (by rw [Int.sub_mul,Int.mul_sub];omega)
   (by omega)) (by
  have e:=zcp (r:=r) (f:=f) hkh hh x 1 (p*x-1) p a 0 (y*b) b;have e1:x*a+1 *(y*b)=g:=by rw [Int.one_mul,hg]
  have e2:x*0+1*b=b:=by omega
  have e3:(p*x-1)*a+p *(y*b)=0:=by
   have:p *(x*a+y*b)=a:=by rw [← hg,← hp]
   rw [Int.mul_add] at this;rw [Int.sub_mul,Int.one_mul,Int.mul_assoc];omega
  have e4:(p*x-1)*0+p*b=l:=by rw [hl];omega
  rw [e1,e2,e3,e4] at e;exact e.symm)
 have s3:Equ r (blkM f k h g 0 b l) (blkM f k h g 0 0 l):=.rows (zet (a:=1) (b:=0) (c:=-q) (d:=1) (x:=1) (y:=0) (z:=q) (u:=1) hkh hh (by omega) (by omega) (by omega) (by omega) (by omega) (by omega) (by omega) (by omega)) (by
  have e:=zcp (r:=r) (f:=f) hkh hh 1 0 (-q) 1 g 0 b l;have e1:-q*g+1*b=0:=by rw [hq,Int.neg_mul];omega
  rw [e1] at e;simp only [Int.one_mul,Int.mul_zero,Int.add_zero,Int.zero_mul,Int.zero_add] at e;exact e.symm)
 have t2:=s2.tr;rw [zhp f hkh,zhp f hkh] at t2;exact(s1.trans t2).trans s3
theorem zh6 {f g:Nat→Int}(e:∀ i,i≠k→i≠h→f i=g i):blkM f k h a b c d=blkM g k h a b c d:=by
 funext i j;unfold blkM;by_cases e1:i=k
 ·rw [if_pos e1,if_pos e1]
 ·by_cases e2:i=h
  ·rw [if_neg e1,if_neg e1,if_pos e2,if_pos e2]
  ·rw [if_neg e1,if_neg e1,if_neg e2,if_neg e2,e i e1 e2]
theorem zfj (zs:List Int)(hkh:k<h):dgM (fun i=>zs.getD i 0)=blkM (fun i=>zs.getD i 0) k h (zs.getD k 0) 0 0 (zs.getD h 0):=by
 funext i j;unfold dgM blkM;by_cases e1:i=k
 ·subst e1;rw [if_pos rfl];by_cases e2:j=i
  ·rw [if_pos e2,if_pos e2.symm]
  ·rw [if_neg e2,if_neg (Ne.symm e2)];split <;> rfl
 ·rw [if_neg e1];by_cases e4:i=h
  ·subst e4;rw [if_pos rfl];by_cases e2:j=i
   ·rw [if_pos e2,if_pos e2.symm,if_neg (by omega)]
   ·rw [if_neg e2,if_neg (Ne.symm e2)];split <;> rfl
  ·rw [if_neg e4]
theorem zi5 {F G:List (List Int)}(fF:FreeM r (ent F))(fG:FreeM r (ent G))(lF:F.length=r)(lG:G.length=r)(kF:∀ u∈F,u.length=r)(kG:∀ u∈G,u.length=r)(a:Alikes r (InL F) (InL G)):Equ r (ent G) (ent F):=by
 obtain⟨C,hC⟩:=zQ (r:=r) (n:=r) (mm:=r) (H:=ent F) (M:=ent G) fun k hk=>by
  have hm:F.getD k []∈F:=zq (by omega);have g:=zx ((a _).1 (.base hm (kF _ hm)));rw [lG] at g;exact g
 obtain⟨T,hT⟩:=zQ (r:=r) (n:=r) (mm:=r) (H:=ent G) (M:=ent F) fun k hk=>by
  have hm:G.getD k []∈G:=zq (by omega);have g:=zx ((a _).2 (.base hm (kG _ hm)));rw [lF] at g;exact g
 have hC':EqM r (ent F) (mulM r C (ent G)):=fun i j hi hj=>hC i j hi hj;have hT':EqM r (ent G) (mulM r T (ent F)):=fun i j hi hj=>hT i j hi hj;exact .rows (zjX fF fG hC' hT') hC'
theorem Sq.free {H:List (List Int)}(S:Sq r H):FreeM r (ent H):=zfw (fun i j hi hj h=>S.low hi h) fun i hi=>by have:=S.pos hi;omega
theorem Sq.free_cols {H:List (List Int)}(S:Sq r H):FreeM r (ent (colsL H r)):=zjq (fun i j hi hj h=>by rw [zav S hi hj];exact S.low hj h) fun i hi=>by rw [zav S hi hi];have:=S.pos hi;omega
theorem Sq.cols_equ {H H':List (List Int)}(S:Sq r H)(S':Sq r H')(a:Alikes r (InL H') (InL (colsL H r))):Equ r (trM (ent H)) (ent H'):=by
 have e:EqM r (trM (ent H)) (ent (colsL H r)):=fun i j hi hj=>(zav S hi hj).symm;exact(Equ.of e).trans (zi5 S'.free S.free_cols S'.len (zad H r) S'.form.len (fun u hu=>by rw [zbs H r u hu,S.len]) a)
end
end Go.Proofs.YtdedolkgcdlmeaaGreatDoor
