import Derived.Test.YtdedolkgcdlmeaaGreatDoorGcdA
import Derived.Test.YtdedolkgcdlmeaaGreatDoorFold
import Derived.Test.YtdedolkgcdlmeaaGreatDoorVecX
import Derived.Test.YtdedolkgcdlmeaaGreatDoorAddSub
namespace Go.Proofs.YtdedolkgcdlmeaaGreatDoor
open Go
section
variable {P:Program}{ops:Array Oper}{Q:Exit→Act→World→Prop}{md:Region.Mode}{S:World→Prop}{A:Nat→Bool}
def wpUp (P:Program)(md:Region.Mode)(ops:Array Oper)(Q:Exit→Act→World→Prop)(S:World→Prop)(A:Nat→Bool):Nat→Array Bool→Act→World→Prop
 | 0=>fun listed a w=>Region.ready md ops listed=[]∧Q .normal a w
 | fuel+1=>fun listed a w=>(Region.ready md ops listed=[]→Q .normal a w) ∧
   ∀ j,j∈Region.ready md ops listed→wpOp P ops Q j (fun a' w'=>(A j=true→S w')∧wpUp P md ops Q S A fuel (listed.setIfInBounds j true) a' w') a w
theorem zhn (fuel:Nat):∀(listed:Array Bool) (a:Act) (w:World),wpUp P md ops Q S A fuel listed a w→wpAny P md ops Q fuel listed a w:=by
 induction fuel with
 | zero=>exact fun _ _ _ h=>h
 | succ fuel ih=>exact fun _ _ _ h=>⟨h.1,fun j hj=>wpOp_mono (fun a' w' h'=>ih _ a' w' h'.2) (h.2 j hj)⟩
def waitsA (md:Region.Mode)(ops:Array Oper)(A:Nat→Bool)(listed:Array Bool)(i:Nat)(ds:List Nat):Bool:=
 ((List.range ops.size).all fun j=>A j || ds.contains j || listed.getD j false) &&
  ds.all fun j=>!listed.getD j false && match ops[j]? with
   | some o=>o.after.any fun e=>Region.binds md e && (e.on == i || ds.contains e.on)
   | none=>true
theorem zly {i:Nat}{oi:Oper}{v:Value}(hi:ops[i]?=some oi)(hsel:∀(j:Nat) (o:Oper) cs b,ops[j]?=some o→o.op≠.select cs b)
  (hQ:∀ c a w,Q (.panic c) (a.put oi.dst v) w→Q (.panic c) a w) (ds:List Nat) (hds:∀ j,j∈ds→∀ o,ops[j]?=some o→∃ e∈o.after,Region.binds md e=true∧(e.on=i∨e.on∈ds)) (fuel:Nat):
  ∀(listed:Array Bool) (a:Act) (w:World),(∀ j o,ops[j]?=some o→listed.getD j true=false→j ∉ ds→A j=true) →
   (∀ j oj,ops[j]?=some oj→j≠i→listed.getD j true=false→(∀ e∈oj.after,Region.binds md e=true→e.on≠i)→oi.apart ops oj=true) →
   i∈Region.ready md ops listed→(∀ j∈ds,listed.getD j false=false)→YieldsIf P ops S oi v a→S w →
   wpUp P md ops Q S A fuel (listed.setIfInBounds i true) (a.put oi.dst v) w→wpUp P md ops Q S A (fuel+1) listed a w:=by
 induction fuel with
 | zero=>
  intro listed a w _ _ hr _ hy hS H
  refine⟨fun h0=>absurd hr (by rw [h0];exact List.not_mem_nil),fun j hj=>?_⟩
  by_cases e:j=i
  ·subst e;exact hy.wpOp hi hS ⟨fun _=>hS,H⟩
  ·have:=ready_mono hj e
   rw [H.1] at this
   cases this
 | succ fuel ih=>
  intro listed a w hlow hfree hr hun hy hS H
  refine⟨fun h0=>absurd hr (by rw [h0];exact List.not_mem_nil),fun j hj=>?_⟩
  by_cases e:j=i
  ·subst e;exact hy.wpOp hi hS ⟨fun _=>hS,H⟩
  ·obtain⟨hj0,oj,hoj,hall⟩:=mem_ready.1 hj
   have hi0:=(mem_ready.1 hr).1
   have hi1:listed.getD i false=true→False:=fun h=>by
    by_cases hl:i < listed.size
    ·simp [hl] at hi0 h;rw [hi0] at h;cases h
    ·simp [Array.getElem?_eq_none (Nat.le_of_not_lt hl)] at h
   have hnd:j ∉ ds:=fun hd=>by
    obtain⟨ed,hed,hbd,hon⟩:=hds j hd oj hoj
    have h1:=hall ed hed hbd
    rcases hon with hon | hon
    ·rw [hon] at h1;exact hi1 h1
    ·rw [hun _ hon] at h1;cases h1
   have hnot:∀ ed∈oj.after,Region.binds md ed=true→ed.on≠i:=fun ed hed hbd heq=>hi1 (by have:=hall ed hed hbd;rwa [heq] at this)
   have h2:=wpOp_putIf hoj (hfree j oj hoj e hj0 hnot) (fun cs b=>hsel i oi cs b hi) (fun cs b=>hsel j oj cs b hoj) hQ hy (H.2 j (ready_mono hj e))
   refine wpOp_mono (fun a' w' h3=>?_) h2
   have hS':=h3.2.1 (hlow j oj hoj hj0 hnd)
   have hback:∀ m,(listed.setIfInBounds j true).getD m true=false→listed.getD m true=false:=fun m hmu=>by
    by_cases ejm:j=m
    ·subst ejm;exact hj0
    ·rwa [getD_set_ne true ejm] at hmu
   refine⟨h3.2.1,ih (listed.setIfInBounds j true) a' w' (fun m om hm hmu=>hlow m om hm (hback m hmu)) (fun m om hm hmi hmu hmn=>hfree m om hm hmi (hback m hmu) hmn) (ready_mono hr (Ne.symm e)) (fun d hd=>?_) h3.1 hS' ?_⟩
   ·rw [getD_set_ne (i:=j) (j:=d) false (fun e'=>hnd (by rw [e'];exact hd))]
    exact hun d hd
   ·rw [Array.setIfInBounds_comm _ _ e]
    exact h3.2.2
theorem zlz {i:Nat}{oi:Oper}{v:Value}(hi:ops[i]?=some oi)(hsel:∀(j:Nat) (o:Oper) cs b,ops[j]?=some o→o.op≠.select cs b)
  (hQ:∀ c a w,Q (.panic c) (a.put oi.dst v) w→Q (.panic c) a w) (hA:A i=false) (fuel:Nat):
  ∀(listed:Array Bool) (a:Act) (w:World),
   (∀ j oj,ops[j]?=some oj→j≠i→listed.getD j true=false→(∀ e∈oj.after,Region.binds md e=true→e.on≠i)→oi.apart ops oj=true) →
   i∈Region.ready md ops listed→YieldsIf P ops (fun _=>True) oi v a →
   wpUp P md ops Q S A fuel (listed.setIfInBounds i true) (a.put oi.dst v) w→wpUp P md ops Q S A (fuel+1) listed a w:=by
 have hno:A i=true→S=S→∀ w,S w:=fun h=>by rw [hA] at h;cases h
 induction fuel with
 | zero=>
  intro listed a w _ hr hy H
  refine⟨fun h0=>absurd hr (by rw [h0];exact List.not_mem_nil),fun j hj=>?_⟩
  by_cases e:j=i
  ·subst e;exact hy.wpOp hi trivial ⟨fun h=>hno h rfl w,H⟩
  ·have:=ready_mono hj e
   rw [H.1] at this
   cases this
 | succ fuel ih=>
  intro listed a w hfree hr hy H
  refine⟨fun h0=>absurd hr (by rw [h0];exact List.not_mem_nil),fun j hj=>?_⟩
  by_cases e:j=i
  ·subst e;exact hy.wpOp hi trivial ⟨fun h=>hno h rfl w,H⟩
  ·obtain⟨hj0,oj,hoj,hall⟩:=mem_ready.1 hj
   have hi0:=(mem_ready.1 hr).1
   have hi1:listed.getD i false=true→False:=fun h=>by
    by_cases hl:i < listed.size
    ·simp [hl] at hi0 h;rw [hi0] at h;cases h
    ·simp [Array.getElem?_eq_none (Nat.le_of_not_lt hl)] at h
   have hnot:∀ ed∈oj.after,Region.binds md ed=true→ed.on≠i:=fun ed hed hbd heq=>hi1 (by have:=hall ed hed hbd;rwa [heq] at this)
   have h2:=wpOp_putIf hoj (hfree j oj hoj e hj0 hnot) (fun cs b=>hsel i oi cs b hi) (fun cs b=>hsel j oj cs b hoj) hQ hy (H.2 j (ready_mono hj e))
   refine wpOp_mono (fun a' w' h3=>?_) h2
   refine⟨h3.2.1,ih (listed.setIfInBounds j true) a' w' (fun m om hm hmi hmu hmn=>hfree m om hm hmi ?_ hmn) (ready_mono hr (Ne.symm e)) h3.1 ?_⟩
   ·by_cases ejm:j=m
    ·subst ejm;exact hj0
    ·rwa [getD_set_ne true ejm] at hmu
   ·rw [Array.setIfInBounds_comm _ _ e]
    exact h3.2.2
theorem zlE {listed:Array Bool}{i:Nat}{ds:List Nat}(h:waitsA md ops A listed i ds=true):
  (∀ j o,ops[j]?=some o→listed.getD j true=false→j ∉ ds→A j=true)∧(∀ j∈ds,listed.getD j false=false)∧∀ j,j∈ds→∀ o,ops[j]?=some o→∃ e∈o.after,Region.binds md e=true∧(e.on=i∨e.on∈ds):=by
 simp only [waitsA,Bool.and_eq_true,List.all_eq_true] at h
 refine⟨fun j o hj hl hn=>?_,fun j hj=>?_,fun j hj o ho=>?_⟩
 ·have h1:=h.1 j (List.mem_range.2 (Array.getElem?_eq_some_iff.1 hj).1)
  simp only [Bool.or_eq_true,List.contains_iff_mem] at h1
  rcases h1 with(h1 | h1) | h1
  ·exact h1
  ·exact absurd h1 hn
  ·by_cases hs:j < listed.size
   ·simp [hs] at hl h1;rw [hl] at h1;cases h1
   ·simp [Array.getElem?_eq_none (Nat.le_of_not_lt hs)] at h1
 ·have:=(h.2 j hj).1
  simpa using this
 ·have h2:=(h.2 j hj).2
  rw [ho] at h2
  obtain⟨e,he,hb⟩:=Array.any_eq_true'.1 h2
  simp only [Bool.and_eq_true,Bool.or_eq_true,beq_iff_eq,List.contains_iff_mem] at hb
  exact⟨e,he,hb.1,hb.2⟩
theorem zea (i d:Nat)(ds:List Nat){oi:Oper}{v:Value}{fuel:Nat}{listed:Array Bool}{a:Act}{w:World}(hi:ops[i]?=some oi)(hd:oi.dst=some d)
  (hs:Region.noSelect ops=true) (hf:Region.free md ops listed i=true) (hr:(Region.ready md ops listed).contains i=true) (hw:waitsA md ops A listed i ds=true)
  (hQ:∀ c a w,Q (.panic c) (a.put (some d) v) w→Q (.panic c) a w) (hwt:Region.wanted oi (yielded ops a.tmps)=true) (hy:∀ w,S w→(execOp a.eval oi).run P w=.ok (.value v) w) (hS:S w)
  (h:wpUp P md ops Q S A fuel (listed.setIfInBounds i true) (a.put (some d) v) w):wpUp P md ops Q S A (fuel+1) listed a w:=
 have hw':=zlE hw
 zly hi (Region.noSelect_spec hs) (by rw [hd];exact hQ) ds hw'.2.2 fuel listed a w hw'.1 (Region.free_spec hi hf) (by simpa using hr)
  hw'.2.1 (.inl ⟨hwt,hy⟩) hS (by rw [hd];exact h)
theorem zlA (i d:Nat){oi:Oper}{v:Value}{fuel:Nat}{listed:Array Bool}{a:Act}{w:World}(hi:ops[i]?=some oi)(hd:oi.dst=some d)
  (hs:Region.noSelect ops=true) (hf:Region.free md ops listed i=true) (hr:(Region.ready md ops listed).contains i=true) (hA:A i=false)
  (hQ:∀ c a w,Q (.panic c) (a.put (some d) v) w→Q (.panic c) a w) (hwt:Region.wanted oi (yielded ops a.tmps)=true) (hy:∀ w,(execOp a.eval oi).run P w=.ok (.value v) w)
  (h:wpUp P md ops Q S A fuel (listed.setIfInBounds i true) (a.put (some d) v) w):wpUp P md ops Q S A (fuel+1) listed a w:=
 zlz hi (Region.noSelect_spec hs) (by rw [hd];exact hQ) hA fuel listed a w (Region.free_spec hi hf) (by simpa using hr) (.inl ⟨hwt,fun w _=>hy w⟩) (by rw [hd];exact h)
theorem zE (i d:Nat){oi:Oper}{v:Value}{fuel:Nat}{listed:Array Bool}{a:Act}{w:World}(h:wpUp P md ops Q S A fuel (listed.setIfInBounds i true) (a.put (some d) v) w)(hi:ops[i]?=some oi:=by rfl)(hd:oi.dst=some d:=by rfl)(hs:Region.noSelect ops=true:=by kernel_rfl)(hf:Region.free md ops listed i=true:=by kernel_rfl)(hr:(Region.ready md ops listed).contains i=true:=by kernel_rfl)(hA:A i=false:=by kernel_rfl)(hQ:∀ c a w,Q (.panic c) (a.put (some d) v) w→Q (.panic c) a w:=by exact fun _ _ _ h=>h)(hwt:Region.wanted oi (yielded ops a.tmps)=true:=by rfl)(hy:∀ w,(execOp a.eval oi).run P w=.ok (.value v) w:=by intro w;go_simp;with_reducible rfl):wpUp P md ops Q S A (fuel+1) listed a w:=zlA i d hi hd hs hf hr hA hQ hwt hy h
theorem zbF (i:Nat){o:Oper}{fuel:Nat}{listed:Array Bool}{a:Act}{w:World}(hr:Region.ready md ops listed=[i])(ho:ops[i]?=some o)
  (h:∀ K':Act→World→Prop,Shut (∀ a w,(A i=true→S w)→wpUp P md ops Q S A fuel (listed.setIfInBounds i true) a w→K' a w)→if Region.wanted o (yielded ops a.tmps)=true then Oper.wp P o a w K' Q else K' (a.put o.dst undef) w):
  wpUp P md ops Q S A (fuel+1) listed a w:=by
 refine⟨fun h0=>absurd (hr.symm.trans h0) (by simp),fun j hj=>?_⟩
 rw [hr] at hj
 obtain rfl:j=i:=by simpa using hj
 exact wpOp_step ho (fun K' hK=>h K' (fun a w hS hW=>hK a w ⟨hS,hW⟩))
theorem zgY {fuel:Nat}{listed:Array Bool}{a:Act}{w:World}(hr:Region.ready md ops listed=[])(h:Q .normal a w):wpUp P md ops Q S A fuel listed a w:=by
 cases fuel with
 | zero=>exact⟨hr,h⟩
 | succ fuel=>exact⟨fun _=>h,fun j hj=>by rw [hr] at hj;cases hj⟩
theorem zgZ {id:Nat}{a:Act}{w:World}(hm:P.follows .mixedOrders=true)(hS:S w.drew)
  (h:S w.drew→wpUp P .any ops Q S A ops.size (Array.replicate ops.size false) a w.drew):(Code.region id ops true).wp P Q a w:=
 wp_region_any hm (zhn _ _ _ _ (h hS))
end
end Go.Proofs.YtdedolkgcdlmeaaGreatDoor
namespace Go.Proofs.YtdedolkgcdlmeaaGreatDoor
open Go.RowKit Limbs
theorem Box.alloc {W:World}{B:Nat}{u0 u1:Value}(h:Box W B u0 u1)(hB:B < W.heap.size)(ob:Obj):Box (W.alloc ob) B u0 u1:=h.later ((Below.refl W.heap.size W).alloc zL ob) hB
theorem NumL.one {w:World}{v:Value}{n:Nat}(h:NumL w v 1 n):NumL w v 1 2:=h.tight (by decide)
theorem zj3 (r k:Nat)(hk:k < r):(List.replicate r (1:Int)).getD k 0=1:=by
 rw [List.getD_eq_getElem?_getD,List.getElem?_replicate,if_pos hk];rfl
end Go.Proofs.YtdedolkgcdlmeaaGreatDoor
namespace Go.Proofs.YtdedolkgcdlmeaaGreatDoor
def sumN:Nat→(Nat→Int)→Int
 | 0,_=>0
 | n+1,f=>sumN n f+f n
theorem zg {n:Nat}{f g:Nat→Int}(h:∀ i,i < n→f i=g i):sumN n f=sumN n g:=by
 induction n with
 | zero=>rfl
 | succ n ih=>rw [sumN,sumN,ih fun i hi=>h i (by omega),h n (by omega)]
theorem zai (n:Nat)(f g:Nat→Int):sumN n (fun i=>f i+g i)=sumN n f+sumN n g:=by
 induction n with
 | zero=>rfl
 | succ n ih=>rw [sumN,sumN,sumN,ih];omega
theorem zC (n:Nat)(c:Int)(f:Nat→Int):sumN n (fun i=>c * f i)=c * sumN n f:=by
 induction n with
 | zero=>simp [sumN]
 | succ n ih=>rw [sumN,sumN,ih,Int.mul_add]
theorem zX (n:Nat):sumN n (fun _=>0)=0:=by
 induction n with
 | zero=>rfl
 | succ n ih=>rw [sumN,ih];rfl
theorem zap (n:Nat)(f:Nat→Int):sumN n (fun i=>- f i)=- sumN n f:=by
 induction n with
 | zero=>rfl
 | succ n ih=>rw [sumN,sumN,ih];omega
theorem zaG (n m:Nat)(f:Nat→Nat→Int):sumN n (fun i=>sumN m (fun j=>f i j))=sumN m (fun j=>sumN n (fun i=>f i j)):=by
 induction n with
 | zero=>rw [sumN,← zX m];rfl
 | succ n ih=>rw [sumN,ih,← zai];rfl
def sk (j b:Nat):Nat:=if b < j then b else b+1
theorem zR {j b:Nat}(h:b < j):sk j b=b:=if_pos h
theorem zav {j b:Nat}(h:¬ b < j):sk j b=b+1:=if_neg h
theorem zk4 (g:Nat→Int)(m j:Nat)(hj:j≤m):sumN m (fun k=>g (sk j k))=sumN (m+1) (fun l=>if l=j then 0 else g l):=by
 induction m with
 | zero=>
  obtain rfl:j=0:=by omega
  simp [sumN]
 | succ m ih=>
  by_cases h:j=m+1
  ·subst h
   rw [sumN,zg (g:=g) fun k hk=>by rw [zR (by omega)]]
   rw [sumN,if_pos rfl,zg (n:=m+1) (g:=g) fun k hk=>by rw [if_neg (by omega)]]
   rw [sumN,zR (by omega)];omega
  ·have e:sumN (m+1+1) (fun l=>if l=j then 0 else g l)=sumN (m+1) (fun l=>if l=j then 0 else g l)+(if m+1=j then 0 else g (m+1)):=rfl
   rw [e,sumN,ih (by omega),if_neg (by omega),zav (by omega)]
def sgnN (k:Nat):Int:=if k % 2=0 then 1 else -1
theorem zdZ (k:Nat):sgnN (k+1)=- sgnN k:=by
 unfold sgnN
 split <;> split <;> omega
theorem zgC (a b:Nat):sgnN a * sgnN b=sgnN (a+b):=by
 unfold sgnN
 split <;> split <;> split <;> first | omega | rfl
def det:Nat→(Nat→Nat→Int)→Int
 | 0,_=>1
 | n+1,M=>sumN (n+1) (fun j=>sgnN (n+j) * M n j * det n (fun a b=>M a (sk j b)))
theorem zm {n:Nat}:∀ {M M':Nat→Nat→Int},(∀ a b,a < n→b < n→M a b=M' a b)→det n M=det n M':=by
 induction n with
 | zero=>intros;rfl
 | succ n ih=>
  intro M M' h
  rw [det,det]
  apply zg
  intro j hj
  rw [h n j (by omega) hj,ih (M:=fun a b=>M a (sk j b)) (M':=fun a b=>M' a (sk j b)) fun a b ha hb=>h a _ (by omega) (by unfold sk;split <;> omega)]
def setRow (M:Nat→Nat→Int)(i:Nat)(u:Nat→Int):Nat→Nat→Int:=fun a b=>if a=i then u b else M a b
theorem zgB (M:Nat→Nat→Int)(i:Nat):setRow M i (M i)=M:=by
 funext a b
 unfold setRow
 split
 ·rename_i h;rw [h]
 ·rfl
theorem zO (M:Nat→Nat→Int)(i:Nat)(u:Nat→Int)(b:Nat):setRow M i u i b=u b:=if_pos rfl
theorem zS (M:Nat→Nat→Int)(i:Nat)(u:Nat→Int){a:Nat}(h:a≠i)(b:Nat):setRow M i u a b=M a b:=if_neg h
theorem zcp {n:Nat}:∀(M:Nat→Nat→Int) (i:Nat) (u v:Nat→Int) (x y:Int),i < n→det n (setRow M i (fun b=>x * u b+y * v b))=x * det n (setRow M i u)+y * det n (setRow M i v):=by
 induction n with
 | zero=>intro M i u v x y h;omega
 | succ n ih=>
  intro M i u v x y h
  rw [det,det,det,← zC,← zC,← zai]
  apply zg
  intro j hj
  by_cases hin:i=n
  ·subst hin
   have e:∀ w:Nat→Int,det i (fun a b=>setRow M i w a (sk j b))=det i (fun a b=>M a (sk j b)):=fun w=>zm fun a b ha hb=>zS M i w (by omega) _
   rw [zO,zO,zO,e,e,e]
   generalize det i (fun a b=>M a (sk j b))=d
   generalize sgnN (i+j)=s
   rw [Int.mul_add,Int.add_mul,← Int.mul_assoc x,← Int.mul_assoc y,← Int.mul_assoc s,← Int.mul_assoc s,Int.mul_comm s x,Int.mul_comm s y,Int.mul_assoc x s,Int.mul_assoc y s]
  ·have e:∀ w:Nat→Int,(fun a b=>setRow M i w a (sk j b))=setRow (fun a b=>M a (sk j b)) i (fun b=>w (sk j b)):=fun w=>rfl
   have hn:∀ w:Nat→Int,setRow M i w n j=M n j:=fun w=>zS M i w (by omega) _
   rw [hn,hn,hn,e,e,e,ih _ i (fun b=>u (sk j b)) (fun b=>v (sk j b)) x y (by omega)]
   generalize det n (setRow (fun a b=>M a (sk j b)) i (fun b=>u (sk j b)))=d1
   generalize det n (setRow (fun a b=>M a (sk j b)) i (fun b=>v (sk j b)))=d2
   generalize sgnN (n+j) * M n j=s
   rw [Int.mul_add,← Int.mul_assoc,← Int.mul_assoc,← Int.mul_assoc,← Int.mul_assoc,Int.mul_comm s x,Int.mul_comm s y]
def swapRows (M:Nat→Nat→Int)(i k:Nat):Nat→Nat→Int:=fun a b=>if a=i then M k b else if a=k then M i b else M a b
theorem zdY (M:Nat→Nat→Int){i k:Nat}(h:i≠k)(u v:Nat→Int):setRow (setRow M i u) k v=setRow (setRow M k v) i u:=by
 funext a b
 unfold setRow
 split <;> split <;> first | rfl | omega
theorem zgR {n:Nat}(halt:∀(M:Nat→Nat→Int) (i k:Nat),i < k→k < n→(∀ b,M i b=M k b)→det n M=0)(M:Nat→Nat→Int)(i k:Nat)(hik:i < k)(hk:k < n):det n (swapRows M i k)=- det n M:=by
 let u:=M i
 let v:=M k
 let w:Nat→Int:=fun b=>1 * u b+1 * v b
 have hne:i≠k:=by omega
 have h0:det n (setRow (setRow M i w) k w)=0:=halt _ i k hik hk fun b=>by
  rw [zO,zS _ _ _ hne,zO]
 have z:∀ x:Nat→Int,det n (setRow (setRow M i x) k x)=0:=fun x=>halt _ i k hik hk fun b=>by
  rw [zO,zS _ _ _ hne,zO]
 have h1:det n (setRow (setRow M i w) k w)=1 * det n (setRow (setRow M i w) k u)+1 * det n (setRow (setRow M i w) k v):=zcp _ k u v 1 1 hk
 have h2:∀ x:Nat→Int,det n (setRow (setRow M i w) k x)=1 * det n (setRow (setRow M i u) k x)+1 * det n (setRow (setRow M i v) k x):=fun x=>by
  rw [zdY M hne w x,zdY M hne u x,zdY M hne v x]
  exact zcp _ i u v 1 1 (by omega)
 rw [h2 u,h2 v,z u,z v] at h1
 have e1:setRow (setRow M i u) k v=M:=by
  funext a b
  unfold setRow
  split
  ·rename_i h;rw [h]
  ·split
   ·rename_i h;rw [h]
   ·rfl
 have e2:setRow (setRow M i v) k u=swapRows M i k:=by
  funext a b
  unfold setRow swapRows
  by_cases h1:a=k
  ·rw [if_pos h1,if_neg (by omega),if_pos h1]
  ·rw [if_neg h1]
   by_cases h2:a=i
   ·rw [if_pos h2,if_pos h2]
   ·rw [if_neg h2,if_neg h2,if_neg h1]
 rw [e1,e2] at h1
 omega
theorem zkT {j l:Nat}(h:l < j)(b:Nat):sk j (sk l b)=sk l (sk (j - 1) b):=by
 unfold sk
 repeat' split
 all_goals omega
theorem zeU (n:Nat)(M:Nat→Nat→Int)(h:∀ b,M n b=M (n+1) b):det (n+2) M=0:=by
 let E:Nat→Nat→Int:=fun j l=>if l < j then det n (fun a b=>M a (sk j (sk l b))) else det n (fun a b=>M a (sk j (sk (l - 1) b)))
 let s:Nat→Nat→Int:=fun j l=>if l < j then sgnN (n+l) else sgnN (n+l - 1)
 let F:Nat→Nat→Int:=fun j l=>if l=j then 0 else sgnN (n+1+j) * M n j *(s j l * M n l * E j l)
 have hin:∀ j,j < n+2→det (n+1) (fun a b=>M a (sk j b))=sumN (n+2) (fun l=>if l=j then 0 else s j l * M n l * E j l):=fun j hj=>by
  rw [← zk4 (fun l=>s j l * M n l * E j l) (n+1) j (by omega),det]
  apply zg
  intro k hk
  show sgnN (n+k) * M n (sk j k) * det n (fun a b=>M a (sk j (sk k b)))=(if sk j k < j then sgnN (n+sk j k) else sgnN (n+sk j k - 1)) * M n (sk j k) *(if sk j k < j then det n (fun a b=>M a (sk j (sk (sk j k) b))) else det n (fun a b=>M a (sk j (sk (sk j k - 1) b))))
  by_cases hkj:k < j
  ·rw [zR hkj,if_pos hkj,if_pos hkj]
  ·rw [zav hkj,if_neg (by omega),if_neg (by omega)]
   rfl
 have htot:det (n+2) M=sumN (n+2) (fun j=>sumN (n+2) (fun l=>F j l)):=by
  rw [det]
  apply zg
  intro j hj
  rw [hin j hj,← zC]
  apply zg
  intro l hl
  show sgnN (n+1+j) * M (n+1) j *(if l=j then 0 else s j l * M n l * E j l)=(if l=j then 0 else sgnN (n+1+j) * M n j *(s j l * M n l * E j l))
  rw [← h j]
  split
  ·rw [Int.mul_zero]
  ·rfl
 have hanti':∀ j l,l < j→F j l=- F l j:=fun j l hlj=>by
  have hE:E l j=E j l:=by
   show(if j < l then _ else _)=(if l < j then _ else _)
   rw [if_neg (by omega),if_pos hlj]
   congr 1
   funext a b
   rw [zkT hlj]
  have hs1:s j l=sgnN (n+l):=if_pos hlj
  have hs2:s l j=sgnN (n+j - 1):=if_neg (by omega)
  show(if l=j then 0 else _)=- (if j=l then 0 else _)
  rw [if_neg (by omega),if_neg (by omega),hE,hs1,hs2]
  have e1:sgnN (n+1+j)=- sgnN (n+j):=by rw [show n+1+j=(n+j)+1 by omega,zdZ]
  have e2:sgnN (n+1+l)=- sgnN (n+l):=by rw [show n+1+l=(n+l)+1 by omega,zdZ]
  have e3:sgnN (n+j)=- sgnN (n+j - 1):=by rw [← zdZ,show n+j - 1+1=n+j by omega]
  rw [e1,e2,e3]
  generalize sgnN (n+l)=p
  generalize sgnN (n+j - 1)=q
  generalize E j l=e
  generalize M n j=x
  generalize M n l=y
  simp only [Int.neg_mul,Int.neg_neg]
  rw [Int.mul_comm (q * x),Int.mul_comm (p * y) (q * x * e)]
  ac_rfl
 have hanti:∀ j l,F j l=- F l j:=fun j l=>by
  rcases Nat.lt_trichotomy l j with h1 | h1 | h1
  ·exact hanti' j l h1
  ·subst h1
   show(if l=l then 0 else _)=- (if l=l then 0 else _)
   rw [if_pos rfl];rfl
  ·rw [hanti' l j h1];omega
 have h2:sumN (n+2) (fun j=>sumN (n+2) (fun l=>F j l))=- sumN (n+2) (fun j=>sumN (n+2) (fun l=>F j l)):=by
  conv=>lhs;rw [zaG]
  rw [← zap]
  apply zg
  intro j _
  rw [← zap]
  apply zg
  intro l _
  exact hanti l j
 rw [htot]
 omega
theorem zam:∀(n:Nat) (M:Nat→Nat→Int) (i k:Nat),i < k→k < n→(∀ b,M i b=M k b)→det n M=0:=by
 intro n
 induction n with
 | zero=>intro M i k h1 h2;omega
 | succ n ih=>
  intro M i k hik hk h
  by_cases hkn:k < n
  ·rw [det,← zX (n+1)]
   apply zg
   intro j hj
   rw [ih (fun a b=>M a (sk j b)) i k hik hkn fun b=>h _,Int.mul_zero]
  ·obtain rfl:k=n:=by omega
   obtain⟨m,rfl⟩:∃ m,k=m+1:=⟨k - 1,by omega⟩
   by_cases him:i=m
   ·subst him
    exact zeU i M h
   ·have hsw:det (m+1+1) (swapRows M i m)=- det (m+1+1) M:=by
     rw [det,det,← zap]
     apply zg
     intro j hj
     have e1:swapRows M i m (m+1) j=M (m+1) j:=by
      unfold swapRows
      rw [if_neg (by omega),if_neg (by omega)]
     have e2:(fun a b=>swapRows M i m a (sk j b))=swapRows (fun a b=>M a (sk j b)) i m:=rfl
     rw [e1,e2,zgR ih _ i m (by omega) (by omega),Int.mul_neg]
    have h0:det (m+1+1) (swapRows M i m)=0:=zeU m _ fun b=>by
     unfold swapRows
     rw [if_neg (by omega),if_pos rfl,if_neg (by omega),if_neg (by omega)]
     exact h b
    omega
theorem zcr (n:Nat)(M:Nat→Nat→Int)(i k:Nat)(hik:i < k)(hk:k < n):det n (swapRows M i k)=- det n M:=zgR (zam n) M i k hik hk
end Go.Proofs.YtdedolkgcdlmeaaGreatDoor
namespace Go.Proofs.YtdedolkgcdlmeaaGreatDoor
def unitR (k:Nat):Nat→Int:=fun b=>if b=k then 1 else 0
def mulM (n:Nat)(T H:Nat→Nat→Int):Nat→Nat→Int:=fun a b=>sumN n (fun k=>T a k * H k b)
theorem zF (n k:Nat)(hk:k < n)(f:Nat→Int)(h:∀ i,i < n→i≠k→f i=0):sumN n f=f k:=by
 induction n with
 | zero=>omega
 | succ n ih=>
  by_cases hkn:k=n
  ·subst hkn
   rw [sumN,zg (g:=fun _=>0) fun i hi=>h i (by omega) (by omega),zX];omega
  ·rw [sumN,ih (by omega) fun i hi hne=>h i (by omega) hne,h n (by omega) (by omega)];omega
theorem zig (n:Nat)(M:Nat→Nat→Int)(i:Nat)(hi:i < n):det n (setRow M i (fun _=>0))=0:=by
 have h:=zcp M i (fun _=>0) (fun _=>0) 0 0 hi
 have e:(fun b:Nat=>(0:Int) *(fun _=>(0:Int)) b+0 *(fun _=>(0:Int)) b)=fun _=>0:=by funext b;simp
 rw [e] at h
 simpa using h
theorem zbO (n:Nat)(M:Nat→Nat→Int)(i:Nat)(hi:i < n)(m:Nat)(c:Nat→Int)(v:Nat→Nat→Int):
  det n (setRow M i (fun b=>sumN m (fun k=>c k * v k b)))=sumN m (fun k=>c k * det n (setRow M i (v k))):=by
 induction m with
 | zero=>rw [sumN];exact zig n M i hi
 | succ m ih=>
  have e:(fun b=>sumN (m+1) (fun k=>c k * v k b))=fun b=>1 *(fun b=>sumN m (fun k=>c k * v k b)) b+c m *(v m) b:=by
   funext b;rw [sumN];simp
  rw [e,zcp M i _ (v m) 1 (c m) hi,ih,sumN];omega
theorem zii (n:Nat):det n (fun a b=>unitR a b)=1:=by
 induction n with
 | zero=>rfl
 | succ n ih=>
  rw [det,zF (n+1) n (by omega) _ fun j hj hne=>by
   show sgnN (n+j) *(if j=n then 1 else 0) * _=0
   rw [if_neg hne,Int.mul_zero,Int.zero_mul]]
  have e:det n (fun a b=>unitR a (sk n b))=det n (fun a b=>unitR a b):=zm fun a b _ hb=>by rw [zR hb]
  rw [e,ih]
  show sgnN (n+n) *(if n=n then 1 else 0) * 1=1
  rw [if_pos rfl]
  have:sgnN (n+n)=1:=by unfold sgnN;rw [if_pos (by omega)]
  rw [this];rfl
theorem pigeon:∀(m:Nat) (f:Nat→Nat),(∀ i,i≤m→f i < m)→∃ i k,i < k∧k≤m∧f i=f k:=by
 intro m
 induction m with
 | zero=>intro f h;exact absurd (h 0 (by omega)) (by omega)
 | succ m ih=>
  intro f h
  by_cases hex:∃ i,i≤m∧f i=f (m+1)
  ·obtain⟨i,hi,e⟩:=hex
   exact⟨i,m+1,by omega,by omega,e⟩
  ·have hne:∀ i,i≤m→f i≠f (m+1):=fun i hi e=>hex ⟨i,hi,e⟩
   have hlast:=h (m+1) (by omega)
   obtain⟨i,k,hik,hk,e⟩:=ih (fun i=>if f i < f (m+1) then f i else f i - 1) fun i hi=>by
    have h1:=h i (by omega)
    have h2:=hne i hi
    show(if f i < f (m+1) then f i else f i - 1) < m
    split <;> omega
   refine⟨i,k,hik,by omega,?_⟩
   have h1:=hne i (by omega)
   have h2:=hne k (by omega)
   split at e <;> split at e <;> omega
theorem zic (n:Nat)(H:Nat→Nat→Int):∀(m:Nat),m≤n→∀ φ:Nat→Nat,(∀ i,i < n→φ i < n)→(∀ i,m≤i→i < n→φ i=i)→det n (fun a b=>H (φ a) b)=det n (fun a b=>unitR (φ a) b) * det n H:=by
 intro m
 induction m with
 | zero=>
  intro _ φ _ h
  have e1:det n (fun a b=>H (φ a) b)=det n H:=zm fun a b ha _=>by rw [h a (by omega) ha]
  have e2:det n (fun a b=>unitR (φ a) b)=det n (fun a b=>unitR a b):=zm fun a b ha _=>by rw [h a (by omega) ha]
  rw [e1,e2,zii];omega
 | succ m ih=>
  intro hm φ hlt h
  have zero:∀ i k,i < k→k < n→φ i=φ k→det n (fun a b=>H (φ a) b)=det n (fun a b=>unitR (φ a) b) * det n H:=fun i k hik hk e=>by
   rw [zam n (fun a b=>H (φ a) b) i k hik hk fun b=>by rw [e],zam n (fun a b=>unitR (φ a) b) i k hik hk fun b=>by rw [e],Int.zero_mul]
  by_cases hmm:φ m=m
  ·exact ih (by omega) φ hlt fun i h1 h2=>by
    by_cases hi:i=m
    ·rw [hi];exact hmm
    ·exact h i (by omega) h2
  ·by_cases hbig:m < φ m
   ·exact zero m (φ m) hbig (hlt m (by omega)) (h (φ m) (by omega) (hlt m (by omega))).symm
   ·by_cases hex:∃ i,i < m∧φ i=m
    ·obtain⟨i,him,hi⟩:=hex
     have hsw:=ih (by omega) (fun a=>if a=i then φ m else if a=m then φ i else φ a) (fun a ha=>by
      show(if a=i then φ m else if a=m then φ i else φ a) < n
      split
      ·exact hlt m (by omega)
      ·split
       ·exact hlt i (by omega)
       ·exact hlt a ha) (fun a h1 h2=>by
      show(if a=i then φ m else if a=m then φ i else φ a)=a
      rw [if_neg (by omega)]
      split
      ·rename_i e;rw [e];exact hi
      ·exact h a (by omega) h2)
     have e:∀ G:Nat→Nat→Int,(fun a b=>G (if a=i then φ m else if a=m then φ i else φ a) b)=swapRows (fun a b=>G (φ a) b) i m:=fun G=>by
      funext a b
      unfold swapRows
      split
      ·rfl
      ·split <;> rfl
     rw [e H,e (fun a b=>unitR a b),zcr n _ i m him (by omega),zcr n _ i m him (by omega),Int.neg_mul] at hsw
     have e2:det n (fun a b=>(fun a b=>unitR a b) (φ a) b)=det n (fun a b=>unitR (φ a) b):=rfl
     rw [e2] at hsw
     omega
    ·have hsmall:(∀ i,i≤m→φ i < m)∨∃ i,i≤m∧m < φ i:=by
      by_cases hx:∃ i,i≤m∧m < φ i
      ·exact .inr hx
      ·refine .inl fun i hi=>?_
       have h1:¬ m < φ i:=fun hx'=>hx ⟨i,hi,hx'⟩
       have h2:φ i≠m:=fun e=>by
        by_cases hi':i=m
        ·exact hmm (hi' ▸ e)
        ·exact hex ⟨i,by omega,e⟩
       omega
     rcases hsmall with hs |⟨i,hi,hx⟩
     ·obtain⟨i,k,hik,hk,e⟩:=pigeon m φ hs
      exact zero i k hik (by omega) e
     ·exact zero i (φ i) (by omega) (hlt i (by omega)) (h (φ i) (by omega) (hlt i (by omega))).symm
theorem zd9 (n k:Nat)(hk:k < n)(H:Nat→Nat→Int)(b:Nat):sumN n (fun q=>unitR k q * H q b)=H k b:=by
 rw [zF n k hk _ fun i _ hne=>by show(if i=k then 1 else 0) * _=0;rw [if_neg hne,Int.zero_mul]]
 show(if k=k then 1 else 0) * _=_
 rw [if_pos rfl,Int.one_mul]
theorem zgP (n:Nat)(c:Nat→Int)(b:Nat)(hb:b < n):sumN n (fun k=>c k * unitR k b)=c b:=by
 rw [zF n b hb _ fun i _ hne=>by show c i *(if b=i then 1 else 0)=0;rw [if_neg (by omega),Int.mul_zero]]
 show c b *(if b=b then 1 else 0)=c b
 rw [if_pos rfl,Int.mul_one]
theorem zif (n:Nat)(H:Nat→Nat→Int):∀ q,q≤n→∀(T:Nat→Nat→Int) (φ:Nat→Nat),(∀ i,i < n→φ i < n)→(∀ i,q≤i→i < n→∀ b,T i b=unitR (φ i) b)→det n (mulM n T H)=det n T * det n H:=by
 intro q
 induction q with
 | zero=>
  intro _ T φ hφ h
  have e1:det n (mulM n T H)=det n (fun a b=>H (φ a) b):=zm fun a b ha _=>by
   show sumN n (fun k=>T a k * H k b)=_
   rw [zg (g:=fun k=>unitR (φ a) k * H k b) fun k _=>by rw [h a (by omega) ha]]
   exact zd9 n (φ a) (hφ a ha) H b
  have e2:det n T=det n (fun a b=>unitR (φ a) b):=zm fun a b ha _=>h a (by omega) ha b
  rw [e1,e2]
  exact zic n H n zL φ hφ fun i h1 h2=>by omega
 | succ q ih=>
  intro hq T φ hφ h
  have hqn:q < n:=by omega
  have e1:det n (mulM n T H)=sumN n (fun k=>T q k * det n (mulM n (setRow T q (unitR k)) H)):=by
   have e:mulM n T H=setRow (mulM n T H) q (fun b=>sumN n (fun k=>T q k * H k b)):=(zgB (mulM n T H) q).symm
   rw [e,zbO n _ q hqn]
   apply zg
   intro k hk
   congr 1
   apply zm
   intro a b ha hb
   by_cases haq:a=q
   ·rw [haq,zO]
    show H k b=sumN n (fun j=>setRow T q (unitR k) q j * H j b)
    rw [zg (g:=fun j=>unitR k j * H j b) fun j _=>by rw [zO],zd9 n k hk]
   ·rw [zS _ _ _ haq]
    show sumN n (fun j=>T a j * H j b)=sumN n (fun j=>setRow T q (unitR k) a j * H j b)
    exact zg fun j _=>by rw [zS _ _ _ haq]
  have e2:det n T=sumN n (fun k=>T q k * det n (setRow T q (unitR k))):=by
   have e:det n T=det n (setRow T q (fun b=>sumN n (fun k=>T q k * unitR k b))):=zm fun a b ha hb=>by
    by_cases haq:a=q
    ·rw [haq,zO,zgP n _ b hb]
    ·rw [zS _ _ _ haq]
   rw [e,zbO n _ q hqn]
  rw [e1,e2,Int.mul_comm,← zC]
  apply zg
  intro k hk
  rw [ih (by omega) (setRow T q (unitR k)) (fun i=>if i=q then k else φ i) (fun i hi=>by
   show(if i=q then k else φ i) < n
   split
   ·exact hk
   ·exact hφ i hi) (fun i h1 h2 b=>by
   by_cases hiq:i=q
   ·rw [hiq,zO,if_pos rfl]
   ·rw [zS _ _ _ hiq,if_neg hiq];exact h i (by omega) h2 b)]
  rw [← Int.mul_assoc,Int.mul_comm (det n H)]
theorem zaA (n:Nat)(T H:Nat→Nat→Int):det n (mulM n T H)=det n T * det n H:=
 zif n H n zL T (fun _=>0) (fun i hi=>by omega) (fun i h1 h2=>by omega)
end Go.Proofs.YtdedolkgcdlmeaaGreatDoor
