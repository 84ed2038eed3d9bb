import Derived.Test.YtnhbfehfipafoaaGreatDoorSwap
namespace Go.Proofs.YtnhbfehfipafoaaGreatDoor
open Go
section
variable {P:Program}{ops:Array Oper}{Q:Exit→Act→World→Prop}{md:Region.Mode}{S:World→Prop}{A:Nat→Bool}
def wpUp (P:Program)(md:Region.Mode)(ops:Array Oper)(Q:Exit→Act→World→Prop)(S:World→Prop)(A:Nat→Bool):Nat→Array Bool→Act→World→Prop
 | 0=>fun listed a w=>Region.ready md ops listed=[]∧Q .normal a w
 | fuel+1=>fun listed a w=>(Region.ready md ops listed=[]→Q .normal a w) ∧
   ∀ j,j∈Region.ready md ops listed→wpOp P ops Q j (fun a' w'=>(A j=true→S w')∧wpUp P md ops Q S A fuel (listed.setIfInBounds j true) a' w') a w
theorem zf5 (fuel:Nat):∀(listed:Array Bool) (a:Act) (w:World),wpUp P md ops Q S A fuel listed a w→wpAny P md ops Q fuel listed a w:=by
 induction fuel with
 | zero=>exact fun _ _ _ h=>h
 | succ fuel ih=>exact fun _ _ _ h=>⟨h.1,fun j hj=>wpOp_mono (fun a' w' h'=>ih _ a' w' h'.2) (h.2 j hj)⟩
def waitsA (md:Region.Mode)(ops:Array Oper)(A:Nat→Bool)(listed:Array Bool)(i:Nat)(ds:List Nat):Bool:=
 ((List.range ops.size).all fun j=>A j || ds.contains j || listed.getD j false) &&
  ds.all fun j=>!listed.getD j false && match ops[j]? with
   | some o=>o.after.any fun e=>Region.binds md e && (e.on == i || ds.contains e.on)
   | none=>true
theorem zjN {i:Nat}{oi:Oper}{v:Value}(hi:ops[i]?=some oi)(hsel:∀(j:Nat) (o:Oper) cs b,ops[j]?=some o→o.op≠.select cs b)
  (hQ:∀ c a w,Q (.panic c) (a.put oi.dst v) w→Q (.panic c) a w) (ds:List Nat) (hds:∀ j,j∈ds→∀ o,ops[j]?=some o→∃ e∈o.after,Region.binds md e=true∧(e.on=i∨e.on∈ds)) (fuel:Nat):
  ∀(listed:Array Bool) (a:Act) (w:World),(∀ j o,ops[j]?=some o→listed.getD j true=false→j ∉ ds→A j=true) →
   (∀ j oj,ops[j]?=some oj→j≠i→listed.getD j true=false→(∀ e∈oj.after,Region.binds md e=true→e.on≠i)→oi.apart ops oj=true) →
   i∈Region.ready md ops listed→(∀ j∈ds,listed.getD j false=false)→YieldsIf P ops S oi v a→S w →
   wpUp P md ops Q S A fuel (listed.setIfInBounds i true) (a.put oi.dst v) w→wpUp P md ops Q S A (fuel+1) listed a w:=by
 induction fuel with
 | zero=>
  intro listed a w _ _ hr _ hy hS H
  refine⟨fun h0=>absurd hr (by rw [h0];exact List.not_mem_nil),fun j hj=>?_⟩
  by_cases e:j=i
  ·subst e;exact hy.wpOp hi hS ⟨fun _=>hS,H⟩
  ·have:=ready_mono hj e
   rw [H.1] at this
   cases this
 | succ fuel ih=>
  intro listed a w hlow hfree hr hun hy hS H
  refine⟨fun h0=>absurd hr (by rw [h0];exact List.not_mem_nil),fun j hj=>?_⟩
  by_cases e:j=i
  ·subst e;exact hy.wpOp hi hS ⟨fun _=>hS,H⟩
  ·obtain⟨hj0,oj,hoj,hall⟩:=mem_ready.1 hj
   have hi0:=(mem_ready.1 hr).1
   have hi1:listed.getD i false=true→False:=fun h=>by
    by_cases hl:i < listed.size
    ·simp [hl] at hi0 h;rw [hi0] at h;cases h
    ·simp [Array.getElem?_eq_none (Nat.le_of_not_lt hl)] at h
   have hnd:j ∉ ds:=fun hd=>by
    obtain⟨ed,hed,hbd,hon⟩:=hds j hd oj hoj
    have h1:=hall ed hed hbd
    rcases hon with hon | hon
    ·rw [hon] at h1;exact hi1 h1
    ·rw [hun _ hon] at h1;cases h1
   have hnot:∀ ed∈oj.after,Region.binds md ed=true→ed.on≠i:=fun ed hed hbd heq=>hi1 (by have:=hall ed hed hbd;rwa [heq] at this)
   have h2:=wpOp_putIf hoj (hfree j oj hoj e hj0 hnot) (fun cs b=>hsel i oi cs b hi) (fun cs b=>hsel j oj cs b hoj) hQ hy (H.2 j (ready_mono hj e))
   refine wpOp_mono (fun a' w' h3=>?_) h2
   have hS':=h3.2.1 (hlow j oj hoj hj0 hnd)
   have hback:∀ m,(listed.setIfInBounds j true).getD m true=false→listed.getD m true=false:=fun m hmu=>by
    by_cases ejm:j=m
    ·subst ejm;exact hj0
    ·rwa [getD_set_ne true ejm] at hmu
   refine⟨h3.2.1,ih (listed.setIfInBounds j true) a' w' (fun m om hm hmu=>hlow m om hm (hback m hmu)) (fun m om hm hmi hmu hmn=>hfree m om hm hmi (hback m hmu) hmn) (ready_mono hr (Ne.symm e)) (fun d hd=>?_) h3.1 hS' ?_⟩
   ·rw [getD_set_ne (i:=j) (j:=d) false (fun e'=>hnd (by rw [e'];exact hd))]
    exact hun d hd
   ·rw [Array.setIfInBounds_comm _ _ e]
    exact h3.2.2
theorem zjO {i:Nat}{oi:Oper}{v:Value}(hi:ops[i]?=some oi)(hsel:∀(j:Nat) (o:Oper) cs b,ops[j]?=some o→o.op≠.select cs b)
  (hQ:∀ c a w,Q (.panic c) (a.put oi.dst v) w→Q (.panic c) a w) (hA:A i=false) (fuel:Nat):
  ∀(listed:Array Bool) (a:Act) (w:World),
   (∀ j oj,ops[j]?=some oj→j≠i→listed.getD j true=false→(∀ e∈oj.after,Region.binds md e=true→e.on≠i)→oi.apart ops oj=true) →
   i∈Region.ready md ops listed→YieldsIf P ops (fun _=>True) oi v a →
   wpUp P md ops Q S A fuel (listed.setIfInBounds i true) (a.put oi.dst v) w→wpUp P md ops Q S A (fuel+1) listed a w:=by
 have hno:A i=true→S=S→∀ w,S w:=fun h=>by rw [hA] at h;cases h
 induction fuel with
 | zero=>
  intro listed a w _ hr hy H
  refine⟨fun h0=>absurd hr (by rw [h0];exact List.not_mem_nil),fun j hj=>?_⟩
  by_cases e:j=i
  ·subst e;exact hy.wpOp hi trivial ⟨fun h=>hno h rfl w,H⟩
  ·have:=ready_mono hj e
   rw [H.1] at this
   cases this
 | succ fuel ih=>
  intro listed a w hfree hr hy H
  refine⟨fun h0=>absurd hr (by rw [h0];exact List.not_mem_nil),fun j hj=>?_⟩
  by_cases e:j=i
  ·subst e;exact hy.wpOp hi trivial ⟨fun h=>hno h rfl w,H⟩
  ·obtain⟨hj0,oj,hoj,hall⟩:=mem_ready.1 hj
   have hi0:=(mem_ready.1 hr).1
   have hi1:listed.getD i false=true→False:=fun h=>by
    by_cases hl:i < listed.size
    ·simp [hl] at hi0 h;rw [hi0] at h;cases h
    ·simp [Array.getElem?_eq_none (Nat.le_of_not_lt hl)] at h
   have hnot:∀ ed∈oj.after,Region.binds md ed=true→ed.on≠i:=fun ed hed hbd heq=>hi1 (by have:=hall ed hed hbd;rwa [heq] at this)
   have h2:=wpOp_putIf hoj (hfree j oj hoj e hj0 hnot) (fun cs b=>hsel i oi cs b hi) (fun cs b=>hsel j oj cs b hoj) hQ hy (H.2 j (ready_mono hj e))
   refine wpOp_mono (fun a' w' h3=>?_) h2
   refine⟨h3.2.1,ih (listed.setIfInBounds j true) a' w' (fun m om hm hmi hmu hmn=>hfree m om hm hmi ?_ hmn) (ready_mono hr (Ne.symm e)) h3.1 ?_⟩
   ·by_cases ejm:j=m
    ·subst ejm;exact hj0
    ·rwa [getD_set_ne true ejm] at hmu
   ·rw [Array.setIfInBounds_comm _ _ e]
    exact h3.2.2
theorem zjS {listed:Array Bool}{i:Nat}{ds:List Nat}(h:waitsA md ops A listed i ds=true):
  (∀ j o,ops[j]?=some o→listed.getD j true=false→j ∉ ds→A j=true)∧(∀ j∈ds,listed.getD j false=false)∧∀ j,j∈ds→∀ o,ops[j]?=some o→∃ e∈o.after,Region.binds md e=true∧(e.on=i∨e.on∈ds):=by
 simp only [waitsA,Bool.and_eq_true,List.all_eq_true] at h
 refine⟨fun j o hj hl hn=>?_,fun j hj=>?_,fun j hj o ho=>?_⟩
 ·have h1:=h.1 j (List.mem_range.2 (Array.getElem?_eq_some_iff.1 hj).1)
  simp only [Bool.or_eq_true,List.contains_iff_mem] at h1
  rcases h1 with(h1 | h1) | h1
  ·exact h1
  ·exact absurd h1 hn
  ·by_cases hs:j < listed.size
   ·simp [hs] at hl h1;rw [hl] at h1;cases h1
   ·simp [Array.getElem?_eq_none (Nat.le_of_not_lt hs)] at h1
 ·have:=(h.2 j hj).1
  simpa using this
 ·have h2:=(h.2 j hj).2
  rw [ho] at h2
  obtain⟨e,he,hb⟩:=Array.any_eq_true'.1 h2
  simp only [Bool.and_eq_true,Bool.or_eq_true,beq_iff_eq,List.contains_iff_mem] at hb
  exact⟨e,he,hb.1,hb.2⟩
theorem zb (i d:Nat)(ds:List Nat){oi:Oper}{v:Value}{fuel:Nat}{listed:Array Bool}{a:Act}{w:World}(hi:ops[i]?=some oi)(hd:oi.dst=some d)
  (hs:Region.noSelect ops=true) (hf:Region.free md ops listed i=true) (hr:(Region.ready md ops listed).contains i=true) (hw:waitsA md ops A listed i ds=true)
  (hQ:∀ c a w,Q (.panic c) (a.put (some d) v) w→Q (.panic c) a w) (hwt:Region.wanted oi (yielded ops a.tmps)=true) (hy:∀ w,S w→(execOp a.eval oi).run P w=.ok (.value v) w) (hS:S w)
  (h:wpUp P md ops Q S A fuel (listed.setIfInBounds i true) (a.put (some d) v) w):wpUp P md ops Q S A (fuel+1) listed a w:=
 have hw':=zjS hw
 zjN hi (Region.noSelect_spec hs) (by rw [hd];exact hQ) ds hw'.2.2 fuel listed a w hw'.1 (Region.free_spec hi hf) (by simpa using hr)
  hw'.2.1 (.inl ⟨hwt,hy⟩) hS (by rw [hd];exact h)
theorem zf (i d:Nat){oi:Oper}{v:Value}{fuel:Nat}{listed:Array Bool}{a:Act}{w:World}(hi:ops[i]?=some oi)(hd:oi.dst=some d)
  (hs:Region.noSelect ops=true) (hf:Region.free md ops listed i=true) (hr:(Region.ready md ops listed).contains i=true) (hA:A i=false)
  (hQ:∀ c a w,Q (.panic c) (a.put (some d) v) w→Q (.panic c) a w) (hwt:Region.wanted oi (yielded ops a.tmps)=true) (hy:∀ w,(execOp a.eval oi).run P w=.ok (.value v) w)
  (h:wpUp P md ops Q S A fuel (listed.setIfInBounds i true) (a.put (some d) v) w):wpUp P md ops Q S A (fuel+1) listed a w:=
 zjO hi (Region.noSelect_spec hs) (by rw [hd];exact hQ) hA fuel listed a w (Region.free_spec hi hf) (by simpa using hr) (.inl ⟨hwt,fun w _=>hy w⟩) (by rw [hd];exact h)
theorem ze (i:Nat){o:Oper}{fuel:Nat}{listed:Array Bool}{a:Act}{w:World}(hr:Region.ready md ops listed=[i])(ho:ops[i]?=some o)
  (h:∀ K':Act→World→Prop,Shut (∀ a w,(A i=true→S w)→wpUp P md ops Q S A fuel (listed.setIfInBounds i true) a w→K' a w)→if Region.wanted o (yielded ops a.tmps)=true then Oper.wp P o a w K' Q else K' (a.put o.dst undef) w):
  wpUp P md ops Q S A (fuel+1) listed a w:=by
 refine⟨fun h0=>absurd (hr.symm.trans h0) (by simp),fun j hj=>?_⟩
 rw [hr] at hj
 obtain rfl:j=i:=by simpa using hj
 exact wpOp_step ho (fun K' hK=>h K' (fun a w hS hW=>hK a w ⟨hS,hW⟩))
theorem zm {fuel:Nat}{listed:Array Bool}{a:Act}{w:World}(hr:Region.ready md ops listed=[])(h:Q .normal a w):wpUp P md ops Q S A fuel listed a w:=by
 cases fuel with
 | zero=>exact⟨hr,h⟩
 | succ fuel=>exact⟨fun _=>h,fun j hj=>by rw [hr] at hj;cases hj⟩
theorem zo {id:Nat}{a:Act}{w:World}(hm:P.follows .mixedOrders=true)(hS:S w.drew)
  (h:S w.drew→wpUp P .any ops Q S A ops.size (Array.replicate ops.size false) a w.drew):(Code.region id ops true).wp P Q a w:=
 wp_region_any hm (zf5 _ _ _ _ (h hS))
end
end Go.Proofs.YtnhbfehfipafoaaGreatDoor
/- pack.Op: an operation as bytes. -/
namespace Go.Proofs.YtnhbfehfipafoaaGreatDoor
open Go.RowKit
theorem zab {l:List Int}{k:Nat}(h:k < l.length):l.getD k 0=l[k]:=by rw [List.getD_eq_getElem?_getD,List.getElem?_eq_getElem h];rfl
theorem zfw {o:OpV}(h:shapeB o=true):o.name.size≤8∧o.v.length≤4:=by
 unfold shapeB at h
 simp only [Bool.and_eq_true,decide_eq_true_eq] at h
 exact⟨(of_decide_eq_true h.1.1.2).2.1,h.2⟩
set_option linter.unusedSimpArgs false in
set_option maxRecDepth 100000 in
set_option maxHeartbeats 1600000 in
theorem ze0 (w:World)(o:OpV)(vo:Option Addr)(vc:Nat)(hv:RowS w (.slice vo o.v.length vc) o.v):
  Calls Tryz.prog 103 #[.agg #[.int .i64 o.kind,.string o.name,.int .i64 o.n,.slice vo o.v.length vc]] w fun e w'=>e=.returned (.tuple #[.string (opS o),errV (opF o)])∧Below w.heap.size w w':=by
 have X1:=hide (FourV.new w (.int .i64 o.kind) (.string o.name) (.int .i64 o.n) (.slice vo o.v.length vc) 43)
 have HB:=hide (zc w (.cells #[.int .i64 o.kind,.string o.name,.int .i64 o.n,.slice vo o.v.length vc] 43))
 have HV:=hide hv
 obtain⟨c0,c1,c2,c3,-⟩:=X1.out
 obtain⟨F,hF⟩:∃ F,opF o=F:=⟨_,rfl⟩
 obtain⟨T,hT⟩:∃ T,opS o=T:=⟨_,rfl⟩
 rw [hF,hT]
 have HF:=hide hF;have HT:=hide hT
 clear hv hF hT
 go_enter Tryz.func103,Tryz.ntmps103
 go_wp2_with fail
 generalize w.alloc (.cells #[.int .i64 o.kind,.string o.name,.int .i64 o.n,.slice vo o.v.length vc] 43)=W at *
 refine(zi8 W o vo vc).mono ?_
 rintro e w1 ⟨rfl,hb1⟩
 have X2:=hide (X1.out.later hb1);have HB1:=hide (HB.out.trans (hb1.mono HB.out.size))
 clear X1 HB hb1 c0 c1 c2 c3
 obtain⟨c0,c1,c2,c3,-⟩:=X2.out
 cases hs:shapeB o with
 | false=>
  have h3:opF o=3:=by unfold opF;rw [if_pos hs]
  have hS:opS o=⟨#[]⟩:=by unfold opS;rw [if_neg (by rw [h3];decide)]
  obtain rfl:F=3:=HF.out.symm.trans h3
  obtain rfl:T=⟨#[]⟩:=HT.out.symm.trans hS
  clear HF HT hS hs h3
  go_wp2
  go_ret2
  exact⟨rfl,HB1.out⟩
 | true=>
  obtain⟨hn8,hl4⟩:=zfw hs
  have HS:=hide hs
  clear hs
  obtain⟨l,hl⟩:∃ l,o.v.length=l:=⟨_,rfl⟩
  rw [hl] at c3 hl4 X2
  have HV1:=HV.out.below HB1.out (Nat.le_refl _)
  rw [hl] at HV1
  have HW:=hide HV1
  clear HV HV1
  have hwl:w.heap.size < w1.heap.size:=X2.out.2.2.2.2
  have bA:=BufB.two w1 o.kind (o.name.size:Int)
  have hA:=zc w1 (.cells #[.int .u8 (o.kind % 256),.int .u8 ((o.name.size:Int) % 256)] 5)
  obtain⟨-,d1,d2,d3,-⟩:=X2.out.later hA
  generalize hWA:w1.alloc (.cells #[.int .u8 (o.kind % 256),.int .u8 ((o.name.size:Int) % 256)] 5)=A1 at *
  obtain⟨o1,k1,A2,hr1,bB,hbB⟩:=bA.str hA.size o.name 142 (by simp;omega)
  obtain⟨n1,hn1⟩:∃ n,([lowB o.kind,lowB (o.name.size:Int)] ++ o.name.data.toList).length=n:=⟨_,rfl⟩
  rw [hn1] at hr1 bB
  have HR1:=hide hr1
  have e2:=(hbB.cell (p:=⟨w.heap.size,2,none⟩) hwl).trans d2;have e3:=(hbB.cell (p:=⟨w.heap.size,3,none⟩) hwl).trans d3
  have hbl:=hbB.size
  obtain⟨o2,k2,A3,hr2,bC,hbC⟩:=bB.more (Nat.le_trans hA.size hbB.size) [lowB o.n,lowB (l:Int)] #[.int .u8 (o.n % 256),.int .u8 ((l:Int) % 256)] (by simp [Lib.byteCells,zp]) 142 5 (by simp;omega)
  obtain⟨n2,hn2⟩:∃ n,(([lowB o.kind,lowB (o.name.size:Int)] ++ o.name.data.toList) ++ [lowB o.n,lowB (l:Int)]).length=n:=⟨_,rfl⟩
  have hhead:([lowB o.kind,lowB (o.name.size:Int)] ++ o.name.data.toList) ++ [lowB o.n,lowB (l:Int)]=headB o:=by unfold headB;rw [hl]
  rw [hn2] at hr2 bC
  rw [hhead] at bC hn2
  have HR2:=hide hr2
  have f3:=(hbC.cell (p:=⟨w.heap.size,3,none⟩) hwl).trans e3
  have hB3:=hA.trans (hbB.trans (hbC.mono (Nat.le_refl _)))
  have HBUF:=hide bC;have HBL:=hide hB3;have HN2:=hide hn2;have HLL:=hide hl
  skip
  have HH2:Hid (n2≤12):=by show n2≤12;rw [← hn2];unfold headB;simp;omega
  subst hWA
  have HN8:=hide hn8;have HL4:=hide hl4
  have HWL:=hide hwl
  clear hn8 hl4 hbl hwl
  clear bA hA hr1 bB hbB hn1 hr2 bC hbC hn2 hhead hl
  go_wp2_with (at_builtin;first | refine Lib.wpList_append_run _ rfl _ _ _ _ rfl _ _ rfl rfl _ _ HR1.out ?_ | refine Lib.wpList_append_run _ rfl _ _ _ _ rfl _ _ rfl rfl _ _ HR2.out ?_)
  clear d1 d2 d3 e2 e3 HR1 HR2 c0 c1 c2 c3 f3
  go_loopw [4,35] (fun out i wr=>∃(k:Nat) (oo:Option Addr) (nn cc:Nat),k≤l∧i=.int .i64 k∧out=.slice oo nn cc∧Hid (nn=n2+k * 2)∧Hid (BufB w1.heap.size wr (.slice oo nn cc) (headB o ++(o.v.take k).flatMap twoB))∧Hid ((o.v.take k).any (fun z=>decide (z < -999∨999 < z))=false)∧Hid (Below w1.heap.size w1 wr)) (fun _ i _=>l - (intOf i).toNat)
  case atStart=>exact⟨0,_,_,_,Nat.zero_le _,rfl,rfl,hide (by omega),hide (by rw [List.take_zero,List.flatMap_nil,List.append_nil];exact HBUF.out),hide (by rw [List.take_zero];rfl),HBL⟩
  case round=>
   clear HBUF HBL
   obtain⟨k,oo,nn,cc,hk,rfl,rfl,HNN,HBUF,HANY,HBL⟩:=hrel
   obtain⟨-,-,-,c3,-⟩:=X2.out.later HBL.out
   have hl4:=HL4.out
   by_cases hkl:k < l
   ·have HKL:Hid (k < o.v.length):=by show _ < _;rw [HLL.out];exact hkl
    obtain⟨_,_,e,-,-,hh⟩:=HW.out
    simp only [Value.slice.injEq] at e
    obtain⟨rfl,-,rfl⟩:=e
    obtain⟨b,off,rfl,hlt,hc⟩:=hh (by have:=HKL.out;omega)
    have cz1:=hc k HKL.out
    have cz:=(HBL.out.cell (p:=⟨b,off+k,none⟩) hlt).trans cz1
    clear hh hc cz1
    have HTK:Hid (o.v.take (k+1)=o.v.take k ++ [o.v.getD k 0]):=by
     show _=_
     rw [List.take_succ_eq_append_getElem HKL.out,zab HKL.out]
    have HMEM:Hid (o.v.getD k 0∈o.v):=by
     show _∈_
     rw [zab HKL.out]
     exact List.getElem_mem _
    generalize o.v.getD k 0=z at *
    by_cases hbig:z < -999∨999 < z
    ·have HF1:Hid (F=1):=by
      show F=1
      rw [← HF.out]
      unfold opF
      rw [if_neg (by rw [HS.out];decide),if_pos (show bigB o=true from List.any_eq_true.2 ⟨z,HMEM.out,decide_eq_true hbig⟩)]
     have HT1:Hid (T=⟨#[]⟩):=by
      show T=_
      rw [← HT.out]
      unfold opS
      rw [if_neg (by rw [HF.out,HF1.out];decide)]
     obtain rfl:F=1:=HF1.out
     obtain rfl:T=⟨#[]⟩:=HT1.out
     by_cases h1:z < -999
     ·have g1:decide (z < -999)=true:=decide_eq_true h1
      clear hbig HF HT HF1 HT1 h1
      go_wp2
      go_ret2
      exact⟨rfl,HB1.out.trans (HBL.out.mono HB1.out.size)⟩
     ·have g1:decide (z < -999)=false:=decide_eq_false h1
      have g2:decide (999 < z)=true:=decide_eq_true (by omega)
      clear hbig HF HT HF1 HT1 h1
      go_wp2
      go_ret2
      exact⟨rfl,HB1.out.trans (HBL.out.mono HB1.out.size)⟩
    ·have gz1:decide (z < -999)=false:=decide_eq_false (by omega)
     have gz2:decide (999 < z)=false:=decide_eq_false (by omega)
     have HBG:=hide hbig
     have hbz:=HBL.out.size
     have hwl:=HWL.out
     have bD:BufB w1.heap.size wr.drew (.slice oo nn cc) (headB o ++(o.v.take k).flatMap twoB):=BufB.later HBUF.out (Below.refl _ _).drew
     obtain⟨o3,k3,W',hr4,bE,hbE⟩:=BufB.more (W:=wr.drew) (m:=twoB z) bD (by show w1.heap.size≤wr.heap.size;exact hbz) #[.int .u8 (z % 256),.int .u8 (z / 256 % 256)] (by simp [Lib.byteCells,twoB,zp]) 142 5 (by have h1:=HNN.out;have h2:=HH2.out;have h3:(headB o ++(o.v.take k).flatMap twoB).length=nn:=HBUF.out.len.symm;rw [h3];show nn+2≤_;omega)
     have hbA:=zc wr.drew (.cells #[.int .u8 (z % 256),.int .u8 (z / 256 % 256)] 5)
     have kl:w.heap.size < wr.heap.size:=by omega
     have f0:=(hbA.cell (p:=⟨w.heap.size,3,none⟩) kl).trans c3;have f1:=(hbA.cell (p:=⟨b,off+k,none⟩) (Nat.lt_of_lt_of_le hlt hbz)).trans cz
     obtain⟨n3,hn3⟩:∃ n,((headB o ++(o.v.take k).flatMap twoB) ++ twoB z).length=n:=⟨_,rfl⟩
     rw [hn3] at hr4 bE
     have h2:(twoB z).length=2:=rfl
     rw [h2] at hr4
     have HR4:=hide hr4
     have g0:=(hbE.cell (p:=⟨w.heap.size,3,none⟩) hwl).trans c3
     have g1:=(hbE.cell (p:=⟨b,off+k,none⟩) hlt).trans cz
     have HBE2:Hid (BufB w1.heap.size W' (.slice o3 n3 k3) (headB o ++(o.v.take (k+1)).flatMap twoB)):=by
      show BufB _ _ _ _
      rw [HTK.out,List.flatMap_append,List.flatMap_cons,List.flatMap_nil,List.append_nil,← List.append_assoc]
      exact bE
     have HN3:Hid (n3=n2+(k+1) * 2):=by
      have h1:=HNN.out;have h3:(headB o ++(o.v.take k).flatMap twoB).length=nn:=HBUF.out.len.symm
      show n3=_
      rw [← hn3,List.length_append,h3]
      show nn+2=_
      omega
     have HANY2:Hid ((o.v.take (k+1)).any (fun z=>decide (z < -999∨999 < z))=false):=by
      show _=_
      rw [HTK.out,List.any_append,HANY.out,Bool.false_or,List.any_cons,List.any_nil,Bool.or_false]
      exact decide_eq_false HBG.out
     have HBL2:=hide (HBL.out.trans (((Below.refl w1.heap.size wr).drew).trans hbE))
     clear hr4 bE hbE hbA bD hn3 h2 hbig HBUF HNN HANY HBL HTK HMEM hlt
     go_wp2_with fail
     refine zo (A:=fun j=>!decide (j=0∨j=1∨j=3∨j=7∨j=9∨j=16)) (S:=(fun w'=>w'.cell? ⟨w.heap.size,3,none⟩=some (.slice (some ⟨b,off,none⟩) l vc)∧w'.cell? ⟨b,off+k,none⟩=some (.int .i64 z))) (by kernel_rfl) (by exact⟨c3,cz⟩) (fun hHeld=>?_)
     refine zf (v:=?_) 0 53 rfl rfl (by kernel_rfl) (by kernel_rfl) (by kernel_rfl) (by kernel_rfl) (fun _ _ _ h=>h) (by rfl) ?_ ?_
     rotate_left
     ·(intro w;go_simp;with_reducible rfl)
     simp only [Act.put,List.setIfInBounds_toArray,List.set_cons_zero,List.set_cons_succ]
     refine zf (v:=?_) 1 54 rfl rfl (by kernel_rfl) (by kernel_rfl) (by kernel_rfl) (by kernel_rfl) (fun _ _ _ h=>h) (by rfl) ?_ ?_
     rotate_left
     ·(intro w;go_simp;with_reducible rfl)
     simp only [Act.put,List.setIfInBounds_toArray,List.set_cons_zero,List.set_cons_succ]
     refine zf (v:=?_) 3 56 rfl rfl (by kernel_rfl) (by kernel_rfl) (by kernel_rfl) (by kernel_rfl) (fun _ _ _ h=>h) (by rfl) ?_ ?_
     rotate_left
     ·(intro w;go_simp;with_reducible rfl)
     simp only [Act.put,List.setIfInBounds_toArray,List.set_cons_zero,List.set_cons_succ]
     refine zf (v:=?_) 7 60 rfl rfl (by kernel_rfl) (by kernel_rfl) (by kernel_rfl) (by kernel_rfl) (fun _ _ _ h=>h) (by rfl) ?_ ?_
     rotate_left
     ·(intro w;go_simp;with_reducible rfl)
     simp only [Act.put,List.setIfInBounds_toArray,List.set_cons_zero,List.set_cons_succ]
     refine zf (v:=?_) 9 62 rfl rfl (by kernel_rfl) (by kernel_rfl) (by kernel_rfl) (by kernel_rfl) (fun _ _ _ h=>h) (by rfl) ?_ ?_
     rotate_left
     ·(intro w;go_simp;with_reducible rfl)
     simp only [Act.put,List.setIfInBounds_toArray,List.set_cons_zero,List.set_cons_succ]
     refine zb (v:=?_) 2 55 [16] rfl rfl (by kernel_rfl) (by kernel_rfl) (by kernel_rfl) (by kernel_rfl) (fun _ _ _ h=>h) (by rfl) ?_ (by assumption) ?_
     rotate_left
     ·(intro w hSw;(try dsimp only at hSw);obtain⟨hS1,hS2⟩:=hSw;go_simp;with_reducible rfl)
     simp only [Act.put,List.setIfInBounds_toArray,List.set_cons_zero,List.set_cons_succ]
     refine zb (v:=?_) 4 57 [16] rfl rfl (by kernel_rfl) (by kernel_rfl) (by kernel_rfl) (by kernel_rfl) (fun _ _ _ h=>h) (by rfl) ?_ (by assumption) ?_
     rotate_left
     ·(intro w hSw;(try dsimp only at hSw);obtain⟨hS1,hS2⟩:=hSw;go_simp;with_reducible rfl)
     simp only [Act.put,List.setIfInBounds_toArray,List.set_cons_zero,List.set_cons_succ]
     refine zb (v:=?_) 5 58 [16] rfl rfl (by kernel_rfl) (by kernel_rfl) (by kernel_rfl) (by kernel_rfl) (fun _ _ _ h=>h) (by rfl) ?_ (by assumption) ?_
     rotate_left
     ·(intro w hSw;(try dsimp only at hSw);obtain⟨hS1,hS2⟩:=hSw;go_simp;with_reducible rfl)
     simp only [Act.put,List.setIfInBounds_toArray,List.set_cons_zero,List.set_cons_succ]
     refine zb (v:=?_) 6 59 [16] rfl rfl (by kernel_rfl) (by kernel_rfl) (by kernel_rfl) (by kernel_rfl) (fun _ _ _ h=>h) (by rfl) ?_ (by assumption) ?_
     rotate_left
     ·(intro w hSw;(try dsimp only at hSw);obtain⟨hS1,hS2⟩:=hSw;go_simp;with_reducible rfl)
     simp only [Act.put,List.setIfInBounds_toArray,List.set_cons_zero,List.set_cons_succ]
     refine zb (v:=?_) 8 61 [16] rfl rfl (by kernel_rfl) (by kernel_rfl) (by kernel_rfl) (by kernel_rfl) (fun _ _ _ h=>h) (by rfl) ?_ (by assumption) ?_
     rotate_left
     ·(intro w hSw;(try dsimp only at hSw);obtain⟨hS1,hS2⟩:=hSw;go_simp;with_reducible rfl)
     simp only [Act.put,List.setIfInBounds_toArray,List.set_cons_zero,List.set_cons_succ]
     refine zb (v:=?_) 10 63 [16] rfl rfl (by kernel_rfl) (by kernel_rfl) (by kernel_rfl) (by kernel_rfl) (fun _ _ _ h=>h) (by rfl) ?_ (by assumption) ?_
     rotate_left
     ·(intro w hSw;(try dsimp only at hSw);obtain⟨hS1,hS2⟩:=hSw;go_simp;with_reducible rfl)
     simp only [Act.put,List.setIfInBounds_toArray,List.set_cons_zero,List.set_cons_succ]
     refine zb (v:=?_) 11 64 [16] rfl rfl (by kernel_rfl) (by kernel_rfl) (by kernel_rfl) (by kernel_rfl) (fun _ _ _ h=>h) (by rfl) ?_ (by assumption) ?_
     rotate_left
     ·(intro w hSw;(try dsimp only at hSw);obtain⟨hS1,hS2⟩:=hSw;go_simp;with_reducible rfl)
     simp only [Act.put,List.setIfInBounds_toArray,List.set_cons_zero,List.set_cons_succ]
     refine zb (v:=?_) 12 65 [16] rfl rfl (by kernel_rfl) (by kernel_rfl) (by kernel_rfl) (by kernel_rfl) (fun _ _ _ h=>h) (by rfl) ?_ (by assumption) ?_
     rotate_left
     ·(intro w hSw;(try dsimp only at hSw);obtain⟨hS1,hS2⟩:=hSw;go_simp;with_reducible rfl)
     simp only [Act.put,List.setIfInBounds_toArray,List.set_cons_zero,List.set_cons_succ]
     refine zb (v:=?_) 13 66 [16] rfl rfl (by kernel_rfl) (by kernel_rfl) (by kernel_rfl) (by kernel_rfl) (fun _ _ _ h=>h) (by rfl) ?_ (by assumption) ?_
     rotate_left
     ·(intro w hSw;(try dsimp only at hSw);obtain⟨hS1,hS2⟩:=hSw;go_simp;with_reducible rfl)
     simp only [Act.put,List.setIfInBounds_toArray,List.set_cons_zero,List.set_cons_succ]
     refine ze 14 (by kernel_rfl) rfl (fun K hK=>?_)
     go_simp
     refine hK.out _ _ (fun _=>⟨f0,f1⟩) ?_
     clear hK K
     try simp only [Act.put,List.setIfInBounds_toArray,List.set_cons_zero,List.set_cons_succ]
     refine ze 15 (by kernel_rfl) rfl (fun K hK=>?_)
     refine zje rfl (.tmp 53) (.tmp 67) 142 142 rfl _ _ rfl rfl _ _ HR4.out ?_
     refine hK.out _ _ (fun _=>⟨g0,g1⟩) ?_
     clear hK K
     try simp only [Act.put,List.setIfInBounds_toArray,List.set_cons_zero,List.set_cons_succ]
     refine ze 16 (by kernel_rfl) rfl (fun K hK=>?_)
     go_simp
     refine hK.out _ _ (fun h=>absurd h (by decide)) ?_
     clear hK K
     try simp only [Act.put,List.setIfInBounds_toArray,List.set_cons_zero,List.set_cons_succ]
     refine zm (by kernel_rfl) ?_
     go_wp2
     go_roundw
     case rel=>exact⟨k+1,_,_,_,by omega,by go_num,rfl,HN3,HBE2,HANY2,HBL2⟩
     case measure=>simp [intOf];omega
   ·obtain rfl:k=l:=by omega
    have HTA:Hid (o.v.take k=o.v):=by show _=_;rw [← HLL.out,List.take_length]
    have HF0:Hid (F=0):=by
     show F=0
     rw [← HF.out]
     unfold opF
     rw [if_neg (by rw [HS.out];decide),if_neg]
     have h:=HANY.out
     rw [HTA.out] at h
     rw [show bigB o=false from h]
     decide
    have HT0:Hid (T=⟨(opB o).toArray⟩):=by
     show T=_
     rw [← HT.out]
     unfold opS
     rw [if_pos (HF.out.trans HF0.out)]
    have HBU:Hid (BufB w1.heap.size wr (.slice oo (opB o).length cc) (opB o)):=by
     have h:=HBUF.out
     rw [HTA.out] at h
     have h2:=h.len
     show BufB _ _ _ _
     unfold opB
     rw [← h2]
     exact h
    have HNO:Hid ((opB o).length=nn):=by
     have h:=HBUF.out.len
     rw [HTA.out] at h
     exact h.symm
    have hcv:=HBU.out.back (by unfold opB headB;simp)
    rw [HNO.out] at hcv
    obtain rfl:F=0:=HF0.out
    obtain rfl:T=⟨(opB o).toArray⟩:=HT0.out
    clear HF HT HF0 HT0 HBU HNO HTA HBUF HNN HANY HH2 hkl hk
    go_wp2
    go_ret2
    exact⟨rfl,HB1.out.trans (HBL.out.mono HB1.out.size)⟩
end Go.Proofs.YtnhbfehfipafoaaGreatDoor
