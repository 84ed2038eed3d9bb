import Derived.Test.YtdedolkgcdlmeaaGreatDoorMatO
set_option maxRecDepth 100000
set_option maxHeartbeats 6400000
set_option linter.unusedSimpArgs false
namespace Go.Proofs.YtdedolkgcdlmeaaGreatDoor
open Go
variable{w:World}{v:Value}{fuel i n:Nat}
section
variable {P:Program}{ops:Array Oper}{Q:Exit→Act→World→Prop}{md:Region.Mode}{S:World→Prop}{A:Nat→Bool}
def wpUp (P:Program)(md:Region.Mode)(ops:Array Oper)(Q:Exit→Act→World→Prop)(S:World→Prop)(A:Nat→Bool):Nat→Array Bool→Act→World→Prop
 | 0=>fun listed a w=>Region.ready md ops listed=[]∧Q .normal a w
 | fuel+1=>fun listed a w=>(Region.ready md ops listed=[]→Q .normal a w) ∧
   ∀ j,j∈Region.ready md ops listed→wpOp P ops Q j (fun a' w'=>(A j=true→S w')∧wpUp P md ops Q S A fuel (listed.setIfInBounds j true) a' w') a w
theorem zgQ (fuel:Nat):∀(listed:Array Bool) (a:Act) (w:World),wpUp P md ops Q S A fuel listed a w→wpAny P md ops Q fuel listed a w:=by
 induction fuel with
 | zero=>exact fun _ _ _ h=>h
 | succ fuel ih=>exact fun _ _ _ h=>⟨h.1,fun j hj=>wpOp_mono (fun a' w' h'=>ih _ a' w' h'.2) (h.2 j hj)⟩
def waitsA (md:Region.Mode)(ops:Array Oper)(A:Nat→Bool)(listed:Array Bool)(i:Nat)(ds:List Nat):Bool:=
 ((List.range ops.size).all fun j=>A j || ds.contains j || listed.getD j false) &&
  ds.all fun j=>!listed.getD j false && match ops[j]? with
   | some o=>o.after.any fun e=>Region.binds md e && (e.on==i || ds.contains e.on)
   | none=>true
theorem zk8{oi:Oper}(hi:ops[i]?=some oi)(hsel:∀(j:Nat) (o:Oper) cs b,ops[j]?=some o→o.op≠.select cs b)
  (hQ:∀ c a w,Q (.panic c) (a.put oi.dst v) w→Q (.panic c) a w) (ds:List Nat) (hds:∀ j,j∈ds→∀ o,ops[j]?=some o→∃ e∈o.after,Region.binds md e=true∧(e.on=i∨e.on∈ds)) (fuel:Nat):
  ∀(listed:Array Bool) (a:Act) (w:World),(∀ j o,ops[j]?=some o→listed.getD j true=false→j ∉ ds→A j=true) →
   (∀ j oj,ops[j]?=some oj→j≠i→listed.getD j true=false→(∀ e∈oj.after,Region.binds md e=true→e.on≠i)→oi.apart ops oj=true) →
   i∈Region.ready md ops listed→(∀ j∈ds,listed.getD j false=false)→YieldsIf P ops S oi v a→S w →
   wpUp P md ops Q S A fuel (listed.setIfInBounds i true) (a.put oi.dst v) w→wpUp P md ops Q S A (fuel+1) listed a w:=by
 induction fuel with
 | zero=>
  intro listed a w _ _ hr _ hy hS H;refine⟨fun h0=>absurd hr (by rw [h0];exact List.not_mem_nil),fun j hj=>?_⟩;by_cases e:j=i
  ·subst e;exact hy.wpOp hi hS ⟨fun _=>hS,H⟩
  ·have:=ready_mono hj e;rw [H.1] at this;cases this
 | succ fuel ih=>
  intro listed a w hlow hfree hr hun hy hS H;refine⟨fun h0=>absurd hr (by rw [h0];exact List.not_mem_nil),fun j hj=>?_⟩;by_cases e:j=i
  ·subst e;exact hy.wpOp hi hS ⟨fun _=>hS,H⟩
  ·obtain⟨hj0,oj,hoj,hall⟩:=mem_ready.1 hj;have hi0:=(mem_ready.1 hr).1;have hi1:listed.getD i false=true→False:=fun h=>by
    by_cases hl:i<listed.size
    ·simp [hl] at hi0 h;rw [hi0] at h;cases h
    ·simp [Array.getElem?_eq_none (Nat.le_of_not_lt hl)] at h
   have hnd:j ∉ ds:=fun hd=>by
    obtain⟨ed,hed,hbd,hon⟩:=hds j hd oj hoj;have h1:=hall ed hed hbd;rcases hon with hon | hon
    ·rw [hon] at h1;exact hi1 h1
    ·rw [hun _ hon] at h1;cases h1
   have hnot:∀ ed∈oj.after,Region.binds md ed=true→ed.on≠i:=fun ed hed hbd heq=>hi1 (by have:=hall ed hed hbd;rwa [heq] at this);have h2:=wpOp_putIf hoj (hfree j oj hoj e hj0 hnot) (fun cs b=>hsel i oi cs b hi) (fun cs b=>hsel j oj cs b hoj) hQ hy (H.2 j (ready_mono hj e));refine wpOp_mono (fun a' w' h3=>?_) h2;have hS':=h3.2.1 (hlow j oj hoj hj0 hnd);have hback:∀ m,(listed.setIfInBounds j true).getD m true=false→listed.getD m true=false:=fun m hmu=>by
    by_cases ejm:j=m
    ·subst ejm;exact hj0
    ·rwa [getD_set_ne true ejm] at hmu
   refine⟨h3.2.1,ih (listed.setIfInBounds j true) a' w' (fun m om hm hmu=>hlow m om hm (hback m hmu)) (fun m om hm hmi hmu hmn=>hfree m om hm hmi (hback m hmu) hmn) (ready_mono hr (Ne.symm e)) (fun d hd=>?_) h3.1 hS' ?_⟩
   ·rw [getD_set_ne (i:=j) (j:=d) false (fun e'=>hnd (by rw [e'];exact hd))];exact hun d hd
   ·rw [Array.setIfInBounds_comm _ _ e];exact h3.2.2
theorem zlf {listed:Array Bool}{ds:List Nat}(h:waitsA md ops A listed i ds=true):
  (∀ j o,ops[j]?=some o→listed.getD j true=false→j ∉ ds→A j=true)∧(∀ j∈ds,listed.getD j false=false)∧∀ j,j∈ds→∀ o,ops[j]?=some o→∃ e∈o.after,Region.binds md e=true∧(e.on=i∨e.on∈ds):=by
 simp only [waitsA,Bool.and_eq_true,List.all_eq_true] at h;refine⟨fun j o hj hl hn=>?_,fun j hj=>?_,fun j hj o ho=>?_⟩
 ·have h1:=h.1 j (List.mem_range.2 (Array.getElem?_eq_some_iff.1 hj).1);simp only [Bool.or_eq_true,List.contains_iff_mem] at h1;rcases h1 with(h1 | h1) | h1
  ·exact h1
  ·exact absurd h1 hn
  ·by_cases hs:j<listed.size
   ·simp [hs] at hl h1;rw [hl] at h1;cases h1
   ·simp [Array.getElem?_eq_none (Nat.le_of_not_lt hs)] at h1
 ·have:=(h.2 j hj).1;simpa using this
 ·have h2:=(h.2 j hj).2;rw [ho] at h2;obtain⟨e,he,hb⟩:=Array.any_eq_true'.1 h2;simp only [Bool.and_eq_true,Bool.or_eq_true,beq_iff_eq,List.contains_iff_mem] at hb;exact⟨e,he,hb.1,hb.2⟩
theorem zk9 (i d:Nat)(ds:List Nat){oi:Oper}{listed:Array Bool}{a:Act}(hi:ops[i]?=some oi)(hd:oi.dst=some d)
  (hs:Region.noSelect ops=true) (hf:Region.free md ops listed i=true) (hr:(Region.ready md ops listed).contains i=true) (hw:waitsA md ops A listed i ds=true)
  (hQ:∀ c a w,Q (.panic c) (a.put (some d) v) w→Q (.panic c) a w) (hwt:Region.wanted oi (yielded ops a.tmps)=true) (hy:∀ w,S w→(execOp a.eval oi).run P w=.ok (.value v) w) (hS:S w)
  (h:wpUp P md ops Q S A fuel (listed.setIfInBounds i true) (a.put (some d) v) w):wpUp P md ops Q S A (fuel+1) listed a w:=
 have hw':=zlf hw
 zk8 hi (Region.noSelect_spec hs) (by rw [hd];exact hQ) ds hw'.2.2 fuel listed a w hw'.1 (Region.free_spec hi hf) (by simpa using hr)
  hw'.2.1 (.inl ⟨hwt,hy⟩) hS (by rw [hd];exact h)
theorem zaI (i d:Nat)(ds:List Nat){oi:Oper}{listed:Array Bool}{a:Act}(h:wpUp P md ops Q S A fuel (listed.setIfInBounds i true) (a.put (some d) v) w)(hi:ops[i]?=some oi:=by rfl)(hd:oi.dst=some d:=by rfl)(hs:Region.noSelect ops=true:=by kernel_rfl)(hf:Region.free md ops listed i=true:=by kernel_rfl)(hr:(Region.ready md ops listed).contains i=true:=by kernel_rfl)(hw:waitsA md ops A listed i ds=true:=by kernel_rfl)(hQ:∀ c a w,Q (.panic c) (a.put (some d) v) w→Q (.panic c) a w:=by exact fun _ _ _ h=>h)(hwt:Region.wanted oi (yielded ops a.tmps)=true:=by rfl)(hy:∀ w,S w→(execOp a.eval oi).run P w=.ok (.value v) w:=by intro w hSw;(try dsimp only at hSw);go_simp;with_reducible rfl)(hS:S w:=by assumption):wpUp P md ops Q S A (fuel+1) listed a w:=zk9 i d ds hi hd hs hf hr hw hQ hwt hy hS h
theorem zd5 (i:Nat){o:Oper}{listed:Array Bool}{a:Act}(hr:Region.ready md ops listed=[i])(ho:ops[i]?=some o)
  (h:∀ K':Act→World→Prop,Shut (∀ a w,(A i=true→S w)→wpUp P md ops Q S A fuel (listed.setIfInBounds i true) a w→K' a w)→if Region.wanted o (yielded ops a.tmps)=true then Oper.wp P o a w K' Q else K' (a.put o.dst undef) w):
  wpUp P md ops Q S A (fuel+1) listed a w:=by
 refine⟨fun h0=>absurd (hr.symm.trans h0) (by simp),fun j hj=>?_⟩;rw [hr] at hj;obtain rfl:j=i:=by simpa using hj
 exact wpOp_step ho (fun K' hK=>h K' (fun a w hS hW=>hK a w ⟨hS,hW⟩))
theorem zk7{listed:Array Bool}{a:Act}(hr:Region.ready md ops listed=[])(h:Q .normal a w):wpUp P md ops Q S A fuel listed a w:=by
 cases fuel with
 | zero=>exact⟨hr,h⟩
 | succ fuel=>exact⟨fun _=>h,fun j hj=>by rw [hr] at hj;cases hj⟩
theorem zla{id:Nat}{a:Act}(hm:P.follows .mixedOrders=true)(hS:S w.drew)
  (h:S w.drew→wpUp P .any ops Q S A ops.size (Array.replicate ops.size false) a w.drew):(Code.region id ops true).wp P Q a w:=
 wp_region_any hm (zgQ _ _ _ _ (h hS))
end
open Go.RowKit Limbs Digs
theorem RowR.grownOff{W W':World}{row:Option Nat}{zs:List Int}(h:RowR W v zs n)(hg:W.grownBy W' row)(hr:Typed W row [3])(hne:∀ a l c,v=.slice (some a) l c→∀ g,row=some g→a.block≠g):RowR W' v zs n:=by
 obtain⟨ao,cap,hv,h1,h2⟩:=h;refine⟨ao,cap,hv,h1,fun h0=>?_⟩;obtain⟨b,cur,fz,e,hh,hc⟩:=h2 h0;have hne':some b≠row:=fun e'=>hne _ _ _ (by rw [hv,e]) b e'.symm rfl;refine⟨b,cur,fz,e,(hg.block b (zj hh) hne').trans hh,fun i hi=>?_⟩;obtain⟨s,o,l,c,h3,h4,h5⟩:=hc i hi;exact⟨s,o,l,c,hg.cell h3 hne',hg.cell h4 hne',h5.grown hg hr⟩
theorem zh1{hs:List (List Int)}{p:Nat→Nat}(hF:FormL n hs p):hs.length≤n:=by
 have key:∀ k,k<hs.length→k≤p k:=fun k=>by
  induction k with
  | zero=>exact fun _=>Nat.zero_le _
  | succ k ih=>
   intro hk;have h1:=ih (by omega);have h2:=hF.form.inc k (k+1) (by omega) hk;omega
 by_cases h0:hs.length=0
 ·omega
 ·have h1:=key (hs.length-1) (by omega);have h2:=hF.form.lt (hs.length-1) (by omega);omega
theorem zjY{p q y r:Int}(hy:0<y)(h:p=q*y+r)(hl:Left r y):p%y=r:=by
 have h2:=hl.1 hy;have:r+y*q=p:=by rw [Int.mul_comm];omega
 exact((Int.ediv_emod_unique hy).2 ⟨this,h2.1,h2.2⟩).2
theorem zjo (hs:List (List Int))(p:Nat→Nat)(zs:List Int)(k:Nat)(hk:k<hs.length):(muchL hs p zs).take (k+1)=(muchL hs p zs).take k++[oftL hs p (leftL hs p zs k) k]:=by
 have hl:k<(muchL hs p zs).length:=by rw [zat];exact hk
 rw [List.take_succ_eq_append_getElem hl];congr 2;rw [← zfu hs p zs k hk,zG,List.getElem?_eq_getElem hl,Option.getD_some]
theorem ziR (hs:List (List Int))(p:Nat→Nat)(zs:List Int)(k:Nat)(hk:k<hs.length)(s:Int)(hs':(leftL hs p zs k).getD (p k) 0/hs[k].getD (p k) 0=s):List.zipWith (fun p q=>1*p+-s*q) (leftL hs p zs k) hs[k]=leftL hs p zs (k+1):=by
 rw [leftL];have e:oftL hs p (leftL hs p zs k) k=s:=by unfold oftL;rw [zl hk];exact hs'
 rw [e,zl hk,List.zipWith_map_right];congr 1;funext a b;rw [Int.one_mul,Int.neg_mul];omega
def CoordPost (w:World)(n:Nat)(hs:List (List Int))(p:Nat→Nat)(zs:List Int)(E:Nat)(e:Ending)(w':World):Prop:=
 Below w.heap.size w w'∧((Gens n (InL hs) zs∧∃ u,e=.returned (.tuple #[u,.bool true])∧RowR w' u (muchL hs p zs) E)∨(¬ Gens n (InL hs) zs∧e=.returned (.tuple #[.slice none 0 0,.bool false])))
theorem zdb (w:World)(vB vV:Value)(n N M:Nat)(hs:List (List Int))(p:Nat→Nat)(zs:List Int)(hv:MatR w vB hs N)(hF:FormL n hs p)(hx:RowR w vV zs M)(hz:zs.length=n)(hn:n≤4)(hN:N≤10000)(hM:M≤10000):
  Calls Tryz.prog 78 #[vB,vV] w fun e w'=>CoordPost w n hs p zs (M+4 *(N+8)+6) e w':=by
 obtain⟨i0,hi,hz0,hz1,hz2⟩:=info_parts Tryz.infoRNum;have HI0:=hide hi;have HZ0:=hide hz0;have HZ1:=hide hz1;have HZ2:=hide hz2;clear hi hz0 hz1 hz2;have HV:=hide hv;have HF:=hide hF;have HX:Hid (RowR w vV zs (M+0 *(N+8))):=hx.mono (by omega);have HSI:=hide ((zbn hF.len hz).symm.trans (zdT hF hz));have HLL:=hide (zaV hF hz);have hle:=zh1 hF;obtain⟨ao,cap,rfl,-,-⟩:=hv;clear hF hx;go_enter Tryz.func78,Tryz.ntmps78;go_wp2;go_loopw [1,6,7] (fun v kk i wr=>∃(k:Nat) (ps:List (Rn × Int)),k≤hs.length∧i=.int .i64 k∧Hid (RowR wr v (leftL hs p zs k) (M+k *(N+8)))∧Hid (GrowR wr w.heap.size kk ps (M+4 *(N+8)+6))∧Hid (ps.map (·.2)=(muchL hs p zs).take k)∧Hid (∀ j,j<k→(leftL hs p zs j).getD (p j) 0%(hs.getD j []).getD (p j) 0=0)∧Hid (∀ a l c,v=.slice (some a) l c→∀ g,kk.ownBlock=some g→a.block≠g)∧Hid (Below w.heap.size w wr)) (fun _ _ i _=>hs.length-(intOf i).toNat)
 case atStart=>exact⟨0,[],Nat.zero_le _,rfl,HX,hide (GrowR.nil _ _ _),hide (by rw [List.take_zero];rfl),hide (fun j hj=>absurd hj (Nat.not_lt_zero j)),hide (fun _ _ _ _ g hg=>by cases hg),hide (zB _ _)⟩
 case round=>
  clear HX;obtain⟨k,ps,hk,rfl,HL,HG,HP,HM,HO,HBE⟩:=hrel;have HPL:Hid (ps.length=k):=by
   have h:=congrArg List.length HP.out;rw [zM,List.length_take,zat] at h;show _=_;omega
  obtain⟨dO,dl,dc,rfl⟩:∃ dO dl dc,u6=.slice dO dl dc:=by
   rcases HG.out.1.2 with⟨e1,-⟩ |⟨g',cap',cur,e1,-⟩
   ·exact⟨_,_,_,e1⟩
   ·exact⟨_,_,_,e1⟩
  have hxl:=HLL.out k hk;obtain⟨xo,vcap,rfl,-,-⟩:=id HL.out;by_cases hkl:k<hs.length
  ·obtain⟨_,_,e,-,hc⟩:=HV.out;simp only [zV,true_and] at e;obtain⟨rfl,rfl⟩:=e;obtain⟨b,rfl,hblt,hc⟩:=hc (by omega);obtain⟨u,cu,hu⟩:=hc k hs[k] (by simp [hkl]);have hrl:hs[k].length=n:=HF.out.len _ (List.getElem_mem hkl);have hpk:p k<n:=HF.out.form.lt k hkl;have HZP:Hid (∀ b,b<p k→hs[k].getD b 0=0):=fun b hb=>by
    have h:=HF.out.form.zero k b hkl hb;rw [zl hkl] at h;exact h
   have HPOS:Hid (0<hs[k].getD (p k) 0):=by
    have h:=HF.out.form.pos k hkl;rw [zl hkl] at h;exact h
   have HMT:=hide (zjo hs p zs k hkl);have HLS:=hide (fun s h=>ziR hs p zs k hkl s h);have HOF:Hid (oftL hs p (leftL hs p zs k) k=(leftL hs p zs k).getD (p k) 0/hs[k].getD (p k) 0):=by show _=_;unfold oftL;rw [zl hkl]
   have HMS:Hid ((leftL hs p zs k).getD (p k) 0%hs[k].getD (p k) 0=0→∀ j,j<k+1→(leftL hs p zs j).getD (p j) 0%(hs.getD j []).getD (p j) 0=0):=fun h j hj=>by
    by_cases e:j=k
    ·rw [e,zl hkl];exact h
    ·exact HM.out j (by omega)
   have HNO:Hid ((leftL hs p zs k).getD (p k) 0%hs[k].getD (p k) 0≠0→¬ Gens n (InL hs) zs):=fun h hg=>h (by
    have:=(HSI.out.1 hg).1 k hkl;rw [zl hkl] at this;exact this)
   have HU0:=hide hu;clear hc;generalize hx':leftL hs p zs (k+1)=xs' at *;have HXE:=hide hx';clear hx';generalize leftL hs p zs k=xs at *;generalize hs[k]=rs at *;generalize p k=pk at *;generalize oftL hs p xs k=oo at *;obtain⟨ro,rcap,rfl,-,-⟩:=hu;have HRL:=hide hrl;have HXL:=hide hxl;clear hrl hxl;have cb:=(HBE.out.cell (p:=⟨b,k,none⟩) hblt).trans cu;have HUR:=hide (HU0.out.below HBE.out zL);obtain⟨A,hA⟩:∃ A,M+k *(N+8)=A:=⟨_,rfl⟩;have hA4:A≤M+4 *(N+8):=by
    have:=Nat.mul_le_mul_right (N+8) (show k≤4 by omega);omega
   have hA1:M+(k+1) *(N+8)=A+N+8:=by rw [← hA,Nat.succ_mul];omega
   have HA1:=hide hA1;rw [hA] at HL;clear hA hA1;go_wp2;obtain⟨wo,rfl⟩:∃ wo:World,wo=wr:=⟨_,rfl⟩;go_loopw [8] (fun i wq=>∃ q:Nat,q≤pk∧i=.int .i64 q∧wq=wo) (fun i _=>pk-(intOf i).toNat)
   case atStart=>exact⟨0,Nat.zero_le _,rfl,rfl⟩
   case round=>
    obtain⟨q,hq,rfl,hwq⟩:=hrel;subst hwq;obtain⟨ab,_,e,la,ss,so,sl,sc,a0,a1,na⟩:=HUR.out.at q (by have:=HRL.out;omega);simp only [zV,true_and] at e;obtain⟨rfl,rfl⟩:=e;have hqr:q<rs.length:=by have:=HRL.out;omega
    have hqx:q<xs.length:=by have:=HXL.out;omega
    by_cases hql:q<pk
    ·have hs0:ss=0:=na.sgn0.1.2 (HZP.out q hql);subst hs0;clear na;go_wp2;go_roundw
     case rel=>exact⟨q+1,by omega,by go_num,by first | rfl | trivial⟩
     case measure=>simp [intOf];omega
    ·obtain rfl:q=pk:=by omega
     have hs0:¬(ss=0):=fun h=>by have h1:=na.sgn0.1.1 h;have h2:=HPOS.out;omega
     have hs1:(ss==0)=false:=beq_eq_false_iff_ne.2 hs0;obtain⟨vb,_,e,lv,vs,vo,vl,vc,v0,v1,nv⟩:=HL.out.at q (by have:=HXL.out;omega);simp only [zV,true_and] at e;obtain⟨rfl,rfl⟩:=e;have NA:=hide na;have NV:=hide nv;have lb:b<wr.heap.size:=zT hblt HBE.out.size;clear na nv HZP hs0;generalize xs.getD q 0=x at *;generalize rs.getD q 0=y at *;have hy0:y≠0:=fun h=>by have:=HPOS.out;omega
     have hst:=QuoGotR.moved A N x y;go_wp2_with fail;refine zX (by kernel_rfl) (by kernel_rfl) (fun L a' w'=>∃(c:Nat→Value) (G:Nat→Nat),a'=(⟨#[.slice (some ⟨b,0,none⟩) hs.length cap,.slice (some ⟨vb,0,none⟩) xs.length vcap,undef,undef,u4,u5,.slice dO dl dc,.int .i64 (k:Int),.int .i64 (q:Int),c 15,c 16,undef,.int .i64 (k:Int),.slice (some ⟨b,0,none⟩) hs.length cap,.int .i64 (hs.length:Int),.bool true,u16,u17,.slice (some ⟨b,0,none⟩) hs.length cap,.int .i64 (k:Int),.pointer (some ⟨b,k,none⟩),.slice (some ⟨ab,0,none⟩) rs.length rcap,.int .i64 (q:Int),.pointer (some ⟨ab,q*2,none⟩),.pointer (some ⟨ab,q*2,none⟩),.int .i64 ss,.bool false,u27,u28,c 12,c 0,c 1,c 2,c 3,c 4,c 5,c 6,c 7,c 8,c 9,c 10,c 11,c 13,c 14,u44,u45,u46,u47,u48,u49,u50,u51,u52,u53,u54,u55,u56,u57,u58,u59,undef,undef,undef,undef,undef,undef,undef,undef,undef,undef,undef,undef,undef],[]⟩:Act)∧TR.Tags (TR.D22 11) (TR.FA22 11 [.slice (some ⟨vb,0,none⟩) xs.length vcap,.int .i64 (q:Int),.pointer (some ⟨vb,q*2,none⟩),.agg #[.int .i64 vs,.slice vo vl vc],.slice (some ⟨b,0,none⟩) hs.length cap,.int .i64 (k:Int),.pointer (some ⟨b,k,none⟩),.slice (some ⟨ab,0,none⟩) rs.length rcap,.int .i64 (q:Int),.pointer (some ⟨ab,q*2,none⟩),.agg #[.int .i64 ss,.slice so sl sc]] (QuoGotR A N x y) (wr).heap.size) (wr) L c w' G) ⟨fun i=>([u30,u31,u32,u33,u34,u35,u36,u37,u38,u39,u40,u41,u29,u42,u43,u9,u10,undef,undef]:List Value).getD i undef,fun _=>0,rfl,TR.Tags.start _ _ _⟩ ?_ ?_
     ·rintro L a' w' i o ⟨c,G,rfl,R⟩ ho hn hdep K hK;have hi:i<19:=(Array.getElem?_eq_some_iff.1 ho).1;rcases(by omega:i=0∨i=1∨i=2∨i=3∨i=4∨i=5∨i=6∨i=7∨i=8∨i=9∨i=10∨i=11∨i=12∨i=13∨i=14∨i=15∨i=16∨i=17∨i=18) with rfl | rfl | rfl | rfl | rfl | rfl | rfl | rfl | rfl | rfl | rfl | rfl | rfl | rfl | rfl | rfl | rfl | rfl | rfl
      ·obtain rfl:=zI ho;have R':=R.plain hn (zN rfl) (TR.FA22.keep hst) (v:=(.slice (some ⟨vb,0,none⟩) xs.length vcap)) (zc _ _ _);clear R;go_simp;exact hK.out _ _ ⟨_,_,by simp [upd],R'⟩
      ·obtain rfl:=zI ho;have R':=R.plain hn (zN rfl) (TR.FA22.keep hst) (v:=(.int .i64 (q:Int))) (zc _ _ _);clear R;go_simp;exact hK.out _ _ ⟨_,_,by simp [upd],R'⟩
      ·obtain rfl:=zI ho;have e0:c 0=(.slice (some ⟨vb,0,none⟩) xs.length vcap):=R.facts 0 (hdep ⟨0,.data⟩ (by simp) rfl);have e1:c 1=(.int .i64 (q:Int)):=R.facts 1 (hdep ⟨1,.data⟩ (by simp) rfl);have R':=R.plain hn (zN rfl) (TR.FA22.keep hst) (v:=(.pointer (some ⟨vb,q*2,none⟩))) (zc _ _ _);clear R;rw [e0,e1];go_simp;exact hK.out _ _ ⟨_,_,by simp [upd,e0,e1],R'⟩
      ·obtain rfl:=zI ho;have e2:c 2=(.pointer (some ⟨vb,q*2,none⟩)):=R.facts 2 (hdep ⟨2,.data⟩ (by simp) rfl);have q0:=(R.below.cell (p:=⟨vb,q*2,none⟩) lv).trans v0;have q1:=(R.below.cell (p:=⟨vb,q*2+1,none⟩) lv).trans v1;have R':=R.plain hn (zN rfl) (TR.FA22.keep hst) (v:=(.agg #[.int .i64 vs,.slice vo vl vc])) (zc _ _ _);clear R;rw [e2];go_simp;exact hK.out _ _ ⟨_,_,by simp [upd,e2],R'⟩
      ·obtain rfl:=zI ho;have R':=R.plain hn (zN rfl) (TR.FA22.keep hst) (v:=(.slice (some ⟨b,0,none⟩) hs.length cap)) (zc _ _ _);clear R;go_simp;exact hK.out _ _ ⟨_,_,by simp [upd],R'⟩
      ·obtain rfl:=zI ho;have R':=R.plain hn (zN rfl) (TR.FA22.keep hst) (v:=(.int .i64 (k:Int))) (zc _ _ _);clear R;go_simp;exact hK.out _ _ ⟨_,_,by simp [upd],R'⟩
      ·obtain rfl:=zI ho;have e4:c 4=(.slice (some ⟨b,0,none⟩) hs.length cap):=R.facts 4 (hdep ⟨4,.data⟩ (by simp) rfl);have e5:c 5=(.int .i64 (k:Int)):=R.facts 5 (hdep ⟨5,.data⟩ (by simp) rfl);have R':=R.plain hn (zN rfl) (TR.FA22.keep hst) (v:=(.pointer (some ⟨b,k,none⟩))) (zc _ _ _);clear R;rw [e4,e5];go_simp;exact hK.out _ _ ⟨_,_,by simp [upd,e4,e5],R'⟩
      ·obtain rfl:=zI ho;have e6:c 6=(.pointer (some ⟨b,k,none⟩)):=R.facts 6 (hdep ⟨6,.data⟩ (by simp) rfl);have q0:=(R.below.cell (p:=⟨b,k,none⟩) lb).trans cb;have R':=R.plain hn (zN rfl) (TR.FA22.keep hst) (v:=(.slice (some ⟨ab,0,none⟩) rs.length rcap)) (zc _ _ _);clear R;rw [e6];go_simp;exact hK.out _ _ ⟨_,_,by simp [upd,e6],R'⟩
      ·obtain rfl:=zI ho;have R':=R.plain hn (zN rfl) (TR.FA22.keep hst) (v:=(.int .i64 (q:Int))) (zc _ _ _);clear R;go_simp;exact hK.out _ _ ⟨_,_,by simp [upd],R'⟩
      ·obtain rfl:=zI ho;have e7:c 7=(.slice (some ⟨ab,0,none⟩) rs.length rcap):=R.facts 7 (hdep ⟨7,.data⟩ (by simp) rfl);have e8:c 8=(.int .i64 (q:Int)):=R.facts 8 (hdep ⟨8,.data⟩ (by simp) rfl);have R':=R.plain hn (zN rfl) (TR.FA22.keep hst) (v:=(.pointer (some ⟨ab,q*2,none⟩))) (zc _ _ _);clear R;rw [e7,e8];go_simp;exact hK.out _ _ ⟨_,_,by simp [upd,e7,e8],R'⟩
      ·obtain rfl:=zI ho;have e9:c 9=(.pointer (some ⟨ab,q*2,none⟩)):=R.facts 9 (hdep ⟨9,.data⟩ (by simp) rfl);have q0:=(R.below.cell (p:=⟨ab,q*2,none⟩) la).trans a0;have q1:=(R.below.cell (p:=⟨ab,q*2+1,none⟩) la).trans a1;have R':=R.plain hn (zN rfl) (TR.FA22.keep hst) (v:=(.agg #[.int .i64 ss,.slice so sl sc])) (zc _ _ _);clear R;rw [e9];go_simp;exact hK.out _ _ ⟨_,_,by simp [upd,e9],R'⟩
      ·obtain rfl:=zI ho;have e3:c 3=(.agg #[.int .i64 vs,.slice vo vl vc]):=R.facts 3 (hdep ⟨3,.data⟩ (by simp) rfl);have e10:c 10=(.agg #[.int .i64 ss,.slice so sl sc]):=R.facts 10 (hdep ⟨10,.data⟩ (by simp) rfl);rw [e3,e10];go_simp;refine(zbu w' _ _ x y A N (NV.out.below R.below zL) (NA.out.below R.below zL) hy0 (by omega) (by omega)).mono ?_;rintro e wq ⟨vq,vr,s,r',rfl,m1,m2,m3,m4,hb⟩;have R':=R.call hn (zN rfl) (TR.FA22.keep hst) hb (v:=.tuple #[vq,vr]) (show QuoGotR A N x y wq (upd c 11 (.tuple #[vq,vr]) 11) from by rw [zc];exact⟨vq,vr,s,r',rfl,m1,m2,m3,m4⟩);clear m1 m2 m3 m4 hb;clear R;go_wp2_with fail;exact hK.out _ _ ⟨_,_,by simp [upd,e3,e10],R'⟩
      ·obtain rfl:=zI ho;have R':=R.plain hn (zO rfl (hdep ⟨_,.data⟩ (by simp) rfl)) (TR.FA22.keep hst) (v:=c 11) (show upd c 12 (c 11) 12=upd c 12 (c 11) 11 from by rw [zc,zb _ _ (by decide)]);clear R;go_simp;exact hK.out _ _ ⟨_,_,by simp [upd],R'⟩
      ·obtain rfl:=zI ho;have hm:=hdep ⟨12,.data⟩ (by simp) rfl;have em:c 12=c 11:=R.facts 12 hm;obtain⟨vq,vr,s,r',ec,nm1,nm2,-⟩:(QuoGotR A N x y) w' (c 11):=R.facts 11 (R.closed 12 hm 11 (by simp [TR.D22]));rw [ec] at em;have R':=R.plain hn (zO rfl (hdep ⟨_,.data⟩ (by simp) rfl)) (TR.FA22.keep hst) (v:=vq) (show ∃ u1 u2:Value,upd c 13 vq 12=.tuple #[u1,u2]∧upd c 13 vq 13=u1 from⟨vq,vr,by rw [zb _ _ (by decide)];exact em,zc _ _ _⟩);clear R ec;rw [em];go_simp;exact hK.out _ _ ⟨_,_,by simp [upd,em],R'⟩
      ·obtain rfl:=zI ho;have hm:=hdep ⟨12,.data⟩ (by simp) rfl;have em:c 12=c 11:=R.facts 12 hm;obtain⟨vq,vr,s,r',ec,nm1,nm2,-⟩:(QuoGotR A N x y) w' (c 11):=R.facts 11 (R.closed 12 hm 11 (by simp [TR.D22]));rw [ec] at em;have R':=R.plain hn (zO rfl (hdep ⟨_,.data⟩ (by simp) rfl)) (TR.FA22.keep hst) (v:=vr) (show ∃ u1 u2:Value,upd c 14 vr 12=.tuple #[u1,u2]∧upd c 14 vr 14=u2 from⟨vq,vr,by rw [zb _ _ (by decide)];exact em,zc _ _ _⟩);clear R ec;rw [em];go_simp;exact hK.out _ _ ⟨_,_,by simp [upd,em],R'⟩
      ·obtain rfl:=zI ho;obtain⟨G',R'⟩:=R.alloc hn (zN rfl) (TR.FA22.keep hst) 17 (fun W' G' h=>show TR.Made W' G' _ 17 (upd c 15 (ptr w'.heap.size) 15) from by rw [zc];exact h);clear R;go_simp;exact hK.out _ _ ⟨_,G',by simp [upd],R'⟩
      ·obtain rfl:=zI ho;obtain⟨G',R'⟩:=R.alloc hn (zN rfl) (TR.FA22.keep hst) 18 (fun W' G' h=>show TR.Made W' G' _ 18 (upd c 16 (ptr w'.heap.size) 16) from by rw [zc];exact h);clear R;go_simp;exact hK.out _ _ ⟨_,G',by simp [upd],R'⟩
      ·obtain rfl:=zI ho;have hx:=hdep ⟨13,.data⟩ (by simp) rfl;have hm:=R.closed 13 hx 12 (by simp [TR.D22]);have em:c 12=c 11:=R.facts 12 hm;obtain⟨vq,vr,s,r',ec,nm1,nm2,-⟩:(QuoGotR A N x y) w' (c 11):=R.facts 11 (R.closed 12 hm 11 (by simp [TR.D22]));obtain⟨u1,u2,em',ex⟩:∃ u1 u2:Value,c 12=.tuple #[u1,u2]∧c 13=u1:=R.facts 13 hx;rw [em,ec] at em';simp only [Value.tuple.injEq,Array.mk.injEq,List.cons.injEq,and_true] at em';obtain⟨rfl,rfl⟩:=em';obtain⟨s,hs⟩:=TR.rm_of nm1;rw [hs] at ex;obtain⟨B,ea,hC,hB,hG,r,hb⟩:TR.Made w' G _ 17 (c 15):=R.facts 15 (hdep ⟨15,.data⟩ (by simp) rfl);have R':=R.store hn (fun j hj=>by simp [TR.D22] at hj;rcases hj with rfl | rfl <;> exact hdep ⟨_,.data⟩ (by simp) rfl) (TR.FA22.keep hst) s hC hB hG hb (fun W' G' h=>show ∃ r:Rm,upd c 17 undef 13=r.v∧TR.Stored W' G' _ 17 (upd c 17 undef 15) r from⟨s,by rw [zb _ _ (by decide)];exact ex,by rw [zb _ _ (by decide),ea];exact h⟩);obtain⟨b0,b1,b2,b3⟩:=hb.box;obtain⟨sn,so,sl,sc⟩:=s;dsimp only at *;clear R em ec;rw [ea,ex];go_simp;exact hK.out _ _ ⟨_,_,by simp [upd,ea,ex],R'⟩
      ·obtain rfl:=zI ho;have hx:=hdep ⟨14,.data⟩ (by simp) rfl;have hm:=R.closed 14 hx 12 (by simp [TR.D22]);have em:c 12=c 11:=R.facts 12 hm;obtain⟨vq,vr,s,r',ec,nm1,nm2,-⟩:(QuoGotR A N x y) w' (c 11):=R.facts 11 (R.closed 12 hm 11 (by simp [TR.D22]));obtain⟨u1,u2,em',ex⟩:∃ u1 u2:Value,c 12=.tuple #[u1,u2]∧c 14=u2:=R.facts 14 hx;rw [em,ec] at em';simp only [Value.tuple.injEq,Array.mk.injEq,List.cons.injEq,and_true] at em';obtain⟨rfl,rfl⟩:=em';obtain⟨s,hs⟩:=TR.rm_of nm2;rw [hs] at ex;obtain⟨B,ea,hC,hB,hG,r,hb⟩:TR.Made w' G _ 18 (c 16):=R.facts 16 (hdep ⟨16,.data⟩ (by simp) rfl);have R':=R.store hn (fun j hj=>by simp [TR.D22] at hj;rcases hj with rfl | rfl <;> exact hdep ⟨_,.data⟩ (by simp) rfl) (TR.FA22.keep hst) s hC hB hG hb (fun W' G' h=>show ∃ r:Rm,upd c 18 undef 14=r.v∧TR.Stored W' G' _ 18 (upd c 18 undef 16) r from⟨s,by rw [zb _ _ (by decide)];exact ex,by rw [zb _ _ (by decide),ea];exact h⟩);obtain⟨b0,b1,b2,b3⟩:=hb.box;obtain⟨sn,so,sl,sc⟩:=s;dsimp only at *;clear R em ec;rw [ea,ex];go_simp;exact hK.out _ _ ⟨_,_,by simp [upd,ea,ex],R'⟩
     ·rintro L a' w2 ⟨c2,G,rfl,R'⟩ hall;obtain⟨⟨sn,sqo,sql,sqc⟩,⟨tn,tqo,tql,tqc⟩,Q1,Q2,⟨vq,vr,s,r',ec,N1,N2,hps,hleft⟩,e13,e14,l1,l2,lq,l4,d12,x1,x2,hb2⟩:=R'.fin22 (fun i hi=>hall i hi);simp only [Value.tuple.injEq,Array.mk.injEq,List.cons.injEq,and_true] at ec;obtain⟨rfl,rfl⟩:=ec;have HSQ:=hide (zbY HPOS.out hps hleft);have HRQ:=hide (zjY HPOS.out hps hleft);have NQ2:=hide N1;have HSG:=hide N2.sgn0.1;obtain⟨a5,a6,-,-⟩:=x1.box;obtain⟨a7,a8,-,-⟩:=x2.box;have HL2:=hide (HL.out.below hb2 zL);have HG2:=hide (HG.out.later hb2);have HB2:=hide (HBE.out.trans (hb2.mono HBE.out.size));have HLQ:=hide lq;have HL1:=hide l1;have HWS:=hide hb2.size;clear R' hall hst N1 N2 hps hleft l1 l2 l4 d12 hb2 x1 x2 v0 v1 a0 a1 NA NV HL HUR cb lq;dsimp only at *;rw [e13,e14];clear e13 e14;by_cases hr0:r'=0
      ·have ht0:tn=0:=HSG.out.2 hr0;subst ht0;have hown:=HG2.out.1;have hbs:=HB2.out.size;have HTY:=hide ((zaX (ts:=[3]) hown (by decide)).alloc (.cells #[.int .i64 sn,.slice sqo sql sqc] 40));have hi:=HI0.out;have hz0:=HZ0.out;have hz1:=HZ1.out;have hz2:=HZ2.out;go_wp2_with (at_builtin;refine wpList_append_lies _ rfl _ _ 106 rfl w.heap.size 40 i0 (.agg #[.int .i64 0,.slice none 0 0]) 2 32 (by kernel_rfl) hi hz0 hz1 hz2 rfl (by decide) (.slice dO dl dc) ps.length (ps.flatMap rcells) rfl (hown.alloc _) ⟨w2.heap.size,0,none⟩ 1 1 [.int .i64 sn,.slice sqo sql sqc] rfl rfl (World.news_of_block (heap_alloc_new w2 _)) (fun u hu=>by simp only [List.mem_cons,List.mem_nil_iff,or_false] at hu;rcases hu with rfl | rfl <;> rfl) (by decide) (by unfold maxLen;have:=HPL.out;omega) (by have:=HPL.out;omega) (by simp;omega) (w2.heap.size+1) (by simp) ?_);intro gb cap5 w5 hown5 hgrow5 hat5 hlt5;have hba:Below w2.heap.size w2 (w2.alloc (.cells #[.int .i64 sn,.slice sqo sql sqc] 40)):=(zB _ _).alloc zL _;have HNN:=hide (zaU (r:=⟨sn,sqo,sql,sqc⟩) HG2.out (NQ2.out.mono (by omega)) hown5 hgrow5);have hob:=zP hown hbs hgrow5;have HB5:=hide (HB2.out.trans hob);have hgne:∀ g,(Value.slice dO dl dc).ownBlock=some g→w.heap.size≤g∧g<wr.heap.size:=fun g e=>HG.out.1.lt _ e;have c5:=hgrow5.cell (a:=⟨Q1,0,none⟩) ((hba.cell (p:=⟨Q1,0,none⟩) HLQ.out).trans a5) (fun e=>by have h1:Q1<wr.heap.size:=(hgne _ e.symm).2;have h2:wr.heap.size≤Q1:=HL1.out;omega);have c6:=hgrow5.cell (a:=⟨Q1,1,none⟩) ((hba.cell (p:=⟨Q1,1,none⟩) HLQ.out).trans a6) (fun e=>by have h1:Q1<wr.heap.size:=(hgne _ e.symm).2;have h2:wr.heap.size≤Q1:=HL1.out;omega);have HL5:=hide ((HL2.out.below hba zL).grownOff hgrow5 HTY.out HO.out);have NQ5:=hide ((NQ2.out.below hba zL).grown hgrow5 HTY.out);have h0':=(HB5.out.cell (p:=⟨b,k,none⟩) hblt).trans cu;have HU5:=hide (HU0.out.below HB5.out zL);have lb5:b<w5.heap.size:=zT hblt HB5.out.size;have lq5:Q1<w5.heap.size:=zT HLQ.out (by have h1:=hgrow5.size;simp at h1;omega);have HP5:Hid ((ps++[((⟨sn,sqo,sql,sqc⟩:Rn),s)]).map (·.2)=(muchL hs p zs).take (k+1)):=by
        show _=_;rw [List.map_append,HP.out,HMT.out,HOF.out,HSQ.out];rfl
       have HLX:=hide (HLS.out s HSQ.out);have HMS5:=hide (HMS.out (by rw [HRQ.out];exact hr0));obtain⟨p0,p1,p2⟩:_∧_∧_:=⟨h0',c5,c6⟩;clear hown hown5 hgrow5 hat5 hlt5 hob hba HTY HG2 HL2 HG HP HMT HOF HLS HMS HNO HM HPOS HSG HSQ HRQ a5 a6 a7 a8 NQ2 HO h0' c5 c6 hgne cu HU0 hi hz0 hz1 hz2;go_wp2_with fail
       go_region_held3 (fun w'=>w'.cell? ⟨b,k,none⟩=some (.slice (some ⟨ab,0,none⟩) rs.length rcap)∧w'.cell? ⟨Q1,0,none⟩=some (.int .i64 sn)∧w'.cell? ⟨Q1,1,none⟩=some (.slice sqo sql sqc)) (go_keep)
        (first
         |(go_at_call 58;refine(zad _ 1 (by decide) (by decide)).mono ?_;rintro e w6 ⟨r6,rfl,hr6,hb⟩;have HW6:Hid (Below w5.heap.size w5 w6):=((zB w5.heap.size w5).drew).trans hb;have b0:=(HW6.out.cell (p:=⟨b,k,none⟩) lb5).trans p0;have b1:=(HW6.out.cell (p:=⟨Q1,0,none⟩) lq5).trans p1;have b2:=(HW6.out.cell (p:=⟨Q1,1,none⟩) lq5).trans p2;have NO6:=hide hr6;clear hb hr6)
         |(go_at_call 60;refine(zaF _ _ s (A+6) (by exact NQ5.out.below HW6.out zL)).mono ?_;rintro e w7 ⟨r7,rfl,hr7,hb⟩;have HW7:=hide (HW6.out.trans (hb.mono HW6.out.size));have e0:=(HW7.out.cell (p:=⟨b,k,none⟩) lb5).trans p0;have e1:=(HW7.out.cell (p:=⟨Q1,0,none⟩) lq5).trans p1;have e2:=(HW7.out.cell (p:=⟨Q1,1,none⟩) lq5).trans p2;have NM7:=hide hr7;have NO7:=hide (NO6.out.below hb zL);clear hb hr7)
         |(go_at_call 85;refine(zhp w7 _ _ _ _ 1 (-s) xs rs 5 A (A+6) N (A+N+7) (by exact NO7.out) (by exact HL5.out.below HW7.out zL) (by exact NM7.out) (by exact HU5.out.below HW7.out zL) (by have h1:=HRL.out;have h2:=HXL.out;omega) (by have h2:=HXL.out;omega) (by omega) (by omega) (by omega)).mono ?_;rintro e w8 ⟨v8,rfl,hr8,hb,hf8⟩;have HW8:=hide (HW7.out.trans (hb.mono HW7.out.size));have d0:=(HW8.out.cell (p:=⟨b,k,none⟩) lb5).trans p0;have d1:=(HW8.out.cell (p:=⟨Q1,0,none⟩) lq5).trans p1;have d2:=(HW8.out.cell (p:=⟨Q1,1,none⟩) lq5).trans p2;have HR8:=hide hr8;have HF8:=hide hf8;clear hb hr8 hf8))
       have HR9:Hid (RowR w8 v8 (leftL hs p zs (k+1)) (M+(k+1) *(N+8))):=by
        have h:=HR8.out;rw [HLX.out] at h;rw [HA1.out,HXE.out];exact h
       have HG9:=hide (HNN.out.later HW8.out);have HB9:=hide (HB5.out.trans (HW8.out.mono HB5.out.size));have HO9:Hid (∀ a l c,v8=.slice (some a) l c→∀ g,(Value.slice (some ⟨gb,0,none⟩) (ps.length+1) cap5).ownBlock=some g→a.block≠g):=fun a l c e g hg=>by
        have h1:=HF8.out a l c e;have h2:=(HNN.out.1.lt _ hg).2;have h3:=HW7.out.size;omega
       clear HR8 HF8 HW8 HW7 HW6 NO6 NO7 NM7 NQ5 HL5 HU5 HNN HB5 p0 p1 p2 b0 b1 b2 e0 e1 e2 d0 d1 d2;go_wp2;go_roundw
       case rel=>exact⟨k+1,_,by omega,by go_num,HR9,HG9,HP5,HMS5,HO9,HB9⟩
       case measure=>simp [intOf];omega
      ·have ht0:¬(tn=0):=fun h=>hr0 (HSG.out.1 h);have ht1:(tn != 0)=true:=by rw [bne_iff_ne];exact ht0
       have ht2:(tn==0)=false:=beq_eq_false_iff_ne.2 ht0;have HNG:=hide (HNO.out (by rw [HRQ.out];exact hr0));clear HG2 HL2 HG HP HMT HOF HLS HMS HNO HM HPOS HSG HSQ HRQ NQ2 HO;go_wp2;go_ret2;exact⟨HB2.out,.inr ⟨HNG.out,rfl⟩⟩
  ·obtain rfl:k=hs.length:=by omega
   have HRET:Hid (RowR wr (.slice dO dl dc) (muchL hs p zs) (M+4 *(N+8)+6)):=by
    have h:=HG.out.row;rw [HP.out,List.take_of_length_le (by rw [zat];exact Nat.le_refl _)] at h;exact h
   have HSI2:Hid (Gens n (InL hs) zs↔∀ j,j<(leftL hs p zs hs.length).length→(leftL hs p zs hs.length).getD j 0=0):=⟨fun h=>(zcu _).1 (HSI.out.1 h).2,fun h=>HSI.out.2 ⟨HM.out,(zcu _).2 h⟩⟩;clear HG HP HM HO HSI HLL HF;generalize leftL hs p zs hs.length=xs at *;go_wp2;obtain⟨wo,rfl⟩:∃ wo:World,wo=wr:=⟨_,rfl⟩;go_loopw [11] (fun i wq=>∃ q:Nat,q≤xs.length∧i=.int .i64 q∧Hid (∀ j,j<q→xs.getD j 0=0)∧wq=wo) (fun i _=>xs.length-(intOf i).toNat)
   case atStart=>exact⟨0,Nat.zero_le _,rfl,hide (fun j hj=>absurd hj (Nat.not_lt_zero j)),rfl⟩
   case round=>
    obtain⟨q,hq,rfl,HQ,hwq⟩:=hrel;subst hwq;by_cases hql:q<xs.length
    ·obtain⟨vb,_,e,lv,vs,vo,vl,vc,v0,v1,nv⟩:=HL.out.at q hql;simp only [zV,true_and] at e;obtain⟨rfl,rfl⟩:=e;have hsg:=nv.sgn0.1;by_cases hs0:vs=0
     ·have hx0:=hsg.1 hs0;have HQ':Hid (∀ j,j<q+1→xs.getD j 0=0):=fun j hj=>by
       by_cases e:j=q
       ·rw [e];exact hx0
       ·exact HQ.out j (by omega)
      subst hs0;clear nv hsg hx0;go_wp2;go_roundw
      case rel=>exact⟨q+1,by omega,by go_num,HQ',by first | rfl | trivial⟩
      case measure=>simp [intOf];omega
     ·have hs1:(vs==0)=false:=beq_eq_false_iff_ne.2 hs0;have hs2:(vs != 0)=true:=by rw [bne_iff_ne];exact hs0
      have HNG:Hid (¬ Gens n (InL hs) zs):=fun hg=>hs0 (hsg.2 (HSI2.out.1 hg q hql));clear nv hsg;go_wp2;go_ret2;exact⟨HBE.out,.inr ⟨HNG.out,rfl⟩⟩
    ·obtain rfl:q=xs.length:=by omega
     have HYES:=hide (HSI2.out.2 HQ.out);clear HQ HSI2;go_wp2;go_ret2;exact⟨HBE.out,.inl ⟨HYES.out,_,rfl,HRET.out⟩⟩
end Go.Proofs.YtdedolkgcdlmeaaGreatDoor
