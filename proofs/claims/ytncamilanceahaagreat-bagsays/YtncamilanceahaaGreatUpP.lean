import Derived.Test.YtncamilanceahaaGreatBgE
set_option maxRecDepth 100000
set_option maxHeartbeats 1600000
set_option linter.unusedSimpArgs false
namespace Go.Proofs.YtncamilanceahaaGreat
open Go.RowKit
variable{w:World}{v:Value}{fuel i:Nat}
theorem Tryz.infoNamed:(Tryz.prog.info? 25).map (fun i=>(i.zero,i.size,i.bytes))=some (some (.agg #[.string ⟨#[]⟩,.int .i64 0,.slice none 0 0]),3,48):=by kernel_rfl
theorem Tryz.infoIntsB:(Tryz.prog.info? 28).map (fun i=>(i.zero,i.size,i.bytes))=some (some (.slice none 0 0),1,24):=by kernel_rfl
theorem zR {P:Program}{t:TypeId}{z:Value}{s b:Nat}(h:(P.info? t).map (fun i=>(i.zero,i.size,i.bytes))=some (some z,s,b)):∃ i,P.info? t=some i∧i.zero=some z∧i.size=s∧i.bytes=b:=by
 cases e:P.info? t with
 | none=>rw [e] at h;cases h
 | some i=>
  rw [e] at h;simp only [Option.map_some,Option.some.injEq,Prod.mk.injEq] at h;exact⟨i,rfl,h.1,h.2.1,h.2.2⟩
structure Lists (w:World)(rb:Nat)(us:List Value)(ns:List Nat)(css:List (List Value)):Prop where
 lt:rb<w.heap.size
 ln:ns.length=us.length
 lc:css.length=us.length
 at':∀ k (h:k<us.length),w.cell? ⟨rb,k,none⟩=some us[k]∧SeqV w us[k] (ns[k]'(by omega)) (css[k]'(by omega))
theorem zcC (ns:List Nat)(k:Nat)(h:k<ns.length):(ns.take (k+1)).sum=(ns.take k).sum+ns[k]:=by
 rw [List.take_succ_eq_append_getElem h,List.sum_append];simp
theorem zcB (ns:List Nat)(k:Nat):(ns.take k).sum≤ns.sum:=by
 conv=>rhs;rw [← List.take_append_drop k ns]
 rw [List.sum_append];omega
theorem zen (css:List (List Value))(k:Nat)(h:k<css.length):(css.take (k+1)).flatten=(css.take k).flatten++css[k]:=by
 rw [List.take_succ_eq_append_getElem h,List.flatten_append];simp
theorem growN (w:World)(m:Nat)(hm:m≤1000):
  Calls Tryz.prog 66 #[.slice none 0 0,.int .i64 (m:Int)] w fun e w'=>∃ v,e=.returned v∧w'.ownsRow w.heap.size 25 3 v 0 []∧Below w.heap.size w w':=by
 obtain⟨j0,hj,hy0,hy1,hy2⟩:=zR Tryz.infoNamed;by_cases h0:m=0
 ·subst h0;clear hj hy0 hy1 hy2;go_enter Tryz.func66,Tryz.ntmps66;go_wp2;go_ret;exact⟨_,rfl,World.ownsRow_nil _ _ _ _,zB _ _⟩
 ·have HR:=hide (fun ty=>Lib.run_append_nil_zeros (P:=Tryz.prog) w 43 3 ty 25 j0 (.agg #[.string ⟨#[]⟩,.int .i64 0,.slice none 0 0]) .i64 .i64 (by kernel_rfl) (by kernel_rfl) hj hy0 m (by omega) (by omega) (by omega) (by rw [hy2];omega));have hge:=grownCap_ge w m 0 25;have hle:=grownCap_le_maxLen w m 0 25 (by unfold maxLen;omega);clear hj hy0 hy1 hy2;have HG:Hid ((w.drew.alloc (.cells (Builtin.zeroCells (Value.cells (.agg #[.string ⟨#[]⟩,.int .i64 0,.slice none 0 0])) m++Builtin.zeroCells (Value.cells (.agg #[.string ⟨#[]⟩,.int .i64 0,.slice none 0 0])) (grownCap w m 0 25-m)) 25)).ownsRow w.heap.size 25 3 (.slice (some ⟨w.heap.size,0,none⟩) 0 (grownCap w m 0 25)) 0 []):=ze4 w 25 (.agg #[.string ⟨#[]⟩,.int .i64 0,.slice none 0 0]) m _ hge hle;have HB:=hide ((zB w.heap.size w).drew.alloc zL (.cells (Builtin.zeroCells (Value.cells (.agg #[.string ⟨#[]⟩,.int .i64 0,.slice none 0 0])) m++Builtin.zeroCells (Value.cells (.agg #[.string ⟨#[]⟩,.int .i64 0,.slice none 0 0])) (grownCap w m 0 25-m)) 25));generalize w.drew.alloc (.cells (Builtin.zeroCells (Value.cells (.agg #[.string ⟨#[]⟩,.int .i64 0,.slice none 0 0])) m++Builtin.zeroCells (Value.cells (.agg #[.string ⟨#[]⟩,.int .i64 0,.slice none 0 0])) (grownCap w m 0 25-m)) 25)=W1 at *;generalize grownCap w m 0 25=cp at *;unfold maxLen at hle;go_enter Tryz.func66,Tryz.ntmps66;go_wp2_with (at_builtin;refine Lib.wpList_append_run _ rfl _ _ _ _ rfl _ _ rfl rfl _ _ (HR.out _) ?_);go_wp2;go_ret;exact⟨_,rfl,HG.out,HB.out⟩
theorem concatN (w:World)(rb c:Nat)(us:List Value)(ns:List Nat)(css:List (List Value))(h:Lists w rb us ns css)(h0:0<us.length)(hu9:us.length≤9)(hs:ns.sum≤1000)(hone:∀ cs∈css,∀ y∈cs,y.oneCell'=true)(hlen:∀ k (h:k<css.length) (h':k<ns.length),css[k].length=ns[k]*3):
  Calls Tryz.prog 48 #[.slice (some ⟨rb,0,none⟩) us.length c] w fun e w'=>∃ v,e=.returned v∧w'.ownsRow w.heap.size 25 3 v ns.sum css.flatten∧Below w.heap.size w w':=by
 obtain⟨j0,hj,hy0,hy1,hy2⟩:=zR Tryz.infoNamed;have HT:=hide h;have HO:=hide hone;have HLN:=hide hlen;have hln:=h.ln;have hlc:=h.lc;have HMORE:=hide (fun(W:World) (hbw:Below w.heap.size w W) (v:Value) (n:Nat) (xs:List Value) (hown:W.ownsRow w.heap.size 25 3 v n xs) (u:Value) (m:Nat) (ys:List Value) (hl:ys.length=m*3) (hu:SeqV w u m ys) (h1:∀ y∈ys,y.oneCell'=true) (hnm:n+m≤1000)=>zaE (P:=Tryz.prog) w W w.heap.size zL hbw hbw.size 43 43 25 j0 (.agg #[.string ⟨#[]⟩,.int .i64 0,.slice none 0 0]) 3 48 (by kernel_rfl) hj hy0 hy1 hy2 rfl (by decide) v n xs hown u m ys hl hu h1 (by unfold maxLen;omega) (by omega));clear h hone hlen hj hy0 hy1 hy2;go_enter Tryz.func48,Tryz.ntmps48;go_wp2;go_loopw [3,11] (fun s i wr=>∃ k:Nat,k≤us.length∧i=.int .i64 k∧s=.int .i64 ((ns.take k).sum:Nat)∧w=wr) (fun _ i _=>us.length-(intOf i).toNat)
 case atStart=>exact⟨0,Nat.zero_le _,rfl,rfl,rfl⟩
 case round=>
  obtain⟨k,hk,rfl,rfl,rfl⟩:=hrel;by_cases hkl:k<us.length
  ·obtain⟨c0,hseq⟩:=HT.out.at' k hkl;obtain⟨ao,cap,e,-⟩:=hseq;rw [e] at c0;have hst:=zcC ns k (by omega);have hs1:=zcB ns (k+1);generalize (ns.take k).sum=S0 at *;generalize ns[k]=nk at *;have hS1:S0+nk≤1000:=by omega
   have HST:=hide hst;clear e hst hs1;go_wp2;go_roundw
   case rel=>exact⟨k+1,by omega,by go_num,(by rw [HST.out];go_num),(by first | rfl | trivial)⟩
   case measure=>simp [intOf];omega
  ·obtain rfl:k=us.length:=by omega
   have e0:(ns.take us.length).sum=ns.sum:=by rw [← hln,List.take_length]
   rw [e0];clear e0;go_wp2_with fail;refine(growN w ns.sum hs).mono ?_;rintro e w1 ⟨v,rfl,hg,hb⟩;have HG:=hide hg;have HB:=hide hb;clear hg hb;go_wp2;go_loopw [6,27] (fun s i wo=>∃(k:Nat),k≤us.length∧i=.int .i64 k∧Hid (wo.ownsRow w.heap.size 25 3 s (ns.take k).sum (css.take k).flatten)∧Hid (Below w.heap.size w wo)) (fun _ i _=>us.length-(intOf i).toNat)
   case atStart=>exact⟨0,Nat.zero_le _,rfl,HG,HB⟩
   case round=>
    obtain⟨k,hk,rfl,HGV,HBO⟩:=hrel;by_cases hkl:k<us.length
    ·obtain⟨c0,hseq⟩:=HT.out.at' k hkl;have c1:=(HBO.out.cell (p:=⟨rb,k,none⟩) HT.out.lt).trans c0;have hst:=zcC ns k (by omega);have hs1:=zcB ns (k+1);obtain⟨o,cp,W',hr,hown,hbel⟩:=HMORE.out wr HBO.out _ _ _ HGV.out us[k] ns[k] css[k] (HLN.out k (by omega) (by omega)) hseq (HO.out _ (List.getElem_mem _)) (by omega);rw [← hst,← zen css k (by omega)] at hown;rw [← hst] at hr;have HR:=hide hr;have HW:=hide hown;have HBL:=hide hbel;obtain⟨ao,cap,e,-⟩:=hseq;rw [e] at c1 HR;clear hr hown hbel c0 e hst HGV HBO;obtain⟨S1,hS⟩:∃ S1,(ns.take (k+1)).sum=S1:=⟨_,rfl⟩;rw [hS] at HR HW;have HS:=hide hS;clear hS hs1;go_wp2_with (at_builtin;refine Lib.wpList_append_run _ rfl _ _ _ _ rfl _ _ rfl rfl _ _ HR.out ?_);go_wp2;go_roundw
     case rel=>exact⟨k+1,by omega,by go_num,(by rw [HS.out];exact HW),HBL⟩
     case measure=>simp [intOf];omega
    ·obtain rfl:k=us.length:=by omega
     have HM:=HGV.out;rw [show ns.take us.length=ns by rw [← hln,List.take_length],show css.take us.length=css by rw [← hlc,List.take_length]] at HM;have HM2:=hide HM;clear HM;go_wp2;go_ret;exact⟨_,rfl,HM2.out,HBO.out⟩
theorem cloneN (w:World)(u:Value)(m:Nat)(ys:List Value)(hu:SeqV w u m ys)(hl:ys.length=m*3)(hm:m≤1000)(h1:∀ y∈ys,y.oneCell'=true):
  Calls Tryz.prog 67 #[u] w fun e w'=>∃ v,e=.returned v∧w'.ownsRow w.heap.size 25 3 v m ys∧Below w.heap.size w w':=by
 obtain⟨j0,hj,hy0,hy1,hy2⟩:=zR Tryz.infoNamed;obtain⟨ao,cap,rfl,-⟩:=id hu;cases ao with
 | none=>
  obtain⟨ao',cap',e,-,hh⟩:=hu;simp only [zV,true_and] at e;have hm0:m=0:=by
   rcases Nat.eq_zero_or_pos m with h | h
   ·exact h
   ·obtain⟨b,off,e',-⟩:=hh h;rw [e'] at e;cases e.1
  subst hm0;obtain rfl:ys=[]:=List.eq_nil_of_length_eq_zero (by simpa using hl);have g:Sem.run Tryz.prog (binOp .eql 43 (.slice none 0 cap) (.slice none 0 0)) w=.ok (.bool true) w:=by kernel_rfl
  clear hj hy0 hy1 hy2 hh e;go_enter Tryz.func67,Tryz.ntmps67;go_wp2;go_ret;exact⟨_,rfl,World.ownsRow_nil _ _ _ _,zB _ _⟩
 | some ad=>
  have g:Sem.run Tryz.prog (binOp .eql 43 (.slice (some ad) m cap) (.slice none 0 0)) w=.ok (.bool false) w:=by kernel_rfl
  have hb1:Below w.heap.size w (w.alloc (.cells #[] 25)):=zi w _;obtain⟨o,c,W',hr,hown,hbel⟩:=zaE (P:=Tryz.prog) w (w.alloc (.cells #[] 25)) w.heap.size zL hb1 hb1.size 43 43 25 j0 (.agg #[.string ⟨#[]⟩,.int .i64 0,.slice none 0 0]) 3 48 (by kernel_rfl) hj hy0 hy1 hy2 rfl (by decide) (.slice (some ⟨w.heap.size,0,none⟩) 0 0) 0 [] ⟨by simp,.inr ⟨w.heap.size,0,#[],rfl,Nat.le_refl _,heap_alloc_new w _,Nat.le_refl _,Nat.zero_le _,by simp,by simp⟩⟩ _ m ys hl hu h1 (by unfold maxLen;omega) (by omega);rw [Nat.zero_add,List.nil_append] at hown;rw [Nat.zero_add] at hr;have HR:=hide hr;have HW:=hide hown;have HBL:=hide hbel;clear hj hy0 hy1 hy2 hu hr hown hbel hb1;go_enter Tryz.func67,Tryz.ntmps67;go_wp2_with (at_builtin;refine Lib.wpList_append_run _ rfl _ _ _ _ rfl _ _ rfl rfl _ _ HR.out ?_);go_wp2;go_ret;exact⟨_,rfl,HW.out,HBL.out⟩
theorem growG (w:World)(m:Nat)(hm:m≤1000):
  Calls Tryz.prog 68 #[.slice none 0 0,.int .i64 (m:Int)] w fun e w'=>∃ v,e=.returned v∧w'.ownsRow w.heap.size 28 1 v 0 []∧Below w.heap.size w w':=by
 obtain⟨j0,hj,hy0,hy1,hy2⟩:=zR Tryz.infoIntsB;by_cases h0:m=0
 ·subst h0;clear hj hy0 hy1 hy2;go_enter Tryz.func68,Tryz.ntmps68;go_wp2;go_ret;exact⟨_,rfl,World.ownsRow_nil _ _ _ _,zB _ _⟩
 ·have HR:=hide (fun ty=>Lib.run_append_nil_zeros (P:=Tryz.prog) w 23 3 ty 28 j0 (.slice none 0 0) .i64 .i64 (by kernel_rfl) (by kernel_rfl) hj hy0 m (by omega) (by omega) (by omega) (by rw [hy2];omega));have hge:=grownCap_ge w m 0 28;have hle:=grownCap_le_maxLen w m 0 28 (by unfold maxLen;omega);clear hj hy0 hy1 hy2;have HG:Hid ((w.drew.alloc (.cells (Builtin.zeroCells (Value.cells (.slice none 0 0)) m++Builtin.zeroCells (Value.cells (.slice none 0 0)) (grownCap w m 0 28-m)) 28)).ownsRow w.heap.size 28 1 (.slice (some ⟨w.heap.size,0,none⟩) 0 (grownCap w m 0 28)) 0 []):=ze4 w 28 (.slice none 0 0) m _ hge hle;have HB:=hide ((zB w.heap.size w).drew.alloc zL (.cells (Builtin.zeroCells (Value.cells (.slice none 0 0)) m++Builtin.zeroCells (Value.cells (.slice none 0 0)) (grownCap w m 0 28-m)) 28));generalize w.drew.alloc (.cells (Builtin.zeroCells (Value.cells (.slice none 0 0)) m++Builtin.zeroCells (Value.cells (.slice none 0 0)) (grownCap w m 0 28-m)) 28)=W1 at *;generalize grownCap w m 0 28=cp at *;unfold maxLen at hle;go_enter Tryz.func68,Tryz.ntmps68;go_wp2_with (at_builtin;refine Lib.wpList_append_run _ rfl _ _ _ _ rfl _ _ rfl rfl _ _ (HR.out _) ?_);go_wp2;go_ret;exact⟨_,rfl,HG.out,HB.out⟩
theorem concatG (w:World)(rb c:Nat)(us:List Value)(ns:List Nat)(css:List (List Value))(h:Lists w rb us ns css)(h0:0<us.length)(hu9:us.length≤9)(hs:ns.sum≤1000)(hone:∀ cs∈css,∀ y∈cs,y.oneCell'=true)(hlen:∀ k (h:k<css.length) (h':k<ns.length),css[k].length=ns[k]*1):
  Calls Tryz.prog 52 #[.slice (some ⟨rb,0,none⟩) us.length c] w fun e w'=>∃ v,e=.returned v∧w'.ownsRow w.heap.size 28 1 v ns.sum css.flatten∧Below w.heap.size w w':=by
 obtain⟨j0,hj,hy0,hy1,hy2⟩:=zR Tryz.infoIntsB;have HT:=hide h;have HO:=hide hone;have HLN:=hide hlen;have hln:=h.ln;have hlc:=h.lc;have HMORE:=hide (fun(W:World) (hbw:Below w.heap.size w W) (v:Value) (n:Nat) (xs:List Value) (hown:W.ownsRow w.heap.size 28 1 v n xs) (u:Value) (m:Nat) (ys:List Value) (hl:ys.length=m*1) (hu:SeqV w u m ys) (h1:∀ y∈ys,y.oneCell'=true) (hnm:n+m≤1000)=>zaE (P:=Tryz.prog) w W w.heap.size zL hbw hbw.size 23 23 28 j0 (.slice none 0 0) 1 24 (by kernel_rfl) hj hy0 hy1 hy2 rfl (by decide) v n xs hown u m ys hl hu h1 (by unfold maxLen;omega) (by omega));clear h hone hlen hj hy0 hy1 hy2;go_enter Tryz.func52,Tryz.ntmps52;go_wp2;go_loopw [3,11] (fun s i wr=>∃ k:Nat,k≤us.length∧i=.int .i64 k∧s=.int .i64 ((ns.take k).sum:Nat)∧w=wr) (fun _ i _=>us.length-(intOf i).toNat)
 case atStart=>exact⟨0,Nat.zero_le _,rfl,rfl,rfl⟩
 case round=>
  obtain⟨k,hk,rfl,rfl,rfl⟩:=hrel;by_cases hkl:k<us.length
  ·obtain⟨c0,hseq⟩:=HT.out.at' k hkl;obtain⟨ao,cap,e,-⟩:=hseq;rw [e] at c0;have hst:=zcC ns k (by omega);have hs1:=zcB ns (k+1);generalize (ns.take k).sum=S0 at *;generalize ns[k]=nk at *;have hS1:S0+nk≤1000:=by omega
   have HST:=hide hst;clear e hst hs1;go_wp2;go_roundw
   case rel=>exact⟨k+1,by omega,by go_num,(by rw [HST.out];go_num),(by first | rfl | trivial)⟩
   case measure=>simp [intOf];omega
  ·obtain rfl:k=us.length:=by omega
   have e0:(ns.take us.length).sum=ns.sum:=by rw [← hln,List.take_length]
   rw [e0];clear e0;go_wp2_with fail;refine(growG w ns.sum hs).mono ?_;rintro e w1 ⟨v,rfl,hg,hb⟩;have HG:=hide hg;have HB:=hide hb;clear hg hb;go_wp2;go_loopw [6,27] (fun s i wo=>∃(k:Nat),k≤us.length∧i=.int .i64 k∧Hid (wo.ownsRow w.heap.size 28 1 s (ns.take k).sum (css.take k).flatten)∧Hid (Below w.heap.size w wo)) (fun _ i _=>us.length-(intOf i).toNat)
   case atStart=>exact⟨0,Nat.zero_le _,rfl,HG,HB⟩
   case round=>
    obtain⟨k,hk,rfl,HGV,HBO⟩:=hrel;by_cases hkl:k<us.length
    ·obtain⟨c0,hseq⟩:=HT.out.at' k hkl;have c1:=(HBO.out.cell (p:=⟨rb,k,none⟩) HT.out.lt).trans c0;have hst:=zcC ns k (by omega);have hs1:=zcB ns (k+1);obtain⟨o,cp,W',hr,hown,hbel⟩:=HMORE.out wr HBO.out _ _ _ HGV.out us[k] ns[k] css[k] (HLN.out k (by omega) (by omega)) hseq (HO.out _ (List.getElem_mem _)) (by omega);rw [← hst,← zen css k (by omega)] at hown;rw [← hst] at hr;have HR:=hide hr;have HW:=hide hown;have HBL:=hide hbel;obtain⟨ao,cap,e,-⟩:=hseq;rw [e] at c1 HR;clear hr hown hbel c0 e hst HGV HBO;obtain⟨S1,hS⟩:∃ S1,(ns.take (k+1)).sum=S1:=⟨_,rfl⟩;rw [hS] at HR HW;have HS:=hide hS;clear hS hs1;go_wp2_with (at_builtin;refine Lib.wpList_append_run _ rfl _ _ _ _ rfl _ _ rfl rfl _ _ HR.out ?_);go_wp2;go_roundw
     case rel=>exact⟨k+1,by omega,by go_num,(by rw [HS.out];exact HW),HBL⟩
     case measure=>simp [intOf];omega
    ·obtain rfl:k=us.length:=by omega
     have HM:=HGV.out;rw [show ns.take us.length=ns by rw [← hln,List.take_length],show css.take us.length=css by rw [← hlc,List.take_length]] at HM;have HM2:=hide HM;clear HM;go_wp2;go_ret;exact⟨_,rfl,HM2.out,HBO.out⟩
open Go
section
variable {P:Program}{ops:Array Oper}{Q:Exit→Act→World→Prop}{md:Region.Mode}{S:World→Prop}{A:Nat→Bool}
def wpUp (P:Program)(md:Region.Mode)(ops:Array Oper)(Q:Exit→Act→World→Prop)(S:World→Prop)(A:Nat→Bool):Nat→Array Bool→Act→World→Prop
 | 0=>fun listed a w=>Region.ready md ops listed=[]∧Q .normal a w
 | fuel+1=>fun listed a w=>(Region.ready md ops listed=[]→Q .normal a w) ∧
   ∀ j,j∈Region.ready md ops listed→wpOp P ops Q j (fun a' w'=>(A j=true→S w')∧wpUp P md ops Q S A fuel (listed.setIfInBounds j true) a' w') a w
theorem zfY (fuel:Nat):∀(listed:Array Bool) (a:Act) (w:World),wpUp P md ops Q S A fuel listed a w→wpAny P md ops Q fuel listed a w:=by
 induction fuel with
 | zero=>exact fun _ _ _ h=>h
 | succ fuel ih=>exact fun _ _ _ h=>⟨h.1,fun j hj=>wpOp_mono (fun a' w' h'=>ih _ a' w' h'.2) (h.2 j hj)⟩
def waitsA (md:Region.Mode)(ops:Array Oper)(A:Nat→Bool)(listed:Array Bool)(i:Nat)(ds:List Nat):Bool:=
 ((List.range ops.size).all fun j=>A j || ds.contains j || listed.getD j false) &&
  ds.all fun j=>!listed.getD j false && match ops[j]? with
   | some o=>o.after.any fun e=>Region.binds md e && (e.on==i || ds.contains e.on)
   | none=>true
theorem zjW{oi:Oper}(hi:ops[i]?=some oi)(hsel:∀(j:Nat) (o:Oper) cs b,ops[j]?=some o→o.op≠.select cs b)
  (hQ:∀ c a w,Q (.panic c) (a.put oi.dst v) w→Q (.panic c) a w) (ds:List Nat) (hds:∀ j,j∈ds→∀ o,ops[j]?=some o→∃ e∈o.after,Region.binds md e=true∧(e.on=i∨e.on∈ds)) (fuel:Nat):
  ∀(listed:Array Bool) (a:Act) (w:World),(∀ j o,ops[j]?=some o→listed.getD j true=false→j ∉ ds→A j=true) →
   (∀ j oj,ops[j]?=some oj→j≠i→listed.getD j true=false→(∀ e∈oj.after,Region.binds md e=true→e.on≠i)→oi.apart ops oj=true) →
   i∈Region.ready md ops listed→(∀ j∈ds,listed.getD j false=false)→YieldsIf P ops S oi v a→S w →
   wpUp P md ops Q S A fuel (listed.setIfInBounds i true) (a.put oi.dst v) w→wpUp P md ops Q S A (fuel+1) listed a w:=by
 induction fuel with
 | zero=>
  intro listed a w _ _ hr _ hy hS H;refine⟨fun h0=>absurd hr (by rw [h0];exact List.not_mem_nil),fun j hj=>?_⟩;by_cases e:j=i
  ·subst e;exact hy.wpOp hi hS ⟨fun _=>hS,H⟩
  ·have:=ready_mono hj e;rw [H.1] at this;cases this
 | succ fuel ih=>
  intro listed a w hlow hfree hr hun hy hS H;refine⟨fun h0=>absurd hr (by rw [h0];exact List.not_mem_nil),fun j hj=>?_⟩;by_cases e:j=i
  ·subst e;exact hy.wpOp hi hS ⟨fun _=>hS,H⟩
  ·obtain⟨hj0,oj,hoj,hall⟩:=mem_ready.1 hj;have hi0:=(mem_ready.1 hr).1;have hi1:listed.getD i false=true→False:=fun h=>by
    by_cases hl:i<listed.size
    ·simp [hl] at hi0 h;rw [hi0] at h;cases h
    ·simp [Array.getElem?_eq_none (Nat.le_of_not_lt hl)] at h
   have hnd:j ∉ ds:=fun hd=>by
    obtain⟨ed,hed,hbd,hon⟩:=hds j hd oj hoj;have h1:=hall ed hed hbd;rcases hon with hon | hon
    ·rw [hon] at h1;exact hi1 h1
    ·rw [hun _ hon] at h1;cases h1
   have hnot:∀ ed∈oj.after,Region.binds md ed=true→ed.on≠i:=fun ed hed hbd heq=>hi1 (by have:=hall ed hed hbd;rwa [heq] at this);have h2:=wpOp_putIf hoj (hfree j oj hoj e hj0 hnot) (fun cs b=>hsel i oi cs b hi) (fun cs b=>hsel j oj cs b hoj) hQ hy (H.2 j (ready_mono hj e));refine wpOp_mono (fun a' w' h3=>?_) h2;have hS':=h3.2.1 (hlow j oj hoj hj0 hnd);have hback:∀ m,(listed.setIfInBounds j true).getD m true=false→listed.getD m true=false:=fun m hmu=>by
    by_cases ejm:j=m
    ·subst ejm;exact hj0
    ·rwa [getD_set_ne true ejm] at hmu
   refine⟨h3.2.1,ih (listed.setIfInBounds j true) a' w' (fun m om hm hmu=>hlow m om hm (hback m hmu)) (fun m om hm hmi hmu hmn=>hfree m om hm hmi (hback m hmu) hmn) (ready_mono hr (Ne.symm e)) (fun d hd=>?_) h3.1 hS' ?_⟩
   ·rw [getD_set_ne (i:=j) (j:=d) false (fun e'=>hnd (by rw [e'];exact hd))];exact hun d hd
   ·rw [Array.setIfInBounds_comm _ _ e];exact h3.2.2
theorem zjX{oi:Oper}(hi:ops[i]?=some oi)(hsel:∀(j:Nat) (o:Oper) cs b,ops[j]?=some o→o.op≠.select cs b)
  (hQ:∀ c a w,Q (.panic c) (a.put oi.dst v) w→Q (.panic c) a w) (hA:A i=false) (fuel:Nat):
  ∀(listed:Array Bool) (a:Act) (w:World),
   (∀ j oj,ops[j]?=some oj→j≠i→listed.getD j true=false→(∀ e∈oj.after,Region.binds md e=true→e.on≠i)→oi.apart ops oj=true) →
   i∈Region.ready md ops listed→YieldsIf P ops (fun _=>True) oi v a →
   wpUp P md ops Q S A fuel (listed.setIfInBounds i true) (a.put oi.dst v) w→wpUp P md ops Q S A (fuel+1) listed a w:=by
 have hno:A i=true→S=S→∀ w,S w:=fun h=>by rw [hA] at h;cases h
 induction fuel with
 | zero=>
  intro listed a w _ hr hy H;refine⟨fun h0=>absurd hr (by rw [h0];exact List.not_mem_nil),fun j hj=>?_⟩;by_cases e:j=i
  ·subst e;exact hy.wpOp hi trivial ⟨fun h=>hno h rfl w,H⟩
  ·have:=ready_mono hj e;rw [H.1] at this;cases this
 | succ fuel ih=>
  intro listed a w hfree hr hy H;refine⟨fun h0=>absurd hr (by rw [h0];exact List.not_mem_nil),fun j hj=>?_⟩;by_cases e:j=i
  ·subst e;exact hy.wpOp hi trivial ⟨fun h=>hno h rfl w,H⟩
  ·obtain⟨hj0,oj,hoj,hall⟩:=mem_ready.1 hj;have hi0:=(mem_ready.1 hr).1;have hi1:listed.getD i false=true→False:=fun h=>by
    by_cases hl:i<listed.size
    ·simp [hl] at hi0 h;rw [hi0] at h;cases h
    ·simp [Array.getElem?_eq_none (Nat.le_of_not_lt hl)] at h
   have hnot:∀ ed∈oj.after,Region.binds md ed=true→ed.on≠i:=fun ed hed hbd heq=>hi1 (by have:=hall ed hed hbd;rwa [heq] at this);have h2:=wpOp_putIf hoj (hfree j oj hoj e hj0 hnot) (fun cs b=>hsel i oi cs b hi) (fun cs b=>hsel j oj cs b hoj) hQ hy (H.2 j (ready_mono hj e));refine wpOp_mono (fun a' w' h3=>?_) h2;refine⟨h3.2.1,ih (listed.setIfInBounds j true) a' w' (fun m om hm hmi hmu hmn=>hfree m om hm hmi ?_ hmn) (ready_mono hr (Ne.symm e)) h3.1 ?_⟩
   ·by_cases ejm:j=m
    ·subst ejm;exact hj0
    ·rwa [getD_set_ne true ejm] at hmu
   ·rw [Array.setIfInBounds_comm _ _ e];exact h3.2.2
theorem zj3 {listed:Array Bool}{ds:List Nat}(h:waitsA md ops A listed i ds=true):
  (∀ j o,ops[j]?=some o→listed.getD j true=false→j ∉ ds→A j=true)∧(∀ j∈ds,listed.getD j false=false)∧∀ j,j∈ds→∀ o,ops[j]?=some o→∃ e∈o.after,Region.binds md e=true∧(e.on=i∨e.on∈ds):=by
 simp only [waitsA,Bool.and_eq_true,List.all_eq_true] at h;refine⟨fun j o hj hl hn=>?_,fun j hj=>?_,fun j hj o ho=>?_⟩
 ·have h1:=h.1 j (List.mem_range.2 (Array.getElem?_eq_some_iff.1 hj).1);simp only [Bool.or_eq_true,List.contains_iff_mem] at h1;rcases h1 with(h1 | h1) | h1
  ·exact h1
  ·exact absurd h1 hn
  ·by_cases hs:j<listed.size
   ·simp [hs] at hl h1;rw [hl] at h1;cases h1
   ·simp [Array.getElem?_eq_none (Nat.le_of_not_lt hs)] at h1
 ·have:=(h.2 j hj).1;simpa using this
 ·have h2:=(h.2 j hj).2;rw [ho] at h2;obtain⟨e,he,hb⟩:=Array.any_eq_true'.1 h2;simp only [Bool.and_eq_true,Bool.or_eq_true,beq_iff_eq,List.contains_iff_mem] at hb;exact⟨e,he,hb.1,hb.2⟩
theorem zjZ (i d:Nat)(ds:List Nat){oi:Oper}{listed:Array Bool}{a:Act}(hi:ops[i]?=some oi)(hd:oi.dst=some d)
  (hs:Region.noSelect ops=true) (hf:Region.free md ops listed i=true) (hr:(Region.ready md ops listed).contains i=true) (hw:waitsA md ops A listed i ds=true)
  (hQ:∀ c a w,Q (.panic c) (a.put (some d) v) w→Q (.panic c) a w) (hwt:Region.wanted oi (yielded ops a.tmps)=true) (hy:∀ w,S w→(execOp a.eval oi).run P w=.ok (.value v) w) (hS:S w)
  (h:wpUp P md ops Q S A fuel (listed.setIfInBounds i true) (a.put (some d) v) w):wpUp P md ops Q S A (fuel+1) listed a w:=
 have hw':=zj3 hw
 zjW hi (Region.noSelect_spec hs) (by rw [hd];exact hQ) ds hw'.2.2 fuel listed a w hw'.1 (Region.free_spec hi hf) (by simpa using hr)
  hw'.2.1 (.inl ⟨hwt,hy⟩) hS (by rw [hd];exact h)
theorem zk (i d:Nat)(ds:List Nat){oi:Oper}{listed:Array Bool}{a:Act}(h:wpUp P md ops Q S A fuel (listed.setIfInBounds i true) (a.put (some d) v) w)(hi:ops[i]?=some oi:=by rfl)(hd:oi.dst=some d:=by rfl)(hs:Region.noSelect ops=true:=by kernel_rfl)(hf:Region.free md ops listed i=true:=by kernel_rfl)(hr:(Region.ready md ops listed).contains i=true:=by kernel_rfl)(hw:waitsA md ops A listed i ds=true:=by kernel_rfl)(hQ:∀ c a w,Q (.panic c) (a.put (some d) v) w→Q (.panic c) a w:=by exact fun _ _ _ h=>h)(hwt:Region.wanted oi (yielded ops a.tmps)=true:=by rfl)(hy:∀ w,S w→(execOp a.eval oi).run P w=.ok (.value v) w:=by intro w hSw;(try dsimp only at hSw);go_simp;with_reducible rfl)(hS:S w:=by assumption):wpUp P md ops Q S A (fuel+1) listed a w:=zjZ i d ds hi hd hs hf hr hw hQ hwt hy hS h
theorem zjY (i d:Nat){oi:Oper}{listed:Array Bool}{a:Act}(hi:ops[i]?=some oi)(hd:oi.dst=some d)
  (hs:Region.noSelect ops=true) (hf:Region.free md ops listed i=true) (hr:(Region.ready md ops listed).contains i=true) (hA:A i=false)
  (hQ:∀ c a w,Q (.panic c) (a.put (some d) v) w→Q (.panic c) a w) (hwt:Region.wanted oi (yielded ops a.tmps)=true) (hy:∀ w,(execOp a.eval oi).run P w=.ok (.value v) w)
  (h:wpUp P md ops Q S A fuel (listed.setIfInBounds i true) (a.put (some d) v) w):wpUp P md ops Q S A (fuel+1) listed a w:=
 zjX hi (Region.noSelect_spec hs) (by rw [hd];exact hQ) hA fuel listed a w (Region.free_spec hi hf) (by simpa using hr) (.inl ⟨hwt,fun w _=>hy w⟩) (by rw [hd];exact h)
theorem zcz (i d:Nat){oi:Oper}{listed:Array Bool}{a:Act}(h:wpUp P md ops Q S A fuel (listed.setIfInBounds i true) (a.put (some d) v) w)(hi:ops[i]?=some oi:=by rfl)(hd:oi.dst=some d:=by rfl)(hs:Region.noSelect ops=true:=by kernel_rfl)(hf:Region.free md ops listed i=true:=by kernel_rfl)(hr:(Region.ready md ops listed).contains i=true:=by kernel_rfl)(hA:A i=false:=by kernel_rfl)(hQ:∀ c a w,Q (.panic c) (a.put (some d) v) w→Q (.panic c) a w:=by exact fun _ _ _ h=>h)(hwt:Region.wanted oi (yielded ops a.tmps)=true:=by rfl)(hy:∀ w,(execOp a.eval oi).run P w=.ok (.value v) w:=by intro w;go_simp;with_reducible rfl):wpUp P md ops Q S A (fuel+1) listed a w:=zjY i d hi hd hs hf hr hA hQ hwt hy h
theorem zo (i:Nat){o:Oper}{listed:Array Bool}{a:Act}(hr:Region.ready md ops listed=[i])(ho:ops[i]?=some o)
  (h:∀ K':Act→World→Prop,Shut (∀ a w,(A i=true→S w)→wpUp P md ops Q S A fuel (listed.setIfInBounds i true) a w→K' a w)→if Region.wanted o (yielded ops a.tmps)=true then Oper.wp P o a w K' Q else K' (a.put o.dst undef) w):
  wpUp P md ops Q S A (fuel+1) listed a w:=by
 refine⟨fun h0=>absurd (hr.symm.trans h0) (by simp),fun j hj=>?_⟩;rw [hr] at hj;obtain rfl:j=i:=by simpa using hj
 exact wpOp_step ho (fun K' hK=>h K' (fun a w hS hW=>hK a w ⟨hS,hW⟩))
theorem zbV{listed:Array Bool}{a:Act}(hr:Region.ready md ops listed=[])(h:Q .normal a w):wpUp P md ops Q S A fuel listed a w:=by
 cases fuel with
 | zero=>exact⟨hr,h⟩
 | succ fuel=>exact⟨fun _=>h,fun j hj=>by rw [hr] at hj;cases hj⟩
theorem zbW{id:Nat}{a:Act}(hm:P.follows .mixedOrders=true)(hS:S w.drew)
  (h:S w.drew→wpUp P .any ops Q S A ops.size (Array.replicate ops.size false) a w.drew):(Code.region id ops true).wp P Q a w:=
 wp_region_any hm (zfY _ _ _ _ (h hS))
end
end Go.Proofs.YtncamilanceahaaGreat
