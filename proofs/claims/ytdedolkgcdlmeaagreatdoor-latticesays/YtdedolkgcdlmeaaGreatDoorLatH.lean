import Derived.Test.YtdedolkgcdlmeaaGreatDoorKerL
set_option maxRecDepth 100000
set_option maxHeartbeats 4000000
set_option linter.unusedSimpArgs false
namespace Go.Proofs.YtdedolkgcdlmeaaGreatDoor
open Go.RowKit Limbs
variable{zs:List Int}
theorem zfw (qs:List (Nm × Int)):(qs.flatMap ncells).length=qs.length*2:=by
 induction qs with
 | nil=>rfl
 | cons p qs ih=>rw [List.flatMap_cons,List.length_append,ih,List.length_cons];simp [ncells];omega
theorem zjs (qs:List (Nm × Int))(u:Value)(hu:u∈qs.flatMap ncells):u.oneCell'=true:=by
 obtain⟨p,-,h⟩:=List.mem_flatMap.1 hu;simp only [ncells,List.mem_cons,List.mem_nil_iff,or_false] at h;rcases h with rfl | rfl <;> rfl
theorem VecN.rows{W:World}{P:Nat}{n:Nat}(h:VecN W (.slice (some ⟨P,0,none⟩) zs.length zs.length) zs n):
  ∃ qs:List (Nm × Int),qs.map (·.2)=zs∧(∀ j u,(qs.flatMap ncells)[j]?=some u→W.cell? ((⟨P,0,none⟩:Addr).add j)=some u)∧∀ p∈qs,NumL W p.1.val p.2 n∧∀ {w:World},NewV w W P zs.length→NewSl w p.1.sl:=by
 have key:∀ i,i<zs.length→∃ r:Nm,W.cell? ⟨P,i*2,none⟩=some (.bool r.neg)∧W.cell? ⟨P,i*2+1,none⟩=some (.slice r.o r.l r.c)∧NumL W r.val (zs.getD i 0) n:=fun i hi=>by
  obtain⟨-,neg,o,l,c,h1,h2,h3⟩:=h.at i hi;rw [Nat.zero_add] at h1 h2;exact⟨⟨neg,o,l,c⟩,h1,h2,h3⟩
 let f:Nat→Nm:=fun i=>if hi:i<zs.length then Classical.choose (key i hi) else ⟨false,none,0,0⟩
 have hf:∀ i,i<zs.length→W.cell? ⟨P,i*2,none⟩=some (.bool (f i).neg)∧W.cell? ⟨P,i*2+1,none⟩=some (.slice (f i).o (f i).l (f i).c)∧NumL W (f i).val (zs.getD i 0) n:=fun i hi=>by
  have:=Classical.choose_spec (key i hi);simpa only [f,dif_pos hi] using this
 let qs:List (Nm × Int):=(List.range zs.length).map fun i=>(f i,zs.getD i 0)
 have hl:qs.length=zs.length:=by simp [qs]
 have hq:∀ i (hi:i<qs.length),qs[i]=(f i,zs.getD i 0):=fun i hi=>by simp [qs]
 refine⟨qs,?_,fun j u hj=>?_,fun p hp=>?_⟩
 ·apply List.ext_getElem (by rw [zM,hl]);intro i h1 h2;rw [List.getElem_map,hq i (by omega),zG,List.getElem?_eq_getElem h2];rfl
 ·have hjl:j<(qs.flatMap ncells).length:=(List.getElem?_eq_some_iff.1 hj).1;rw [zfw,hl] at hjl;have ea:(⟨P,0,none⟩:Addr).add j=⟨P,j,none⟩:=by unfold Addr.add;split <;> simp_all
  rw [ea];obtain⟨e1,e2⟩:=zfv qs (j/2) (by omega);rw [hq _ (by omega)] at e1 e2;obtain⟨c1,c2,-⟩:=hf (j/2) (by omega);rcases(by omega:j=j/2*2∨j=j/2*2+1) with e | e
  ·rw [← e] at e1 c1;rw [hj] at e1;rw [c1,e1]
  ·rw [← e] at e2 c2;rw [hj] at e2;rw [c2,e2]
 ·obtain⟨i,hi,rfl⟩:=List.getElem_of_mem hp;rw [hq i hi];obtain⟨c1,c2,c3⟩:=hf i (by omega);exact⟨c3,fun hn=>hn i (by omega) _ _ _ c2⟩
theorem Tryz.infoInt9:(Tryz.prog.info? 3).map (fun i=>(i.zero,i.size,i.bytes))=some (some (.int .i64 0),1,8):=by kernel_rfl
theorem zfZ (m:Nat)(hm:m≤1000)(W:World):(Instr.makeSlice 38 (.int .i64 (m:Int)) (.int .i64 (m:Int))).run Tryz.prog W=.ok (.slice (some ⟨W.heap.size,0,none⟩) m m) (W.alloc (.cells (madeCells #[.int .i64 0] m) 3)):=by
 obtain⟨i0,hi,hz0,hz1,hz2⟩:=info_parts Tryz.infoInt9;have h:=run_make (P:=Tryz.prog) W 38 3 i0 (.int .i64 0) Tryz.underlying38 hi hz0 .i64 .i64 m m (by omega) (by omega) (by rw [hz2];omega) (by omega);rw [hz1,Int.toNat_natCast,Nat.mul_one] at h;exact h
theorem zgs (n k:Nat)(hk:k<n)(j:Nat)(hj:j<n):((madeCells #[.int .i64 0] n).setIfInBounds k (.int .i64 1))[j]?=some (.int .i64 ((unitL n k).getD j 0)):=by
 rw [zax n k j hj];by_cases e:j=k
 ·subst e;rw [if_pos rfl,Array.getElem?_setIfInBounds_self_of_lt (by simp [madeCells,hk])]
 ·rw [if_neg e,Array.getElem?_setIfInBounds_ne (by omega)];simp [madeCells,hj,Nat.mod_one]
theorem zkW (w:World)(va:Value)(n nv:Nat)(hs:List (List Int))(ha:MatN w va hs nv)(hl:∀ r∈hs,r.length=n)(hn1:1≤n)(hn:n≤100)(hm:hs.length≤100)(h2:2≤nv):
  Calls Tryz.prog 112 #[va,.int .i64 (n:Int)] w fun e w'=>∃ u,e=.returned u∧MatN w' u (tracedL hs n) nv∧Below w.heap.size w w':=by
 obtain⟨i0,hi,hz0,hz1,hz2⟩:=info_parts Tryz.infoNum;have HT:=hide (zk1 w va n nv hs ha hl hn hm);obtain⟨ao,acap,rfl,-,-⟩:=ha;clear hl;have hmk:=zfZ n (by omega);go_enter Tryz.func112,Tryz.ntmps112;go_wp2_with fail;refine HT.out.mono ?_;rintro e w1 ⟨O,vs,ps,rfl,ho,hp⟩;have HO0:=hide ho;have HP0:Hid (∀ i,i<n→(ps i).map (·.2)=if i<0 then colL hs i++unitL n i else colL hs i):=fun i hi=>by rw [if_neg (Nat.not_lt_zero i)];exact hp i hi
 clear ho hp HT;go_wp2;go_loopw [12] (fun x wr=>∃(k:Nat) (vs:Nat→Value) (ps:Nat→List (Nm × Int)),k≤n∧x=.int .i64 k∧Hid (OutG w wr O n vs ps nv)∧Hid (∀ i,i<n→(ps i).map (·.2)=if i<k then colL hs i++unitL n i else colL hs i)) (fun x _=>n-(intOf x).toNat)
 case atStart=>exact⟨0,_,_,Nat.zero_le _,rfl,HO0,HP0⟩
 case round=>
  clear HO0 HP0 vs ps;obtain⟨k,vs,ps,hk,rfl,HOr,HD⟩:=hrel;by_cases hkl:k<n
  ·have hbu:Below wr.heap.size wr (wr.alloc (.cells ((madeCells #[.int .i64 0] n).setIfInBounds k (.int .i64 1)) 3)):=(zB _ _).alloc zL _;have hun:k<(madeCells #[Value.int .i64 0] n).size:=by simp [madeCells,hkl]
   have HO:=hide (HOr.out.later hbu);have HUS0:Hid (RowS (wr.alloc (.cells ((madeCells #[.int .i64 0] n).setIfInBounds k (.int .i64 1)) 3)) (.slice (some ⟨wr.heap.size,0,none⟩) n n) (unitL n k)):=by
    refine⟨_,_,by rw [zx],by rw [zx];exact Nat.le_refl _,fun i=>?_,fun _=>⟨_,_,rfl,by simp,fun i hi=>?_⟩⟩
    ·by_cases h:i<n
     ·rw [zax n k i h];split <;> decide
     ·rw [zG,List.getElem?_eq_none (by rw [zx];omega)];decide
    ·rw [zx] at hi;rw [Nat.zero_add,World.cell?_alloc_new];exact zgs n k hkl i hi
   clear hbu HOr;go_wp2_with fail;generalize hWX:wr.alloc (.cells ((madeCells #[.int .i64 0] n).setIfInBounds k (.int .i64 1)) 3)=wx at *;have HUS:=hide (HUS0.out.below (zB wx.heap.size wx).drew zL);clear hWX HUS0;have c5:=HO.out.cell k hkl;obtain⟨vo,vl,vc,hvk⟩:∃ vo vl vc,vs k=.slice vo vl vc:=by
    rcases(HO.out.grow k hkl).1.2 with⟨e1,-⟩ |⟨g',cap',cur,e1,-⟩
    ·exact⟨_,_,_,e1⟩
    ·exact⟨_,_,_,e1⟩
   rw [hvk] at c5;have hOlt:=HO.out.lt;have HVK:=hide hvk;have HPL:Hid ((ps k).length=hs.length):=by
    have h1:=congrArg List.length (HD.out k hkl);rw [if_neg (Nat.lt_irrefl _)] at h1;unfold colL at h1;rw [zM,zM] at h1;exact h1
   have HON:=hide (HO.out.own_ne hkl);clear hvk hun;refine zp (S:=(fun w'=>w'.cell? ⟨O,k,none⟩=some (.slice vo vl vc))) (k:=10) (by kernel_rfl) (by exact c5) (fun hHeld=>?_);refine zd 0 20 [10] ?_;try simp only [zA]
   refine zd 1 21 [10] ?_;try simp only [zA]
   refine zd 2 22 [10] ?_;try simp only [zA]
   refine zd 3 23 [10] ?_;try simp only [zA]
   refine zd 4 24 [10] ?_;try simp only [zA]
   refine zd 5 25 [10] ?_;try simp only [zA]
   refine zd 6 26 [10] ?_;try simp only [zA]
   refine ze 7 (by kernel_rfl) rfl (fun K hK=>?_);go_simp;refine(zjD _ _ (unitL n k) (by exact HUS.out) (by rw [zx];omega)).mono ?_;rintro e w2 ⟨P,rfl,hv2,hn2⟩;have HV2:=hide hv2;have HN2:=hide hn2;have hb2:Below wx.heap.size wx w2:=((zB _ _).drew).trans hv2.below;have HOA:=hide (HO.out.later hb2);have d5:=(hb2.cell (p:=⟨O,k,none⟩) hOlt).trans c5;have hus:=HO.out.low.size;have hx2:=hb2.size;rw [zx] at *;clear hv2 hn2 hb2;go_wp2_with fail;refine hK.out _ _ (fun _=>d5) ?_;clear hK K;try simp only [zA]
   obtain⟨qs,hqz,hqc,hqn⟩:=HV2.out.vec.rows;have HQC:=hide hqc;have HQN:=hide hqn;have HQZ:=hide hqz;have hql:qs.length=n:=by have:=congrArg List.length hqz;rw [zM,zx] at this;exact this
   clear hqc hqn hqz;refine ze 8 (by kernel_rfl) rfl (fun K hK=>?_);refine step_append_lies _ rfl (.tmp 25) (.tmp 27) 72 rfl w.heap.size 29 i0 (.agg #[.bool false,.slice none 0 0]) 2 32 (by kernel_rfl) hi hz0 hz1 hz2 rfl (by decide) (.slice vo vl vc) (ps k).length ((ps k).flatMap ncells) rfl (by have:=(HOA.out.grow k hkl).1;rw [HVK.out] at this;exact this) ⟨P,0,none⟩ n n (qs.flatMap ncells) rfl (by rw [zfw,hql]) HQC.out (fun u hu=>zjs qs u hu) (by omega) (by unfold maxLen;have:=HPL.out;omega) (by have:=HPL.out;omega) (by omega) w2.heap.size (by first | rfl | simp) ?_;intro g5 cap5 w5 hown5 hgrow5 hat5 hlt5;have HO5:=hide hown5;have HG5:=hide hgrow5;have HA5:=hide hat5;clear hown5 hgrow5 hat5 hlt5;have e5:=HG5.out.cell d5 (by rw [← HVK.out];exact HON.out);refine hK.out _ _ (fun _=>e5) ?_;clear hK K;try simp only [zA]
   have hHeld5:(fun w'=>w'.cell? ⟨O,k,none⟩=some (.slice vo vl vc)) w5:=e5;clear hHeld;refine zd 9 29 [10] ?_;try simp only [zA]
   have HP:=hide (HOA.out.push hkl qs (fun p hp=>(HQN.out p hp).1.mono h2) (fun i hi p hp a l c e h0 hb=>by
    have h1:=(HQN.out p hp).2 (by rw [zx];exact HN2.out) a l c e;have h2:=zcH (HO.out.grow i hi) hb.symm;have h3:wx.heap.size≤a.block:=h1;omega) (L:=(ps k).length+n) (by rw [hql]) HO5.out (by rw [HVK.out];exact HG5.out) (by rw [HVK.out];exact HA5.out.imp id fun h=>by rw [h];exact Nat.le_refl _))
   have ef:w5.frozen? ⟨O,k,none⟩=false:=by
    have h1:=HOA.out.thaw k;rw [World.frozen?_of_block (a:=⟨O,k,none⟩) (HG5.out.block O HOA.out.lt (by rw [← HVK.out];exact HON.out))];exact h1
   refine ze 10 (by kernel_rfl) rfl (fun K hK=>?_);go_simp;refine hK.out _ _ (fun h=>absurd h (by decide)) ?_;clear hK K;try simp only [zA]
   refine zn (by kernel_rfl) ?_;have HD':Hid (∀ i,i<n→(updN ps k (ps k++qs) i).map (·.2)=if i<k+1 then colL hs i++unitL n i else colL hs i):=fun i hi=>by
    by_cases e:i=k
    ·rw [e,zay,List.map_append,HD.out k hkl,if_neg (Nat.lt_irrefl _),HQZ.out,if_pos (by omega)]
    ·rw [zaj _ _ _ e,HD.out i hi];by_cases h:i<k
     ·rw [if_pos h,if_pos (by omega)]
     ·rw [if_neg h,if_neg (by omega)]
   clear c5 d5 e5 ef HO5 HG5 HA5 HOA HO HD hHeld5 HV2 HN2 HQC HQN HQZ HUS;go_wp2;go_roundw
   case rel=>exact⟨k+1,_,_,by omega,by go_num,HP,HD'⟩
   case measure=>simp [intOf];omega
  ·obtain rfl:k=n:=by omega
   have HF:=hide (HOr.out.mat (tracedL hs k) (zZ hs k) (fun i hi=>by rw [HD.out i hi,if_pos hi,zcb hs k i hi];rfl));have HB:=hide HOr.out.low;clear HOr HD;go_wp2;go_ret;exact⟨_,rfl,HF.out,HB.out⟩
theorem zjA{neg neg':Bool}{zs':List Int}(h1:LB zs)(h2:LB zs')(n1:Nrm zs)(n2:Nrm zs')(e1:zs.length=0→neg=false)(e2:zs'.length=0→neg'=false)
  (h:(if neg=true then -lv zs else lv zs)=(if neg'=true then -lv zs' else lv zs')):neg=neg'∧zs=zs':=by
 have p1:=zD h1;have p2:=zD h2;have q1:=zaE h1 n1;have q2:=zaE h2 n2;cases neg <;> cases neg' <;> simp at h
 ·exact⟨rfl,zfh h1 h2 n1 n2 h⟩
 ·exfalso;have:=e2 (q2.1 (by omega));simp at this
 ·exfalso;have:=e1 (q1.1 (by omega));simp at this
 ·exact⟨rfl,zfh h1 h2 n1 n2 (by omega)⟩
theorem zkd (w:World)(va vb:Value)(x y:Int)(n m:Nat)(ha:NumL w va x n)(hb:NumL w vb y m):
  Calls Tryz.prog 15 #[va,vb] w fun e w'=>e=.returned (.bool (decide (x=y)))∧Below w.heap.size w w':=by
 obtain⟨an,sa,zs,rfl,hla,nra,ea,hx,-⟩:=ha;obtain⟨bn,sb,zs',rfl,hlb,nrb,eb,hy,-⟩:=hb;have HA:=hide hla;have HB:=hide hlb;obtain⟨ao,acap,rfl,hacap,halen,halb,-⟩:=hla;obtain⟨bo,bcap,rfl,hbcap,hblen,hblb,-⟩:=hlb;have HD:Hid (decide (x=y)=decide (an=bn∧zs=zs')):=by
  show _=_;by_cases h:x=y
  ·rw [decide_eq_true h,decide_eq_true (zjA halb hblb nra nrb ea eb (hx.symm.trans (h.trans hy)))]
  ·rw [decide_eq_false h,decide_eq_false (fun h'=>h (by rw [hx,hy,h'.1,h'.2]))]
 rw [HD.out];generalize hr:decide (an=bn∧zs=zs')=r;have HR:Hid (r=decide (an=bn∧zs=zs')):=hr.symm;clear hx hy ea eb nra nrb HD hr;have hT:=two w (.bool an) (.slice ao zs.length acap) (.bool bn) (.slice bo zs'.length bcap) 29 29;have HT:=hide hT;obtain⟨_,_,e,-,-,-,hac⟩:=HA.out.below hT.below zL;simp only [zV,true_and] at e;obtain⟨rfl,rfl⟩:=e;obtain⟨_,_,e,-,-,-,hbc⟩:=HB.out.below hT.below zL;simp only [zV,true_and] at e;obtain⟨rfl,rfl⟩:=e;have HAC:=hide hac;have HBC:=hide hbc;clear hac hbc HA HB;by_cases hn:an=bn
 ·subst hn;by_cases hl:zs.length=zs'.length
  ·have HL:=hide hl;have hl1:((zs.length:Int) ==(zs'.length:Int))=true:=by rw [beq_iff_eq];omega
   have hl2:((zs.length:Int) !=(zs'.length:Int))=false:=by rw [bne_eq_false_iff_eq];omega
   clear hl;go_enter Tryz.func15,Tryz.ntmps15;go_wp2;generalize (w.alloc (.cells #[.bool an,.slice ao zs.length acap] 29)).alloc (.cells #[.bool an,.slice bo zs'.length bcap] 29)=W at *;clear hT;obtain⟨k0,k1,-,-⟩:=HT.out.fst;obtain⟨l0,l1,-,-⟩:=HT.out.res;go_loopw [5] (fun i wr=>∃ k nq:Nat,k≤zs.length∧i=.int .i64 k∧wr=W.drewN nq∧Hid (zs.take k=zs'.take k)) (fun i _=>zs.length-(intOf i).toNat)
   case atStart=>exact⟨0,0,Nat.zero_le _,rfl,by simp [World.drewN_zero],by show _=_;simp⟩
   case round=>
    obtain⟨k,nq,hk,rfl,rfl,HG⟩:=hrel;by_cases hlt:k<zs.length
    ·obtain⟨ab,aoff,rfl,-,hac⟩:=HAC.out (by omega);have hlt':k<zs'.length:=by have:=HL.out;omega
     obtain⟨bb,boff,rfl,-,hbc⟩:=HBC.out (by omega);have hca:=hac k hlt;have hcb:=hbc k hlt';have HTS:=hide (fun e=>zgo hlt hlt' HG.out e);have HNE:Hid (zs.getD k 0≠zs'.getD k 0→r=false):=fun h=>HR.out.trans (decide_eq_false fun e=>h (by rw [e.2]));clear hac hbc HAC HBC;generalize zs.getD k 0=z at *;generalize zs'.getD k 0=y' at *;by_cases hzy:z=y'
     ·have HG':=hide (HTS.out hzy);subst hzy;clear HTS HNE HG;go_wp2
      go_quiet (fail)
      go_wp2;go_roundw
      case rel=>exact⟨k+1,_,by omega,by go_num,rfl,HG'⟩
      case measure=>simp [intOf];omega
     ·obtain rfl:r=false:=HNE.out hzy;have hz1:(z==y')=false:=by rw [beq_eq_false_iff_ne];exact hzy
      have hz2:(z != y')=true:=by rw [bne_iff_ne];exact hzy
      clear HTS HNE HG;go_wp2
      go_quiet (fail)
      go_wp2;go_ret;exact⟨rfl,by first | exact zW HT.out.below _ | exact zW (zW HT.out.below _) _⟩
    ·obtain rfl:r=true:=by
      obtain rfl:k=zs.length:=by omega
      have:=HG.out;rw [List.take_length,List.take_of_length_le (by have:=HL.out;omega)] at this;exact HR.out.trans (decide_eq_true (by first | exact⟨rfl,this⟩ | exact⟨trivial,this⟩))
     clear HG;go_wp2;go_ret;exact⟨rfl,zW HT.out.below _⟩
  ·have hl1:((zs.length:Int) ==(zs'.length:Int))=false:=by rw [beq_eq_false_iff_ne];omega
   have hl2:((zs.length:Int) !=(zs'.length:Int))=true:=by rw [bne_iff_ne];omega
   obtain rfl:r=false:=HR.out.trans (decide_eq_false fun e=>hl (by rw [e.2]));clear hl HAC HBC;go_enter Tryz.func15,Tryz.ntmps15;go_wp2;go_ret;exact⟨rfl,HT.out.below⟩
 ·have hn1:(an==bn)=false:=by rw [beq_eq_false_iff_ne];exact hn
  have hn2:(an != bn)=true:=by rw [bne_iff_ne];exact hn
  obtain rfl:r=false:=HR.out.trans (decide_eq_false fun e=>hn e.1);clear hn HAC HBC;go_enter Tryz.func15,Tryz.ntmps15;go_wp2;go_ret;exact⟨rfl,HT.out.below⟩
theorem zf6 (w:World)(va vb:Value)(zs ys:List Int)(n m:Nat)(ha:VecN w va zs n)(hb:VecN w vb ys m)(hzl:zs.length≤100000)(r:Bool)(hr:r=decide (zs=ys)):
  Calls Tryz.prog 79 #[va,vb] w fun e w'=>e=.returned (.bool r)∧Below w.heap.size w w':=by
 have HA:=hide ha;have HB:=hide hb;have HR:=hide hr;clear hr;by_cases hl:zs.length=ys.length
 ·obtain⟨ao,acap,rfl,-,-⟩:=ha;obtain⟨bo,bcap,rfl,-,-⟩:=hb;have hl1:((zs.length:Int) ==(ys.length:Int))=true:=by rw [beq_iff_eq];omega
  have hl2:((zs.length:Int) !=(ys.length:Int))=false:=by rw [bne_eq_false_iff_eq];omega
  have HLN:=hide hl;clear hl;go_enter Tryz.func79,Tryz.ntmps79;go_wp2;go_loopw [5] (fun i wr=>∃ k:Nat,k≤zs.length∧i=.int .i64 k∧Hid (zs.take k=ys.take k)∧Below w.heap.size w wr) (fun i _=>zs.length-(intOf i).toNat)
  case atStart=>exact⟨0,Nat.zero_le _,rfl,by show _=_;simp,zB _ _⟩
  case round=>
   obtain⟨k,hk,rfl,HG,hbe⟩:=hrel;have HBE:=hide hbe;clear hbe;by_cases hkl:k<zs.length
   ·have hky:k<ys.length:=by have:=HLN.out;omega
    obtain⟨ab,aoff,_,e⟩:=HA.out.form (by omega);simp only [zV,true_and] at e;obtain⟨rfl,rfl⟩:=e;obtain⟨bb,boff,_,e⟩:=HB.out.form (by omega);simp only [zV,true_and] at e;obtain⟨rfl,rfl⟩:=e;obtain⟨la,an,ao,al,ac,a0,a1,na⟩:=(HA.out.below HBE.out zL).at k hkl;obtain⟨lb,bn,bo,bl,bc,b0,b1,nb⟩:=(HB.out.below HBE.out zL).at k hky;have NA:=hide na;have NB:=hide nb;have HTS:=hide (fun e=>zgo hkl hky HG.out e);have HNE:Hid (zs.getD k 0≠ys.getD k 0→r=false):=fun h=>by
     rw [HR.out];exact decide_eq_false fun e=>h (by rw [e])
    clear na nb;generalize zs.getD k 0=z at *;generalize ys.getD k 0=y at *;go_wp2_with fail
    go_region_held3 (fun w'=>w'.cell? ⟨ab,aoff+k*2,none⟩=some (.bool an)∧w'.cell? ⟨ab,aoff+k*2+1,none⟩=some (.slice ao al ac)∧w'.cell? ⟨bb,boff+k*2,none⟩=some (.bool bn)∧w'.cell? ⟨bb,boff+k*2+1,none⟩=some (.slice bo bl bc)) (go_keep)
     (first
      |(go_at_call 15;refine(zkd _ _ _ z y n m (by exact NA.out) (by exact NB.out)).mono ?_;rintro e w1 ⟨rfl,hb1⟩;have HB1:=hide (show Below w.heap.size w w1 from HBE.out.drew.trans (hb1.mono HBE.out.size));have p0:=(hb1.cell (p:=⟨ab,aoff+k*2,none⟩) la).trans a0;have p1:=(hb1.cell (p:=⟨ab,aoff+k*2+1,none⟩) la).trans a1;have p2:=(hb1.cell (p:=⟨bb,boff+k*2,none⟩) lb).trans b0;have p3:=(hb1.cell (p:=⟨bb,boff+k*2+1,none⟩) lb).trans b1;clear hb1))
    by_cases hz:z=y
    ·have HG':=hide (HTS.out hz);have ez:decide (z=y)=true:=decide_eq_true hz;rw [ez];clear HTS HNE hz ez p0 p1 p2 p3 a0 a1 b0 b1;go_wp2;go_roundw
     case rel=>exact⟨k+1,by omega,by go_num,HG',HB1.out⟩
     case measure=>simp [intOf];omega
    ·have ez:decide (z=y)=false:=decide_eq_false hz;rw [ez];obtain rfl:r=false:=HNE.out hz;clear HTS HNE hz ez p0 p1 p2 p3 a0 a1 b0 b1;go_wp2;go_ret;exact⟨rfl,HB1.out⟩
   ·obtain rfl:k=zs.length:=by omega
    have HE:Hid (zs=ys):=by
     have:=HG.out;rw [List.take_length,List.take_of_length_le (by have:=HLN.out;omega)] at this;exact this
    obtain rfl:r=true:=by rw [HR.out];exact decide_eq_true HE.out
    clear HG HE;go_wp2;go_ret;exact⟨rfl,HBE.out⟩
 ·obtain⟨ao,acap,rfl,-,-⟩:=ha;obtain⟨bo,bcap,rfl,-,-⟩:=hb;have hl1:((zs.length:Int) ==(ys.length:Int))=false:=by rw [beq_eq_false_iff_ne];omega
  have hl2:((zs.length:Int) !=(ys.length:Int))=true:=by rw [bne_iff_ne];omega
  obtain rfl:r=false:=by rw [HR.out];exact decide_eq_false fun e=>hl (by rw [e])
  go_enter Tryz.func79,Tryz.ntmps79;go_wp2;go_ret;exact⟨rfl,zB _ _⟩
theorem zkI {zs ys:List (List Int)}{k:Nat}(h1:k<zs.length)(h2:k<ys.length)(h:zs.take k=ys.take k)(e:zs[k]=ys[k]):zs.take (k+1)=ys.take (k+1):=by
 rw [List.take_succ_eq_append_getElem h1,List.take_succ_eq_append_getElem h2,h,e]
theorem zke (w:World)(va vb:Value)(zss yss:List (List Int))(n m:Nat)(ha:MatN w va zss n)(hb:MatN w vb yss m)(hzl:zss.length≤100000)(hz:∀ zs∈zss,zs.length≤100000)(r:Bool)(hr:r=decide (zss=yss)):
  Calls Tryz.prog 72 #[va,vb] w fun e w'=>e=.returned (.bool r)∧Below w.heap.size w w':=by
 have HA:=hide ha;have HB:=hide hb;have HR:=hide hr;have HZ:=hide hz;clear hr hz;by_cases hl:zss.length=yss.length
 ·obtain⟨ao,acap,rfl,-,-⟩:=ha;obtain⟨bo,bcap,rfl,-,-⟩:=hb;have hl1:((zss.length:Int) ==(yss.length:Int))=true:=by rw [beq_iff_eq];omega
  have hl2:((zss.length:Int) !=(yss.length:Int))=false:=by rw [bne_eq_false_iff_eq];omega
  have HLN:=hide hl;clear hl;go_enter Tryz.func72,Tryz.ntmps72;go_wp2;go_loopw [5] (fun i wr=>∃ k:Nat,k≤zss.length∧i=.int .i64 k∧Hid (zss.take k=yss.take k)∧Below w.heap.size w wr) (fun i _=>zss.length-(intOf i).toNat)
  case atStart=>exact⟨0,Nat.zero_le _,rfl,by show _=_;simp,zB _ _⟩
  case round=>
   obtain⟨k,hk,rfl,HG,hbe⟩:=hrel;have HBE:=hide hbe;clear hbe;by_cases hkl:k<zss.length
   ·have hky:k<yss.length:=by have:=HLN.out;omega
    obtain⟨ab,aoff,_,e,la,ua,a0,na⟩:=(HA.out.below HBE.out zL).at k hkl;simp only [zV,true_and] at e;obtain⟨rfl,rfl⟩:=e;obtain⟨bb,boff,_,e,lb,ub,b0,nb⟩:=(HB.out.below HBE.out zL).at k hky;simp only [zV,true_and] at e;obtain⟨rfl,rfl⟩:=e;have NA:=hide na;have NB:=hide nb;have HTS:=hide (fun e=>zkI hkl hky HG.out e);have hzk:=HZ.out _ (List.getElem_mem hkl);have HNE:Hid (zss[k]≠yss[k]→r=false):=fun h=>by
     rw [HR.out];exact decide_eq_false fun e=>h (by simp only [e])
    clear na nb;generalize zss[k]=z at *;generalize yss[k]=y at *;obtain⟨uo1,uc1,rfl,-,-⟩:=NA.out;obtain⟨uo2,uc2,rfl,-,-⟩:=NB.out;go_wp2_with fail
    go_region_held3 (fun w'=>w'.cell? ⟨ab,aoff+k,none⟩=some (.slice uo1 z.length uc1)∧w'.cell? ⟨bb,boff+k,none⟩=some (.slice uo2 y.length uc2)) (go_keep)
     (first
      |(go_at_call 79;refine(zf6 _ _ _ z y n m (by exact NA.out) (by exact NB.out) hzk _ rfl).mono ?_;rintro e w1 ⟨rfl,hb1⟩;have HB1:=hide (show Below w.heap.size w w1 from HBE.out.drew.trans (hb1.mono HBE.out.size));have p0:=(hb1.cell (p:=⟨ab,aoff+k,none⟩) la).trans a0;have p1:=(hb1.cell (p:=⟨bb,boff+k,none⟩) lb).trans b0;clear hb1))
    by_cases hz:z=y
    ·have HG':=hide (HTS.out hz);have ez:decide (z=y)=true:=decide_eq_true hz;rw [ez];clear HTS HNE hz ez p0 p1 a0 b0;go_wp2;go_roundw
     case rel=>exact⟨k+1,by omega,by go_num,HG',HB1.out⟩
     case measure=>simp [intOf];omega
    ·have ez:decide (z=y)=false:=decide_eq_false hz;rw [ez];obtain rfl:r=false:=HNE.out hz;clear HTS HNE hz ez p0 p1 a0 b0;go_wp2;go_ret;exact⟨rfl,HB1.out⟩
   ·obtain rfl:k=zss.length:=by omega
    have HE:Hid (zss=yss):=by
     have:=HG.out;rw [List.take_length,List.take_of_length_le (by have:=HLN.out;omega)] at this;exact this
    obtain rfl:r=true:=by rw [HR.out];exact decide_eq_true HE.out
    clear HG HE;go_wp2;go_ret;exact⟨rfl,HBE.out⟩
 ·obtain⟨ao,acap,rfl,-,-⟩:=ha;obtain⟨bo,bcap,rfl,-,-⟩:=hb;have hl1:((zss.length:Int) ==(yss.length:Int))=false:=by rw [beq_eq_false_iff_ne];omega
  have hl2:((zss.length:Int) !=(yss.length:Int))=true:=by rw [bne_iff_ne];omega
  obtain rfl:r=false:=by rw [HR.out];exact decide_eq_false fun e=>hl (by rw [e])
  go_enter Tryz.func72,Tryz.ntmps72;go_wp2;go_ret;exact⟨rfl,zB _ _⟩
theorem z8 (w:World)(a0 a1 b0 b1:Value)(t t':TypeId):Box ((w.alloc (.cells #[a0,a1] t)).alloc (.cells #[b0,b1] t')) w.heap.size a0 a1∧Box ((w.alloc (.cells #[a0,a1] t)).alloc (.cells #[b0,b1] t')) (w.heap.size+1) b0 b1∧Below w.heap.size w ((w.alloc (.cells #[a0,a1] t)).alloc (.cells #[b0,b1] t'))∧w.heap.size+1<((w.alloc (.cells #[a0,a1] t)).alloc (.cells #[b0,b1] t')).heap.size:=
 ⟨(zf w a0 a1 t _ rfl).later ((zB (w.heap.size+1) _).alloc (by simp) _) (by omega),zf _ b0 b1 t' _ (by simp),((zB w.heap.size w).alloc zL _).alloc (by simp) _,by simp⟩
theorem zdO (w:World)(va vb:Value)(n nv mv:Nat)(hs ks:List (List Int))(ha:LatN w va n hs nv)(hb:LatN w vb n ks mv)(hn:n≤1000):
  Calls Tryz.prog 23 #[va,vb] w fun e w'=>e=.returned (.bool (decide (hs=ks)))∧Below w.heap.size w w':=by
 obtain⟨⟨u,rfl,hu⟩,p,hF⟩:=ha;obtain⟨⟨v,rfl,hv⟩,q,hG⟩:=hb;have HU:=hide hu;have HV:=hide hv;have h1:=hF.short;have HLE:Hid (∀ zs∈hs,zs.length≤100000):=fun zs hz=>by have:=hF.len zs hz;omega
 obtain⟨uo,ucap,rfl,-,-⟩:=hu;obtain⟨vo,vcap,rfl,-,-⟩:=hv;clear hF hG;have HX:=hide (z8 w (.int .i64 (n:Int)) (.slice uo hs.length ucap) (.int .i64 (n:Int)) (.slice vo ks.length vcap) 55 55);obtain⟨⟨c0,c1,z0,z1⟩,⟨d0,d1,y0,y1⟩,-,-⟩:=HX.out;go_enter Tryz.func23,Tryz.ntmps23;go_wp2_with fail;clear c0 c1 z0 z1 d0 d1 y0 y1;generalize ((w.alloc (.cells #[.int .i64 (n:Int),.slice uo hs.length ucap] 55)).alloc (.cells #[.int .i64 (n:Int),.slice vo ks.length vcap] 55))=W0 at *;refine(zke W0 _ _ hs ks nv mv (by exact HU.out.below HX.out.2.2.1 zL) (by exact HV.out.below HX.out.2.2.1 zL) (by omega) HLE.out _ rfl).mono ?_;rintro e w1 ⟨rfl,hb1⟩;have HB1:=hide (HX.out.2.2.1.trans (hb1.mono HX.out.2.2.1.size));obtain⟨c0,c1,z0,z1⟩:=HX.out.1.later hb1 (by have:=HX.out.2.2.2;omega);obtain⟨d0,d1,y0,y1⟩:=HX.out.2.1.later hb1 HX.out.2.2.2;generalize hr:decide (hs=ks)=r at *;clear hb1 HX HU HV;have HRR:=hide hr;clear hr;go_wp2;go_ret;exact⟨by rw [HRR.out];rfl,HB1.out⟩
end Go.Proofs.YtdedolkgcdlmeaaGreatDoor
