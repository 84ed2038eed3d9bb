import Derived.Test.YtdedolkgcdlmeaaGreatDoorKerL
set_option maxRecDepth 100000
set_option maxHeartbeats 4000000
set_option linter.unusedSimpArgs false
namespace Go.Proofs.YtdedolkgcdlmeaaGreatDoor
open Go.RowKit Limbs
variable {n:Nat}{p:Nat→Nat}
theorem zgf (qs:List (Nm × Int)):(qs.flatMap ncells).length=qs.length*2:=by
 induction qs with
 | nil=>rfl
 | cons p qs ih=>rw [List.flatMap_cons,List.length_append,ih,List.length_cons];simp [ncells];omega
theorem zkJ (qs:List (Nm × Int))(u:Value)(hu:u∈qs.flatMap ncells):u.oneCell'=true:=by
 obtain⟨p,-,h⟩:=List.mem_flatMap.1 hu;simp only [ncells,List.mem_cons,List.mem_nil_iff,or_false] at h;rcases h with rfl | rfl <;> rfl
theorem VecN.rows{W:World}{P:Nat}{zs:List Int}(h:VecN W (.slice (some ⟨P,0,none⟩) zs.length zs.length) zs n):
  ∃ qs:List (Nm × Int),qs.map (·.2)=zs∧(∀ j u,(qs.flatMap ncells)[j]?=some u→W.cell? ((⟨P,0,none⟩:Addr).add j)=some u)∧∀ p∈qs,NumL W p.1.val p.2 n∧∀ {w:World},NewV w W P zs.length→NewSl w p.1.sl:=by
 have key:∀ i,i<zs.length→∃ r:Nm,W.cell? ⟨P,i*2,none⟩=some (.bool r.neg)∧W.cell? ⟨P,i*2+1,none⟩=some (.slice r.o r.l r.c)∧NumL W r.val (zs.getD i 0) n:=fun i hi=>by
  obtain⟨-,neg,o,l,c,h1,h2,h3⟩:=h.at i hi;rw [Nat.zero_add] at h1 h2;exact⟨⟨neg,o,l,c⟩,h1,h2,h3⟩
 let f:Nat→Nm:=fun i=>if hi:i<zs.length then Classical.choose (key i hi) else ⟨false,none,0,0⟩
 have hf:∀ i,i<zs.length→W.cell? ⟨P,i*2,none⟩=some (.bool (f i).neg)∧W.cell? ⟨P,i*2+1,none⟩=some (.slice (f i).o (f i).l (f i).c)∧NumL W (f i).val (zs.getD i 0) n:=fun i hi=>by
  have:=Classical.choose_spec (key i hi);simpa only [f,dif_pos hi] using this
 let qs:List (Nm × Int):=(List.range zs.length).map fun i=>(f i,zs.getD i 0)
 have hl:qs.length=zs.length:=by simp [qs]
 have hq:∀ i (hi:i<qs.length),qs[i]=(f i,zs.getD i 0):=fun i hi=>by simp [qs]
 refine⟨qs,?_,fun j u hj=>?_,fun p hp=>?_⟩
 ·apply List.ext_getElem (by rw [zM,hl]);intro i h1 h2;rw [List.getElem_map,hq i (by omega),zG,List.getElem?_eq_getElem h2];rfl
 ·have hjl:j<(qs.flatMap ncells).length:=(List.getElem?_eq_some_iff.1 hj).1;rw [zgf,hl] at hjl;have ea:(⟨P,0,none⟩:Addr).add j=⟨P,j,none⟩:=by unfold Addr.add;split <;> simp_all
  rw [ea];obtain⟨e1,e2⟩:=zge qs (j/2) (by omega);rw [hq _ (by omega)] at e1 e2;obtain⟨c1,c2,-⟩:=hf (j/2) (by omega);rcases(by omega:j=j/2*2∨j=j/2*2+1) with e | e
  ·rw [← e] at e1 c1;rw [hj] at e1;rw [c1,e1]
  ·rw [← e] at e2 c2;rw [hj] at e2;rw [c2,e2]
 ·obtain⟨i,hi,rfl⟩:=List.getElem_of_mem hp;rw [hq i hi];obtain⟨c1,c2,c3⟩:=hf i (by omega);exact⟨c3,fun hn=>hn i (by omega) _ _ _ c2⟩
theorem Tryz.infoInt9:(Tryz.prog.info? 3).map (fun i=>(i.zero,i.size,i.bytes))=some (some (.int .i64 0),1,8):=by kernel_rfl
theorem zlp (m:Nat)(hm:m≤1000)(W:World):(Instr.makeSlice 38 (.int .i64 (m:Int)) (.int .i64 (m:Int))).run Tryz.prog W=.ok (.slice (some ⟨W.heap.size,0,none⟩) m m) (W.alloc (.cells (madeCells #[.int .i64 0] m) 3)):=by
 obtain⟨i0,hi,hz0,hz1,hz2⟩:=info_parts Tryz.infoInt9;have h:=run_make (P:=Tryz.prog) W 38 3 i0 (.int .i64 0) Tryz.underlying38 hi hz0 .i64 .i64 m m (by omega) (by omega) (by rw [hz2];omega) (by omega);rw [hz1,Int.toNat_natCast,Nat.mul_one] at h;exact h
theorem zmp (n k:Nat)(hk:k<n)(j:Nat)(hj:j<n):((madeCells #[.int .i64 0] n).setIfInBounds k (.int .i64 1))[j]?=some (.int .i64 ((unitL n k).getD j 0)):=by
 rw [zcq n k j hj];by_cases e:j=k
 ·subst e;rw [if_pos rfl,Array.getElem?_setIfInBounds_self_of_lt (by simp [madeCells,hk])]
 ·rw [if_neg e,Array.getElem?_setIfInBounds_ne (by omega)];simp [madeCells,hj,Nat.mod_one]
theorem zmi (w:World)(va:Value)(n nv:Nat)(hs:List (List Int))(ha:MatN w va hs nv)(hl:∀ r∈hs,r.length=n)(hn1:1≤n)(hn:n≤100)(hm:hs.length≤100)(h2:2≤nv):
  Calls Tryz.prog 112 #[va,.int .i64 (n:Int)] w fun e w'=>∃ u,e=.returned u∧MatN w' u (tracedL hs n) nv∧Below w.heap.size w w':=by
 obtain⟨i0,hi,hz0,hz1,hz2⟩:=info_parts Tryz.infoNum;have HT:=hide (zes w va n nv hs ha hl hn hm);obtain⟨ao,acap,rfl,-,-⟩:=ha;clear hl;have hmk:=zlp n (by omega);go_enter Tryz.func112,Tryz.ntmps112;go_wp2_with fail;refine HT.out.mono ?_;rintro e w1 ⟨O,vs,ps,rfl,ho,hp⟩;have HO0:=hide ho;have HP0:Hid (∀ i,i<n→(ps i).map (·.2)=if i<0 then colL hs i++unitL n i else colL hs i):=fun i hi=>by rw [if_neg (Nat.not_lt_zero i)];exact hp i hi
 clear ho hp HT;go_wp2;go_loopw [12] (fun x wr=>∃(k:Nat) (vs:Nat→Value) (ps:Nat→List (Nm × Int)),k≤n∧x=.int .i64 k∧Hid (OutG w wr O n vs ps nv)∧Hid (∀ i,i<n→(ps i).map (·.2)=if i<k then colL hs i++unitL n i else colL hs i)) (fun x _=>n-(intOf x).toNat)
 case atStart=>exact⟨0,_,_,Nat.zero_le _,rfl,HO0,HP0⟩
 case round=>
  clear HO0 HP0 vs ps;obtain⟨k,vs,ps,hk,rfl,HOr,HD⟩:=hrel;by_cases hkl:k<n
  ·have hbu:Below wr.heap.size wr (wr.alloc (.cells ((madeCells #[.int .i64 0] n).setIfInBounds k (.int .i64 1)) 3)):=(zB _ _).alloc zL _;have hun:k<(madeCells #[Value.int .i64 0] n).size:=by simp [madeCells,hkl]
   have HO:=hide (HOr.out.later hbu);have HUS0:Hid (RowS (wr.alloc (.cells ((madeCells #[.int .i64 0] n).setIfInBounds k (.int .i64 1)) 3)) (.slice (some ⟨wr.heap.size,0,none⟩) n n) (unitL n k)):=by
    refine⟨_,_,by rw [zaC],by rw [zaC];exact Nat.le_refl _,fun i=>?_,fun _=>⟨_,_,rfl,by simp,fun i hi=>?_⟩⟩
    ·by_cases h:i<n
     ·rw [zcq n k i h];split <;> decide
     ·rw [zG,List.getElem?_eq_none (by rw [zaC];omega)];decide
    ·rw [zaC] at hi;rw [Nat.zero_add,World.cell?_alloc_new];exact zmp n k hkl i hi
   clear hbu HOr;go_wp2_with fail;generalize hWX:wr.alloc (.cells ((madeCells #[.int .i64 0] n).setIfInBounds k (.int .i64 1)) 3)=wx at *;have HUS:=hide (HUS0.out.below (zB wx.heap.size wx).drew zL);clear hWX HUS0;have c5:=HO.out.cell k hkl;obtain⟨vo,vl,vc,hvk⟩:∃ vo vl vc,vs k=.slice vo vl vc:=by
    rcases(HO.out.grow k hkl).1.2 with⟨e1,-⟩ |⟨g',cap',cur,e1,-⟩
    ·exact⟨_,_,_,e1⟩
    ·exact⟨_,_,_,e1⟩
   rw [hvk] at c5;have hOlt:=HO.out.lt;have HVK:=hide hvk;have HPL:Hid ((ps k).length=hs.length):=by
    have h1:=congrArg List.length (HD.out k hkl);rw [if_neg (Nat.lt_irrefl _)] at h1;unfold colL at h1;rw [zM,zM] at h1;exact h1
   have HON:=hide (HO.out.own_ne hkl);clear hvk hun;refine zr (S:=(fun w'=>w'.cell? ⟨O,k,none⟩=some (.slice vo vl vc))) (k:=10) (by kernel_rfl) (by exact c5) (fun hHeld=>?_);refine zc 0 20 [10] ?_;try simp only [zA]
   refine zc 1 21 [10] ?_;try simp only [zA]
   refine zc 2 22 [10] ?_;try simp only [zA]
   refine zc 3 23 [10] ?_;try simp only [zA]
   refine zc 4 24 [10] ?_;try simp only [zA]
   refine zc 5 25 [10] ?_;try simp only [zA]
   refine zc 6 26 [10] ?_;try simp only [zA]
   refine zf 7 (by kernel_rfl) rfl (fun K hK=>?_);go_simp;refine(zkP _ _ (unitL n k) (by exact HUS.out) (by rw [zaC];omega)).mono ?_;rintro e w2 ⟨P,rfl,hv2,hn2⟩;have HV2:=hide hv2;have HN2:=hide hn2;have hb2:Below wx.heap.size wx w2:=((zB _ _).drew).trans hv2.below;have HOA:=hide (HO.out.later hb2);have d5:=(hb2.cell (p:=⟨O,k,none⟩) hOlt).trans c5;have hus:=HO.out.low.size;have hx2:=hb2.size;rw [zaC] at *;clear hv2 hn2 hb2;go_wp2_with fail;refine hK.out _ _ (fun _=>d5) ?_;clear hK K;try simp only [zA]
   obtain⟨qs,hqz,hqc,hqn⟩:=HV2.out.vec.rows;have HQC:=hide hqc;have HQN:=hide hqn;have HQZ:=hide hqz;have hql:qs.length=n:=by have:=congrArg List.length hqz;rw [zM,zaC] at this;exact this
   clear hqc hqn hqz;refine zf 8 (by kernel_rfl) rfl (fun K hK=>?_);refine step_append_lies _ rfl (.tmp 25) (.tmp 27) 72 rfl w.heap.size 29 i0 (.agg #[.bool false,.slice none 0 0]) 2 32 (by kernel_rfl) hi hz0 hz1 hz2 rfl (by decide) (.slice vo vl vc) (ps k).length ((ps k).flatMap ncells) rfl (by have:=(HOA.out.grow k hkl).1;rw [HVK.out] at this;exact this) ⟨P,0,none⟩ n n (qs.flatMap ncells) rfl (by rw [zgf,hql]) HQC.out (fun u hu=>zkJ qs u hu) (by omega) (by unfold maxLen;have:=HPL.out;omega) (by have:=HPL.out;omega) (by omega) w2.heap.size (by first | rfl | simp) ?_;intro g5 cap5 w5 hown5 hgrow5 hat5 hlt5;have HO5:=hide hown5;have HG5:=hide hgrow5;have HA5:=hide hat5;clear hown5 hgrow5 hat5 hlt5;have e5:=HG5.out.cell d5 (by rw [← HVK.out];exact HON.out);refine hK.out _ _ (fun _=>e5) ?_;clear hK K;try simp only [zA]
   have hHeld5:(fun w'=>w'.cell? ⟨O,k,none⟩=some (.slice vo vl vc)) w5:=e5;clear hHeld;refine zc 9 29 [10] ?_;try simp only [zA]
   have HP:=hide (HOA.out.push hkl qs (fun p hp=>(HQN.out p hp).1.mono h2) (fun i hi p hp a l c e h0 hb=>by
    have h1:=(HQN.out p hp).2 (by rw [zaC];exact HN2.out) a l c e;have h2:=zcZ (HO.out.grow i hi) hb.symm;have h3:wx.heap.size≤a.block:=h1;omega) (L:=(ps k).length+n) (by rw [hql]) HO5.out (by rw [HVK.out];exact HG5.out) (by rw [HVK.out];exact HA5.out.imp id fun h=>by rw [h];exact Nat.le_refl _))
   have ef:w5.frozen? ⟨O,k,none⟩=false:=by
    have h1:=HOA.out.thaw k;rw [World.frozen?_of_block (a:=⟨O,k,none⟩) (HG5.out.block O HOA.out.lt (by rw [← HVK.out];exact HON.out))];exact h1
   refine zf 10 (by kernel_rfl) rfl (fun K hK=>?_);go_simp;refine hK.out _ _ (fun h=>absurd h (by decide)) ?_;clear hK K;try simp only [zA]
   refine zp (by kernel_rfl) ?_;have HD':Hid (∀ i,i<n→(updN ps k (ps k++qs) i).map (·.2)=if i<k+1 then colL hs i++unitL n i else colL hs i):=fun i hi=>by
    by_cases e:i=k
    ·rw [e,zaL,List.map_append,HD.out k hkl,if_neg (Nat.lt_irrefl _),HQZ.out,if_pos (by omega)]
    ·rw [zar _ _ _ e,HD.out i hi];by_cases h:i<k
     ·rw [if_pos h,if_pos (by omega)]
     ·rw [if_neg h,if_neg (by omega)]
   clear c5 d5 e5 ef HO5 HG5 HA5 HOA HO HD hHeld5 HV2 HN2 HQC HQN HQZ HUS;go_wp2;go_roundw
   case rel=>exact⟨k+1,_,_,by omega,by go_num,HP,HD'⟩
   case measure=>simp [intOf];omega
  ·obtain rfl:k=n:=by omega
   have HF:=hide (HOr.out.mat (tracedL hs k) (zaX hs k) (fun i hi=>by rw [HD.out i hi,if_pos hi,zco hs k i hi];rfl));have HB:=hide HOr.out.low;clear HOr HD;go_wp2;go_ret;exact⟨_,rfl,HF.out,HB.out⟩
theorem zkL (w:World)(va:Value)(f n nv:Nat)(ts:List (List Int))(ha:MatN w va ts nv)(hl:∀ r∈ts,r.length=f+n)(h1:1≤n)(h4:f+n≤100)(hm:ts.length≤100):
  Calls Tryz.prog 111 #[va,.int .i64 (f:Int)] w fun e w'=>∃ u,e=.returned u∧MatN w' u (behindL f ts) nv∧Below w.heap.size w w':=by
 obtain⟨j0,hj,hy0,hy1,hy2⟩:=info_parts Tryz.infoVec;have HA:=hide ha;have HL:=hide hl;obtain⟨ao,acap,rfl,-,-⟩:=ha;clear hl;go_enter Tryz.func111,Tryz.ntmps111;go_wp2;go_loopw [5,9] (fun out i wr=>∃(k:Nat) (qs:List (Value × List Int)),k≤ts.length∧i=.int .i64 k∧Hid (GrowV wr w.heap.size out qs nv)∧Hid (qs.map (·.2)=behindL f (ts.take k))∧Hid (Below w.heap.size w wr)) (fun _ i _=>ts.length-(intOf i).toNat)
 case atStart=>exact⟨0,[],Nat.zero_le _,rfl,hide (GrowV.nil _ _ _),hide (by simp [behindL]),hide (zB _ _)⟩
 case round=>
  obtain⟨k,qs,hk,rfl,HGV,HQ,HBE⟩:=hrel;have HQL:Hid (qs.length≤100):=by
   have h1:=congrArg List.length HQ.out;have h2:=zeV f ts k;rw [zM] at h1;show qs.length≤100;omega
  by_cases hkl:k<ts.length
  ·obtain⟨rb,roff,_,e,lr,ru,cu,hru⟩:=HA.out.at k hkl;simp only [zV,true_and] at e;obtain⟨rfl,rfl⟩:=e;have HLU:Hid (ts[k].length=f+n):=HL.out _ (List.getElem_mem hkl);have HSU:=hide (zeW f ts k hkl);generalize ts[k]=us at *;obtain⟨vb,voff,vcap,rfl⟩:=hru.form (by have:=HLU.out;omega);have hcap:f+n≤vcap:=by
    obtain⟨_,_,e,h1,-⟩:=hru;simp only [zV,true_and] at e;have:=HLU.out;omega
   have HU:=hide (hru.below HBE.out zL);have HD:=hide (HU.out.drop (n:=f) (m:=n) HLU.out.symm (by omega));rw [HLU.out] at cu;have c1:=(HBE.out.cell (p:=⟨rb,roff+k,none⟩) lr).trans cu;clear hru cu;go_wp2_with fail;refine(zaR wr _ us nv (by have:=HU.out;rw [HLU.out] at this;exact this) (by have:=HLU.out;omega)).mono ?_;rintro e w1 ⟨rfl,hb1⟩;have HB1:=hide (HBE.out.trans (hb1.mono HBE.out.size));have HG1:=hide (HGV.out.later hb1);have HD1:=hide (HD.out.below hb1 zL);have c2:=(hb1.cell (p:=⟨rb,roff+k,none⟩) (zT lr HBE.out.size)).trans c1;clear hb1 HGV HD HU c1;by_cases hf:(f:Int)≤first us
   ·have g1:decide ((f:Int)≤first us)=true:=decide_eq_true hf;have HQ':Hid ((qs++[((.slice (some ⟨vb,voff+f*2,none⟩) n (vcap-f):Value),us.drop f)]).map (·.2)=behindL f (ts.take (k+1))):=by
     show _=_;rw [List.map_append,HQ.out,HSU.out,if_pos hf];rfl
    have hown:=HG1.out.own;have hall:=HG1.out.all.later ((zB _ _).alloc zL (.cells #[.slice (some ⟨vb,voff+f*2,none⟩) n (vcap-f)] 72));have hbs:=HB1.out.size;have g2:¬(f:Int)<0:=by omega
    clear hf;go_wp2_with (at_builtin;refine zey rfl _ _ 23 rfl w.heap.size 72 j0 24 (by kernel_rfl) hj hy0 hy1 hy2 u5 qs.length (qs.map (·.1)) rfl (hown.alloc _) hall ⟨w1.heap.size,0,none⟩ 1 (some ⟨vb,voff+f*2,none⟩) n (vcap-f) rfl (World.news_of_block (heap_alloc_new w1 _)) (by unfold maxLen;have:=HQL.out;omega) (by have:=HQL.out;omega) (by simp;omega) ?_);intro g cap' w5 hown5 hgrow5 hall5;have HG5:=hide (zdO (HG1.out.later ((zB _ _).alloc zL _)) (HD1.out.below ((zB _ _).alloc zL _) zL) hown5 hgrow5 hall5);have HB5:=hide ((HB1.out.alloc HB1.out.size _).trans (zdP (HG1.out.later ((zB _ _).alloc zL _)) (by simp;omega) hgrow5));clear hown hall hown5 hgrow5 hall5 HG1 HD1 HB1 c2;go_wp2;go_roundw
    case rel=>exact⟨k+1,_,by omega,by go_num,HG5,HQ',HB5⟩
    case measure=>simp [intOf];omega
   ·have g1:decide ((f:Int)≤first us)=false:=decide_eq_false hf;have HQ':Hid (qs.map (·.2)=behindL f (ts.take (k+1))):=by
     show _=_;rw [HQ.out,HSU.out,if_neg hf,List.append_nil]
    clear hf;go_wp2;go_roundw
    case rel=>exact⟨k+1,_,by omega,by go_num,HG1,HQ',HB1⟩
    case measure=>simp [intOf];omega
  ·obtain rfl:k=ts.length:=by omega
   have HF:Hid (MatN wr u5 (behindL f ts) nv):=by
    have:=HGV.out.mat;rw [HQ.out,List.take_length] at this;exact this
   clear HGV HQ;go_wp2;go_ret;exact⟨_,rfl,HF.out,HBE.out⟩
def RoomF (n nv:Nat):Prop:=nbK n (n*nv+2) nv n≤100000∧∀ h,h≤n→nbK (h+n) (n*nv+2) nv (h+n)≤100000
def KerFPost (w:World)(n nv:Nat)(ms:List (List Int))(e:Ending)(w':World):Prop:=
 ∃ u us q,e=.returned (.tuple #[u,.nilIface])∧MatN w' u (behindL ms.length us) (n*nv+2)∧FormL (ms.length+n) us q∧Alikes (ms.length+n) (InL us) (InL (tracedL ms n))∧us.length≤100∧Below w.heap.size w w'
theorem zfM (w:World)(v:Value)(ms:List (List Int))(n nv:Nat)(hv:MatN w v ms nv)(F:FormL n ms p)(hn1:1≤n)(hn:n≤8)(h2v:2≤nv)(hR:RoomF n nv):
  Calls Tryz.prog 76 #[v,.int .i64 (n:Int)] w fun e w'=>KerFPost w n nv ms e w':=by
 have hm:=F.short;have HC:=hide (zcE w v ms n nv hv hn1 hn (by omega) F.len);have HV:=hide hv;have HF:=hide F;obtain⟨ao,cap,rfl,-,-⟩:=hv;clear F;obtain⟨hb1,hb2⟩:=hR;have HB1:=hide hb1;have HB2:=hide hb2;clear hb1 hb2;go_enter Tryz.func76,Tryz.ntmps76;go_wp2_with fail;refine HC.out.mono ?_;rintro e w1 ⟨rfl,hbe1⟩;have HE1:=hide hbe1;clear hbe1 HC;go_wp2_with fail;refine(zkS w1 _ ms n nv (HV.out.below HE1.out zL) HF.out.len hn1 (by omega) (by omega) HB1.out).mono ?_;rintro e w2 ⟨u2,hs,p2,rfl,h1,h2,h3,h4,h5⟩;obtain rfl:hs=ms:=zcN h4 HF.out h5;have HH:=hide (h1.tight HV.out.abs);have HE2:=hide (HE1.out.trans (h3.mono HE1.out.size));obtain⟨ho,hcap,rfl,-,-⟩:=h1;clear h3 h4 h5 HE1;go_wp2_with fail;refine(zmi w2 _ n nv hs HH.out HF.out.len hn1 (by omega) (by omega) h2v).mono ?_;rintro e w3 ⟨u3,rfl,h6,h7⟩;have HT:=hide h6;have HE3:=hide (HE2.out.trans (h7.mono HE2.out.size));clear h6 h7 HE2;go_wp2_with fail;rw [show((hs.length:Int)+(n:Int))=((hs.length+n:Nat):Int) by omega];refine(zgo w3 _ (tracedL hs n) (hs.length+n) nv n (.inr (by rw [zaX];exact Nat.le_refl _)) (by omega) HT.out (zeq hs n) (by omega) (by omega) (by rw [zaX];omega) (HB2.out hs.length h2)).mono ?_;rintro e w4 ⟨u4,us,q,rfl,g1,g2,g3,g4,g5,-⟩;have HU:=hide g1;have HG:=hide g4;have HGA:=hide g5;have HE4:=hide (HE3.out.trans (g3.mono HE3.out.size));clear g1 g3 g4 g5 HE3 HT HH;go_wp2_with fail;refine(zkL w4 _ hs.length n (n*nv+2) us HU.out HG.out.len hn1 (by omega) (by omega)).mono ?_;rintro e w5 ⟨u5',rfl,k1,k2⟩;have HK:=hide k1;have HE5:=hide (HE4.out.trans (k2.mono HE4.out.size));clear k1 k2 HE4 HU;have hul:us.length≤100:=by omega
 clear g2 h2;go_wp2;go_ret2;exact⟨_,us,q,rfl,HK.out,HG.out,HGA.out,hul,HE5.out⟩
def ent (ts:List (List Int))(k b:Nat):Int:=(ts.getD k []).getD b 0
theorem zhk (c m:Nat)(f:Nat→Int)(h:∀ k,c≤k→k<c+m→f k=0):sumN (c+m) f=sumN c f:=by
 induction m with
 | zero=>rfl
 | succ m ih=>
  have e:sumN (c+(m+1)) f=sumN (c+m) f+f (c+m):=rfl;rw [e,ih fun k h1 h2=>h k h1 (by omega),h (c+m) (by omega) (by omega),Int.add_zero]
theorem zdG{hs ks:List (List Int)}(F:FormL n hs p)(a:Alikes n (InL hs) (InL ks)):hs.length≤ks.length:=by
 obtain⟨C,hC⟩:=zQ (r:=hs.length) (n:=n) (mm:=ks.length) (H:=ent hs) (M:=ent ks) fun k hk=>by
  have hm:hs[k]∈hs:=List.getElem_mem hk;have g:=zx ((a hs[k]).1 (.base hm (F.len _ hm)));have e:ent hs k=fun b=>hs[k].getD b 0:=by funext b;unfold ent;rw [zm hk]
  rw [e];exact g
 exact zaV hs.length ks.length n (ent hs) (ent ks) C p F.form.lt (fun i k hi hki=>F.form.zero i (p k) hi (F.form.inc k i hki hi)) (fun i hi=>F.form.pos i hi) hC
section
variable {hs ts:List (List Int)}{n:Nat}{ph p:Nat→Nat}
theorem zhr (hs:List (List Int))(n j:Nat)(hj:j<n):Gens (hs.length+n) (InL (tracedL hs n)) ((tracedL hs n).getD j []):=
 .base (zq (by rw [zaX];exact hj)) (zeq hs n _ (zq (by rw [zaX];exact hj)))
theorem zml (hs:List (List Int))(n j b:Nat)(hj:j<n)(hb:b<hs.length):ent (tracedL hs n) j b=ent hs b j:=by
 unfold ent;rw [zco hs n j hj,zbZ _ _ _ (by rw [zM];exact hb),zaq _ _ _ hb]
theorem zhs (hs:List (List Int))(n j b:Nat)(hj:j<n)(hb:b<n):ent (tracedL hs n) j (hs.length+b)=if b=j then 1 else 0:=by
 unfold ent;have g:=zb8 (hs.map fun r=>r.getD j 0) (unitL n j) b;rw [zM] at g;rw [zco hs n j hj,g,zcq n j b hb]
theorem zmj (F:FormL (hs.length+n) ts p)(a:Alikes (hs.length+n) (InL ts) (InL (tracedL hs n))):ts.length=n:=by
 have h1:=zdG F a;rw [zaX] at h1;obtain⟨C,hC⟩:=zQ (r:=n) (n:=hs.length+n) (mm:=ts.length) (H:=ent (tracedL hs n)) (M:=ent ts) fun k hk=>zx ((a _).2 (zhr hs n k hk));have h2:=zaV n ts.length (hs.length+n) (ent (tracedL hs n)) (ent ts) C (fun k=>hs.length+k) (fun k hk=>by omega)
  (fun i k hi hki=>by rw [zhs hs n i k hi (by omega),if_neg (by omega)]) (fun i hi=>by rw [zhs hs n i i hi hi,if_pos rfl];exact Int.le_refl 1) hC
 omega
theorem zhL (G:FormL n hs ph)(F:FormL (hs.length+n) ts p)(a:Alikes (hs.length+n) (InL ts) (InL (tracedL hs n))){c:Nat}(hc:c≤ts.length)(h1:∀ k,k<c→p k<hs.length)(h2:∀ k,c≤k→k<ts.length→hs.length≤p k):c=hs.length:=by
 have hle:∀ k,k<c→k≤p k:=fun k=>by
  induction k with
  | zero=>exact fun _=>Nat.zero_le _
  | succ k ih=>intro hk;have:=ih (by omega);have:=F.form.inc k (k+1) (by omega) (by omega);omega
 have hc1:c≤hs.length:=by
  by_cases h0:c=0
  ·omega
  ·have:=hle (c-1) (by omega);have:=h1 (c-1) (by omega);omega
 obtain⟨C,hC⟩:=zQ (r:=hs.length) (n:=hs.length) (mm:=c) (H:=fun i b=>ent hs b (ph (hs.length-1-i))) (M:=ent ts) fun i hi=>by
  have hj:ph (hs.length-1-i)<n:=G.form.lt _ (by omega);obtain⟨d,hd⟩:=zx ((a _).2 (zhr hs n _ hj));refine⟨d,fun b hb=>?_⟩;have e1:ent (tracedL hs n) (ph (hs.length-1-i)) b=sumN ts.length (fun k=>d k*ent ts k b):=hd b (by omega);rw [zml hs n _ b hj hb] at e1;show ent hs b (ph (hs.length-1-i))=_;rw [e1,show ts.length=c+(ts.length-c) by omega];refine zhk c _ _ fun k hk1 hk2=>?_;have h3:=h2 k hk1 (by omega);have e0:ent ts k b=0:=F.form.zero k b (by omega) (by omega);rw [e0,Int.mul_zero]
 have:=zaV hs.length c hs.length (fun i b=>ent hs b (ph (hs.length-1-i))) (ent ts) C (fun k=>hs.length-1-k) (fun k hk=>by omega)
  (fun i k hi hki=>G.form.zero (hs.length-1-k) (ph (hs.length-1-i)) (by omega) (G.form.inc _ _ (by omega) (by omega)))
  (fun i hi=>G.form.pos (hs.length-1-i) (by omega)) hC
 omega
theorem zhZ (F:FormL (hs.length+n) ts p):∃ c,c≤ts.length∧(∀ k,k<c→p k<hs.length)∧(∀ k,c≤k→k<ts.length→hs.length≤p k)∧behindL hs.length ts=(ts.drop c).map (·.drop hs.length):=by
 obtain⟨c,h0,h1,h2,e⟩:=zdE (n:=hs.length) F;exact⟨c,h0,h1,h2,by unfold behindL;rw [e]⟩
theorem zfL (G:FormL n hs ph)(F:FormL (hs.length+n) ts p)(a:Alikes (hs.length+n) (InL ts) (InL (tracedL hs n))):(behindL hs.length ts).length+hs.length=n:=by
 obtain⟨c,h0,h1,h2,e⟩:=zhZ F;have hc:=zhL G F a h0 h1 h2;have ht:=zmj F a;rw [e,zM,List.length_drop];omega
end
def colsL (ks:List (List Int))(n:Nat):List (List Int):=(List.range n).map fun j=>ks.map fun r=>r.getD j 0
theorem zad (ks:List (List Int))(n:Nat):(colsL ks n).length=n:=by simp [colsL]
theorem zbs (ks:List (List Int))(n:Nat):∀ r∈colsL ks n,r.length=ks.length:=fun r hr=>by
 obtain⟨j,-,rfl⟩:=List.mem_map.1 hr;rw [zM]
theorem zbr (ks:List (List Int))(n j:Nat)(hj:j<n):(colsL ks n).getD j []=ks.map fun r=>r.getD j 0:=by
 rw [zm (by rw [zad];exact hj)];simp [colsL]
structure KerOf (n:Nat)(ms ks:List (List Int)):Prop where
 form:∃ q,FormL n ks q
 all:∀ v:List Int,v.length=n→(Gens n (InL ks) v↔∀ r∈ms,dotL n r v=0)
theorem kerOf{ms us:List (List Int)}{q:Nat→Nat}(F:FormL (ms.length+n) us q)(a:Alikes (ms.length+n) (InL us) (InL (tracedL ms n))):KerOf n ms (behindL ms.length us):=
 ⟨zcz F,fun _ hv=>zjZ F a hv⟩
def FillPost (w:World)(n nv:Nat)(hs:List (List Int))(e:Ending)(w':World):Prop:=
 ∃ v ms fs,e=.returned (.tuple #[v,.nilIface])∧LatN w' v n fs (n *(n*nv+2)+2)∧KerOf n hs ms∧KerOf n ms fs∧fs.length=hs.length∧Below w.heap.size w w'
theorem zjf (w:World)(va:Value)(n nv:Nat)(hs:List (List Int))(ha:LatN w va n hs nv)(h1:1≤n)(h4:n≤4)(h2v:2≤nv)(hR1:RoomF n nv)(hR2:RoomF n (n*nv+2)):
  Calls Tryz.prog 27 #[va] w fun e w'=>FillPost w n nv hs e w':=by
 have HA:=hide ha;have HR1:=hide hR1;have HR2:=hide hR2;obtain⟨⟨u,rfl,hu⟩,p,hF⟩:=ha;have HU:=hide hu;have HF:=hide hF;obtain⟨uo,ucap,rfl,-,-⟩:=hu;clear hF hR1 hR2;have HX:=hide (zJ w (.int .i64 (n:Int)) (.slice uo hs.length ucap) (.int .i64 0) (.slice none 0 0) 55 55);obtain⟨c0,c1,z0,z1⟩:=HX.out.1;obtain⟨d0,d1,y0,y1⟩:=HX.out.2.1;go_enter Tryz.func27,Tryz.ntmps27;go_wp2_with fail;clear c0 c1 z0 z1 d0 d1 y0 y1;generalize ((w.alloc (.cells #[.int .i64 (n:Int),.slice uo hs.length ucap] 55)).alloc (.cells #[.int .i64 0,.slice none 0 0] 55))=W0 at *;refine(zcC W0 _ n nv hs (by exact HA.out.below HX.out.2.2.1) h1 h4).mono ?_;rintro e w1 ⟨rfl,hb1⟩;have HB1:=hide (HX.out.2.2.1.trans (hb1.mono HX.out.2.2.1.size));have HC1:=hide (HX.out.1.later hb1 (by have:=HX.out.2.2.2;omega));have HD1:=hide (HX.out.2.1.later hb1 HX.out.2.2.2);have HS1:=hide (zT HX.out.2.2.2 hb1.size);clear hb1 HX;obtain⟨c0,c1,z0,z1⟩:=HC1.out;go_wp2_with fail;refine(zfM w1 _ hs n nv (by exact HU.out.below HB1.out zL) HF.out h1 (by omega) h2v HR1.out).mono ?_;rintro e w2 ⟨um,us,q,rfl,a1,a2,a3,-,a4⟩;have HK1:=hide (kerOf a2 a3);have HN1:=hide (zfL HF.out a2 a3);obtain⟨qm,am⟩:=zcz a2;have HFM:=hide am;have HM:=hide a1;have HB2:=hide (HB1.out.trans (a4.mono HB1.out.size));have HC2:=hide (HC1.out.later a4 (by have:=HS1.out;omega));have HD2:=hide (HD1.out.later a4 HS1.out);have HS2:=hide (zT HS1.out a4.size);generalize behindL hs.length us=ms at *;obtain⟨mo,mcap,rfl,-,-⟩:=a1;clear a2 a3 a4 am c0 c1 z0 z1 HC1 HD1 HS1 HB1;obtain⟨c0,c1,z0,z1⟩:=HC2.out;go_wp2_with fail;refine(zfM w2 _ ms n (n*nv+2) (by exact HM.out) HFM.out h1 (by omega) (by omega) HR2.out).mono ?_;rintro e w3 ⟨uf,us2,q2,rfl,a1,a2,a3,-,a4⟩;have HK2:=hide (kerOf a2 a3);have HN2:=hide (zfL HFM.out a2 a3);obtain⟨qf,af⟩:=zcz a2;have HB3:=hide (HB2.out.trans (a4.mono HB2.out.size));have HC3:=hide (HC2.out.later a4 (by have:=HS2.out;omega));obtain⟨d0,d1,y0,y1⟩:=HD2.out.later a4 HS2.out;generalize behindL ms.length us2=fs at *;have hpos:∀ us∈fs,0<us.length:=fun us hz=>by rw [af.len us hz];omega
 have HP:Hid (FillPost w n nv hs (.returned (.tuple #[.agg #[.int .i64 (n:Int),uf],.nilIface])) ((w3.setCell ⟨w.heap.size+1,0,none⟩ (.int .i64 (n:Int))).setCell ⟨w.heap.size+1,1,none⟩ uf)):=⟨_,ms,fs,rfl,⟨⟨uf,rfl,a1.setBasis _ _ hpos d0 d1⟩,qf,af⟩,HK1.out,HK2.out,by have h1:=HN1.out;have h2:=HN2.out;omega,(HB3.out.setCell (by simp) _).setCell (by simp) _⟩;obtain⟨fo,fcap,rfl,-,-⟩:=a1;clear a2 a3 a4 af hpos c0 c1 z0 z1;obtain⟨c0,c1,z0,z1⟩:=HC3.out;clear HC2 HD2 HS2 HB2 HB3 HM HFM;go_wp2;exact bodyPost_ret (v:=.tuple #[.agg #[.int .i64 (n:Int),.slice fo fs.length fcap],.nilIface]) (by simp [results,Tryz.results27,go_sem,d0,d1]) rfl HP.out
end Go.Proofs.YtdedolkgcdlmeaaGreatDoor
