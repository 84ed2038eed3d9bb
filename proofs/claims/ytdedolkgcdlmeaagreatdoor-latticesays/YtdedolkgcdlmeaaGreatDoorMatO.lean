import Derived.Test.YtdedolkgcdlmeaaGreatDoorHermQ
import Derived.Lib.AppendZerosOnto
set_option maxRecDepth 100000
set_option maxHeartbeats 3200000
set_option linter.unusedSimpArgs false
namespace Go.Proofs.YtdedolkgcdlmeaaGreatDoor
open Go.RowKit Limbs Digs
variable{zs:List Int}{k cap n f m:Nat}{W:World}{p:Nat→Nat}
theorem ze4 (w:World)(v:Value)(ms:List (List Int))(n a0:Nat)(hv:MatR w v ms a0)(hr:∀ us∈ms,us.length=n)(hn1:1≤n)(hn:n≤20)(hm:ms.length≤100)(hB:dT a0 (ms.length+min ms.length n+1)≤1000000000):
  Calls Tryz.prog 33 #[v,.int .i64 (n:Int)] w (fun e w'=>∃ u hs p,e=.returned u∧MatR w' u hs (eB (dT a0 (ms.length+min ms.length n)+7) n)∧hs.length≤n∧FormL n hs p∧Alikes n (InL hs) (InL ms)∧Below w.heap.size w w'):=
 (ze3 w v ms n a0 hv.toQ hr hn1 hn hm hB).mono fun _ _ ⟨u,hs,p,h1,h2,h3⟩=>⟨u,hs,p,h1,h2.toR,h3⟩
theorem zbR (w:World)(v:Value)(ms:List (List Int))(n a0:Nat)(hv:MatR w v ms a0)(hr:∀ us∈ms,us.length=n)(hn1:1≤n)(hn:n≤16)(hm:ms.length≤100)(hB:dT a0 (ms.length+n+1)≤1000000000):
  Calls Tryz.prog 33 #[v,.int .i64 (n:Int)] w (fun e w'=>∃ u hs p,e=.returned u∧MatR w' u hs (eB (dT a0 (ms.length+n)+7) n)∧hs.length≤n∧FormL n hs p∧Alikes n (InL hs) (InL ms)∧Below w.heap.size w w'):=
 (ze4 w v ms n a0 hv hr hn1 (by omega) hm (Nat.le_trans (zt (by omega)) hB)).mono fun _ _ ⟨u,hs,p,h1,h2,h3⟩=>⟨u,hs,p,h1,h2.mono (zcs (Nat.add_le_add_right (zt (by omega)) 7)),h3⟩
theorem RowR.dropQ{b:Nat}(h:RowR W (.slice (some ⟨b,0,none⟩) zs.length cap) zs n)(hf:f+m=zs.length)(hm:0<m):RowQ False W (.slice (some ⟨b,f*2,none⟩) m (cap-f)) (zs.drop f) n:=by
 obtain⟨ao,cap',e,h1,h2⟩:=h;simp only [zV,true_and] at e;obtain⟨rfl,rfl⟩:=e;obtain⟨b',cur,fz,e,hh,hc⟩:=h2 (by omega);simp only [Option.some.injEq,Addr.mk.injEq,and_true] at e;subst e;have hl:(zs.drop f).length=m:=by rw [List.length_drop];omega
 refine⟨_,_,by rw [hl],⟨by rw [hl];omega,fun h=>h.elim⟩,fun _=>⟨b,f*2,cur,fz,rfl,hh,fun i hi=>?_⟩⟩;rw [hl] at hi;obtain⟨s,o,l,c,h3,h4,h5⟩:=hc (f+i) (by omega);exact⟨s,o,l,c,by rw [show f*2+i*2=(f+i)*2 by omega];exact h3,by rw [show f*2+i*2+1=(f+i)*2+1 by omega];exact h4,by rw [zbk];exact h5⟩
def noughtTo (zs:List Int)(k:Nat):Bool:=decide (∀ j,j<k→zs.getD j 0=0)
theorem zjy (zs:List Int):noughtTo zs 0=true:=decide_eq_true fun j hj=>absurd hj (Nat.not_lt_zero j)
theorem zjx(h:noughtTo zs k=true)(hz:zs.getD k 0=0):noughtTo zs (k+1)=true:=decide_eq_true fun j hj=>by
 by_cases e:j=k
 ·rw [e];exact hz
 ·exact of_decide_eq_true h j (by omega)
theorem zjv(hz:zs.getD k 0≠0):noughtTo zs (k+1)=false:=decide_eq_false fun h=>hz (h k (by omega))
theorem zjw(h:noughtTo zs k=false):noughtTo zs (k+1)=false:=decide_eq_false fun h'=>of_decide_eq_false h fun j hj=>h' j (by omega)
theorem zju{ts:List (List Int)}(F:FormL m ts p)(hk:k<ts.length):noughtTo ts[k] f=decide ((f:Int)≤first ts[k]):=by
 obtain⟨h1,h2,h3⟩:=F.first hk;rw [h1];by_cases h:f≤p k
 ·rw [decide_eq_true (by omega)];refine decide_eq_true fun j hj=>?_;have:=F.form.zero k j hk (by omega)
  rwa [zl hk] at this
 ·rw [decide_eq_false (by omega)];refine decide_eq_false fun h'=>?_;have:=h' (p k) (by omega);omega
theorem zgS (n:Nat)(ts:List (List Int))(k:Nat)(hk:k<ts.length):behindL n (ts.take (k+1))=behindL n (ts.take k) ++(if (n:Int)≤first ts[k] then [ts[k].drop n] else []):=by
 unfold behindL;rw [List.take_succ_eq_append_getElem hk,List.filter_append,List.map_append];by_cases h:(n:Int)≤first ts[k]
 ·rw [if_pos h,List.filter_cons_of_pos (by simpa using h)];rfl
 ·rw [if_neg h,List.filter_cons_of_neg (by simpa using h)];rfl
theorem zer (w:World)(v:Value)(f n N:Nat)(ts:List (List Int))(hv:MatR w v ts N)(F:FormL (f+n) ts p)(h1:1≤n)(h4:f+n≤100)(hm:ts.length≤100):
  Calls Tryz.prog 77 #[v,.int .i64 (f:Int)] w fun e w'=>∃ u,e=.returned u∧MatQ False w' u (behindL f ts) N∧Below w.heap.size w w':=by
 obtain⟨j0,hj,hy0,hy1,hy2⟩:=info_parts Tryz.infoRRow;have HV:=hide hv;have HF:=hide F;obtain⟨ao,cap,rfl,-,-⟩:=hv;clear F;go_enter Tryz.func77,Tryz.ntmps77;go_wp2;go_loopw [5,6] (fun out i wr=>∃(k:Nat) (qs:List (Value × List Int)),k≤ts.length∧i=.int .i64 k∧Hid (GrowQ False wr w.heap.size out qs N)∧Hid (qs.map (·.2)=behindL f (ts.take k))∧Hid (qs.length≤k)∧Hid (Below w.heap.size w wr)) (fun _ i _=>ts.length-(intOf i).toNat)
 case atStart=>exact⟨0,[],Nat.zero_le _,rfl,hide ⟨World.ownsRow_nil _ _ _ _,fun _ h=>by cases h⟩,hide (by simp [behindL]),hide zL,hide (zB _ _)⟩
 case round=>
  obtain⟨k,qs,hk,rfl,HGM,HQ,HQL,HBE⟩:=hrel;by_cases hkl:k<ts.length
  ·obtain⟨_,_,e,-,hc⟩:=HV.out.below HBE.out zL;simp only [zV,true_and] at e;obtain⟨rfl,rfl⟩:=e;obtain⟨b,rfl,hblt,hc⟩:=hc (by omega);obtain⟨u,cu,hu⟩:=hc k ts[k] (by simp [hkl]);have HU:=hide hu;have hzl:ts[k].length=f+n:=HF.out.len _ (List.getElem_mem hkl);have HZL:=hide hzl;have HNX:=hide (zgS f ts k hkl);have HNT:=hide (zju (f:=f) HF.out hkl);clear hc;generalize ts[k]=zs at *;obtain⟨vo,vcap,rfl,hvc,-⟩:=hu;rw [hzl] at cu hvc;have HT0:=hide (zjy zs);clear hzl;go_wp2;obtain⟨wo,rfl⟩:∃ wo:World,wo=wr:=⟨_,rfl⟩;go_loopw [7,8] (fun t i wq=>∃ q:Nat,q≤f∧t=.bool (noughtTo zs q)∧i=.int .i64 q∧wq=wo) (fun _ i _=>f-(intOf i).toNat)
   case atStart=>exact⟨0,Nat.zero_le _,by rw [HT0.out],rfl,rfl⟩
   case round=>
    obtain⟨q,hq,rfl,rfl,hwq⟩:=hrel;subst hwq;by_cases hql:q<f
    ·cases hnt:noughtTo zs q with
     | false=>
      have HN:=hide (zjw hnt);clear hnt;go_wp2;go_roundw
      case rel=>exact⟨q+1,by omega,by rw [HN.out],by go_num,by first | rfl | trivial⟩
      case measure=>simp [intOf];omega
     | true=>
      obtain⟨ab,_,e,la,rs,ro,rl,rc,a0,a1,na⟩:=HU.out.at q (by have:=HZL.out;omega);simp only [zV,true_and] at e;obtain⟨rfl,rfl⟩:=e;have hsg:=na.sgn0.1;by_cases hs0:rs=0
      ·have HN:=hide (zjx hnt (hsg.1 hs0));subst hs0;clear hnt hsg na;go_wp2;go_roundw
       case rel=>exact⟨q+1,by omega,by rw [HN.out],by go_num,by first | rfl | trivial⟩
       case measure=>simp [intOf];omega
      ·have HN:=hide (zjv (zs:=zs) (k:=q) fun h=>hs0 (hsg.2 h));have hs1:(rs==0)=false:=beq_eq_false_iff_ne.2 hs0;clear hnt hsg na hs0;go_wp2;go_roundw
       case rel=>exact⟨q+1,by omega,by rw [HN.out],by go_num,by first | rfl | trivial⟩
       case measure=>simp [intOf];omega
    ·obtain rfl:q=f:=by omega
     cases hnt:noughtTo zs q with
     | false=>
      have HQ':Hid (qs.map (·.2)=behindL q (ts.take (k+1))):=by
       show _=_;rw [HNX.out,HQ.out,if_neg (of_decide_eq_false (HNT.out.symm.trans hnt)),List.append_nil]
      have HQL':Hid (qs.length≤k+1):=Nat.le_succ_of_le HQL.out;clear hnt HNT HNX;go_wp2;go_roundw
      case rel=>exact⟨k+1,_,by omega,by go_num,HGM,HQ',HQL',HBE⟩
      case measure=>simp [intOf];omega
     | true=>
      obtain⟨ab,_,e,la,-⟩:=HU.out.at 0 (by have:=HZL.out;omega);simp only [zV,true_and] at e;obtain⟨rfl,rfl⟩:=e;have HD:=hide (HU.out.dropQ (f:=q) (m:=n) HZL.out.symm (by omega));have HQ':Hid ((qs++[((.slice (some ⟨ab,q*2,none⟩) n (vcap-q):Value),zs.drop q)]).map (·.2)=behindL q (ts.take (k+1))):=by
       show _=_;rw [HNX.out,List.map_append,HQ.out,if_pos (of_decide_eq_true (HNT.out.symm.trans hnt))];rfl
      have HQL':Hid ((qs++[((.slice (some ⟨ab,q*2,none⟩) n (vcap-q):Value),zs.drop q)]).length≤k+1):=by
       show _≤_;rw [List.length_append,List.length_singleton];exact Nat.succ_le_succ HQL.out
      have hown:=HGM.out.1;have g2:¬(q:Int)<0:=by omega
      have hbs:=HBE.out.size;clear hnt HNT HNX;go_wp2_with (at_builtin;refine wpList_append_lies _ rfl _ _ 43 rfl w.heap.size 106 j0 (.slice none 0 0) 1 24 (by kernel_rfl) hj hy0 hy1 hy2 rfl (by decide) u5 qs.length (qs.map (·.1)) rfl (hown.alloc _) ⟨wr.heap.size,0,none⟩ 1 1 [.slice (some ⟨ab,q*2,none⟩) n (vcap-q)] rfl rfl (World.news_of_block (heap_alloc_new wr _)) (fun u hu=>by rw [List.mem_singleton] at hu;subst hu;rfl) (by decide) (by unfold maxLen;have:=HQL.out;omega) (by have:=HQL.out;omega) (by simp;omega) (wr.heap.size+1) (by simp) ?_);intro g cap' w5 hown5 hgrow5 hat5 hlt5;have HN:=hide (zic HGM.out HD.out hown5 hgrow5);have HB5:=hide (HBE.out.trans (zP hown HBE.out.size hgrow5));clear hown hown5 hgrow5 hat5 hlt5 HGM HD;go_wp2;go_roundw
      case rel=>exact⟨k+1,_,by omega,by go_num,HN,HQ',HQL',HB5⟩
      case measure=>simp [intOf];omega
  ·obtain rfl:k=ts.length:=by omega
   have HR:Hid (MatQ False wr u5 (behindL f ts) N):=by
    have:=HGM.out.mat;rw [HQ.out,List.take_length] at this;exact this
   clear HGM HQ;go_wp2;go_ret;exact⟨_,rfl,HR.out,HBE.out⟩
theorem zk5 (n j k:Nat)(hk:k<n):(unitL n j).take (k+1)=(unitL n j).take k++[if k=j then (1:Int) else 0]:=by
 rw [List.take_succ_eq_append_getElem (by rw [zx];exact hk)];congr 2;simp [unitL]
theorem zk0 (ms:List (List Int))(n j:Nat)(hj:j<n):(tracedL ms n).take (j+1)=(tracedL ms n).take j++[(ms.map fun r=>r.getD j 0)++unitL n j]:=by
 rw [List.take_succ_eq_append_getElem (by rw [zZ];exact hj)];congr 2;simp [tracedL]
def KerRPost (w:World)(n a0:Nat)(ms:List (List Int))(e:Ending)(w':World):Prop:=
 ∃ u ts p,e=.returned u∧MatQ False w' u (behindL ms.length ts) (eB (dT a0 (n+min n (ms.length+n))+7) (ms.length+n))∧FormL (ms.length+n) ts p∧Alikes (ms.length+n) (InL ts) (InL (tracedL ms n))∧Below w.heap.size w w'
theorem ze8 (w:World)(v:Value)(ms:List (List Int))(n a0:Nat)(hv:MatQ False w v ms a0)(hr:∀ us∈ms,us.length=n)(hn1:1≤n)(hn:n≤8)(hm:ms.length≤12)(ha:5≤a0)(hB:dT a0 (n+min n (ms.length+n)+1)≤1000000000):
  Calls Tryz.prog 28 #[v,.int .i64 (n:Int)] w fun e w'=>KerRPost w n a0 ms e w':=by
 obtain⟨i0,hi,hz0,hz1,hz2⟩:=info_parts Tryz.infoRNum;obtain⟨j0,hj,hy0,hy1,hy2⟩:=info_parts Tryz.infoRRow;have HV:=hide hv;have HR:=hide hr;have HDB:=hide hB;obtain⟨ao,cap,rfl,-,-⟩:=hv;clear hr hB;go_enter Tryz.func28,Tryz.ntmps28;go_wp2;go_loopw [5,6] (fun out i wr=>∃(k:Nat) (qs:List (Value × List Int)),k≤n∧i=.int .i64 k∧Hid (GrowM wr w.heap.size out qs a0)∧Hid (qs.map (·.2)=(tracedL ms n).take k)∧Hid (Below w.heap.size w wr)) (fun _ i _=>n-(intOf i).toNat)
 case atStart=>exact⟨0,[],Nat.zero_le _,rfl,hide ⟨World.ownsRow_nil _ _ _ _,fun _ h=>by cases h⟩,hide (by simp),hide (zB _ _)⟩
 case round=>
  obtain⟨k,qs,hk,rfl,HGM,HQ,HBE⟩:=hrel;have HQL:Hid (qs.length=k):=by
   have:=congrArg List.length HQ.out;rw [zM,List.length_take,zZ] at this;show qs.length=k;omega
  by_cases hkl:k<n
  ·have HTT:=hide (zk0 ms n k hkl);go_wp2;obtain⟨wo,rfl⟩:∃ wo:World,wo=wr:=⟨_,rfl⟩;go_loopw [7,8] (fun r i wr=>∃(q:Nat) (ps:List (Rn × Int)),q≤ms.length∧i=.int .i64 q∧Hid (GrowR wr wo.heap.size r ps a0)∧Hid (ps.map (·.2)=(ms.take q).map fun r=>r.getD k 0)∧Hid (Below wo.heap.size wo wr)) (fun _ i _=>ms.length-(intOf i).toNat)
   case atStart=>exact⟨0,[],Nat.zero_le _,rfl,hide (GrowR.nil _ _ _),hide (by simp),hide (zB _ _)⟩
   case round=>
    obtain⟨q,ps,hq,rfl,HGR,HP,HBI⟩:=hrel;have HPL:Hid (ps.length=q):=by
     have:=congrArg List.length HP.out;rw [zM,zM,List.length_take] at this;show ps.length=q;omega
    by_cases hql:q<ms.length
    ·obtain⟨_,_,e,-,hc⟩:=HV.out;simp only [zV,true_and] at e;obtain⟨rfl,rfl⟩:=e;obtain⟨mb,rfl,hmlt,hc⟩:=hc (by omega);obtain⟨u,cu0,hu⟩:=hc q ms[q] (by simp [hql]);clear hc;have hbw:Below w.heap.size w wr:=HBE.out.trans (HBI.out.mono HBE.out.size);have cu:=(hbw.cell (p:=⟨mb,q,none⟩) hmlt).trans cu0;have hul:=HR.out _ (List.getElem_mem hql);have HP':Hid (∀ r:Rn,(ps++[(r,ms[q].getD k 0)]).map (·.2)=(ms.take (q+1)).map fun r=>r.getD k 0):=fun r=>by
      rw [List.map_append,HP.out,List.take_succ_eq_append_getElem hql,List.map_append];rfl
     have hu2:=hu.below hbw zL;clear hu cu0;generalize ms[q]=zs at *;obtain⟨ab,aoff,acap,e,la,rs,ro,rl,rc,a0',a1',na⟩:=hu2.at k (by omega);subst e;rw [hul] at cu;have NA:Hid (NumR wr (Rn.val ⟨rs,ro,rl,rc⟩) (zs.getD k 0) a0):=na;have hown:=HGR.out.1;have hbs:=HBI.out.size;clear na hu2 hbw;generalize zs.getD k 0=z at *;go_wp2_with (at_builtin;refine wpList_append_lies _ rfl _ _ 106 rfl wo.heap.size 40 i0 (.agg #[.int .i64 0,.slice none 0 0]) 2 32 (by kernel_rfl) hi hz0 hz1 hz2 rfl (by decide) u7 ps.length (ps.flatMap rcells) rfl (hown.alloc _) ⟨wr.heap.size,0,none⟩ 1 1 [.int .i64 rs,.slice ro rl rc] rfl rfl (World.news_of_block (heap_alloc_new wr _)) (fun u hu=>by simp only [List.mem_cons,List.mem_nil_iff,or_false] at hu;rcases hu with rfl | rfl <;> rfl) (by decide) (by unfold maxLen;have:=HPL.out;omega) (by have:=HPL.out;omega) (by simp;omega) (wr.heap.size+1) (by simp) ?_);intro g cap' w5 hown5 hgrow5 hat5 hlt5;have HN:=hide (zaU HGR.out NA.out hown5 hgrow5);have HB5:=hide (HBI.out.trans (zP hown HBI.out.size hgrow5));have HP5:=hide (HP'.out ⟨rs,ro,rl,rc⟩);clear hown hown5 hgrow5 hat5 hlt5 HGR NA HBI HP' HP cu a0' a1';go_wp2;go_roundw
     case rel=>exact⟨q+1,_,by omega,by go_num,HN,HP5,HB5⟩
     case measure=>simp [intOf];omega
    ·obtain rfl:q=ms.length:=by omega
     rw [List.take_length] at HP;have HP0:Hid (ps.map (·.2)=(ms.map fun r=>r.getD k 0) ++(unitL n k).take 0):=by
      show _=_;rw [HP.out,List.take_zero,List.append_nil]
     clear HP HPL;go_wp2;go_loopw [7,9] (fun r i wr=>∃(q:Nat) (ps:List (Rn × Int)),q≤n∧i=.int .i64 q∧Hid (GrowR wr wo.heap.size r ps a0)∧Hid (ps.map (·.2)=(ms.map fun r=>r.getD k 0) ++(unitL n k).take q)∧Hid (Below wo.heap.size wo wr)) (fun _ i _=>n-(intOf i).toNat)
     case atStart=>exact⟨0,ps,Nat.zero_le _,rfl,HGR,HP0,HBI⟩
     case round=>
      clear HGR HP0 HBI ps;obtain⟨q,ps,hq,rfl,HGR,HP,HBI⟩:=hrel;have HPL:Hid (ps.length=ms.length+q):=by
       have:=congrArg List.length HP.out;rw [zM,List.length_append,zM,List.length_take,zx] at this;show ps.length=ms.length+q;omega
      by_cases hql:q<n
      ·have HP':Hid (∀(r:Rn) (z:Int),z=(if q=k then 1 else 0)→(ps++[(r,z)]).map (·.2)=(ms.map fun r=>r.getD k 0) ++(unitL n k).take (q+1)):=fun r z hz=>by
        rw [List.map_append,HP.out,zk5 n k q hql,← hz,List.append_assoc];rfl
       by_cases hqk:q=k
       ·have HP2:=hide (fun r=>HP'.out r 1 (by rw [if_pos hqk]));subst hqk;clear HP' HP;go_wp2_with fail;refine(zad wr 1 (by decide) (by decide)).mono ?_;rintro e w3 ⟨r,rfl,hr3,hb3⟩;obtain⟨rs,ro,rl,rc,rfl,-⟩:=hr3.form;have NA:Hid (NumR w3 (Rn.val ⟨rs,ro,rl,rc⟩) 1 a0):=hr3.mono ha;have HG3:=hide (HGR.out.later hb3);have HB3:=hide (HBI.out.trans (hb3.mono HBI.out.size));have hown:=HG3.out.1;have hbs:=HB3.out.size;clear hr3 hb3 HGR HBI;go_wp2_with (at_builtin;refine wpList_append_lies _ rfl _ _ 106 rfl wo.heap.size 40 i0 (.agg #[.int .i64 0,.slice none 0 0]) 2 32 (by kernel_rfl) hi hz0 hz1 hz2 rfl (by decide) u7 ps.length (ps.flatMap rcells) rfl (hown.alloc _) ⟨w3.heap.size,0,none⟩ 1 1 [.int .i64 rs,.slice ro rl rc] rfl rfl (World.news_of_block (heap_alloc_new w3 _)) (fun u hu=>by simp only [List.mem_cons,List.mem_nil_iff,or_false] at hu;rcases hu with rfl | rfl <;> rfl) (by decide) (by unfold maxLen;have:=HPL.out;omega) (by have:=HPL.out;omega) (by simp;omega) (w3.heap.size+1) (by simp) ?_);intro g cap' w5 hown5 hgrow5 hat5 hlt5;have HN:=hide (zaU HG3.out NA.out hown5 hgrow5);have HB5:=hide (HB3.out.trans (zP hown HB3.out.size hgrow5));have HP5:=hide (HP2.out ⟨rs,ro,rl,rc⟩);clear hown hown5 hgrow5 hat5 hlt5 HG3 NA HB3 HP2;go_wp2;go_roundw
        case rel=>exact⟨q+1,_,by omega,by go_num,HN,HP5,HB5⟩
        case measure=>simp [intOf];omega
       ·have hqk':((q:Int) ==(k:Int))=false:=beq_eq_false_iff_ne.2 (by omega);have HP2:=hide (HP'.out ⟨0,none,0,0⟩ 0 (by rw [if_neg hqk]));have NA:Hid (NumR wr (Rn.val ⟨0,none,0,0⟩) 0 a0):=NumR.nought wr a0;have hown:=HGR.out.1;have hbs:=HBI.out.size;clear HP' HP;go_wp2_with (at_builtin;refine wpList_append_lies _ rfl _ _ 106 rfl wo.heap.size 40 i0 (.agg #[.int .i64 0,.slice none 0 0]) 2 32 (by kernel_rfl) hi hz0 hz1 hz2 rfl (by decide) u7 ps.length (ps.flatMap rcells) rfl (hown.alloc _) ⟨wr.heap.size,0,none⟩ 1 1 [.int .i64 0,.slice none 0 0] rfl rfl (World.news_of_block (heap_alloc_new wr _)) (fun u hu=>by simp only [List.mem_cons,List.mem_nil_iff,or_false] at hu;rcases hu with rfl | rfl <;> rfl) (by decide) (by unfold maxLen;have:=HPL.out;omega) (by have:=HPL.out;omega) (by simp;omega) (wr.heap.size+1) (by simp) ?_);intro g cap' w5 hown5 hgrow5 hat5 hlt5;have HN:=hide (zaU HGR.out NA.out hown5 hgrow5);have HB5:=hide (HBI.out.trans (zP hown HBI.out.size hgrow5));clear hown hown5 hgrow5 hat5 hlt5 HGR NA HBI;go_wp2;go_roundw
        case rel=>exact⟨q+1,_,by omega,by go_num,HN,HP2,HB5⟩
        case measure=>simp [intOf];omega
      ·obtain rfl:q=n:=by omega
       have HRR:Hid (RowR wr u7 ((ms.map fun r=>r.getD k 0)++unitL q k) a0):=by
        have:=HGR.out.row;rw [HP.out,List.take_of_length_le (by rw [zx];exact Nat.le_refl _)] at this;exact this
       have HG2:=hide (HGM.out.later HBI.out);have HB2:=hide (HBE.out.trans (HBI.out.mono HBE.out.size));have HQ':Hid (∀ r:Value,(qs++[(r,(ms.map fun r=>r.getD k 0)++unitL q k)]).map (·.2)=(tracedL ms q).take (k+1)):=fun r=>by
        rw [List.map_append,HQ.out,HTT.out];rfl
       obtain⟨so,sl,sc,rfl⟩:∃ so sl sc,u7=.slice so sl sc:=by
        obtain⟨so,sc,e,-⟩:=HRR.out;exact⟨_,_,_,e⟩
       have hown:=HG2.out.1;have hbs:=HB2.out.size;clear HGR HP HPL;go_wp2_with (at_builtin;refine wpList_append_lies _ rfl _ _ 43 rfl w.heap.size 106 j0 (.slice none 0 0) 1 24 (by kernel_rfl) hj hy0 hy1 hy2 rfl (by decide) u5 qs.length (qs.map (·.1)) rfl (hown.alloc _) ⟨wr.heap.size,0,none⟩ 1 1 [.slice so sl sc] rfl rfl (World.news_of_block (heap_alloc_new wr _)) (fun u hu=>by rw [List.mem_singleton] at hu;subst hu;rfl) (by decide) (by unfold maxLen;have:=HQL.out;omega) (by have:=HQL.out;omega) (by simp;omega) (wr.heap.size+1) (by simp) ?_);intro g cap' w5 hown5 hgrow5 hat5 hlt5;have HN:=hide (zbm HG2.out HRR.out hown5 hgrow5);have HB5:=hide (HB2.out.trans (zP hown HB2.out.size hgrow5));have HQ5:=hide (HQ'.out (.slice so sl sc));clear hown hown5 hgrow5 hat5 hlt5 HG2 HRR HB2 HQ' HQ;go_wp2;go_roundw
       case rel=>exact⟨k+1,_,by omega,by go_num,HN,HQ5,HB5⟩
       case measure=>simp [intOf];omega
  ·obtain rfl:k=n:=by omega
   have HW:Hid (MatR wr u5 (tracedL ms k) a0):=by
    have:=HGM.out.mat;rw [HQ.out,List.take_of_length_le (by rw [zZ];exact Nat.le_refl _)] at this;exact this
   clear HGM HQ;obtain⟨uo,ul,uc,rfl⟩:∃ uo ul uc,u5=.slice uo ul uc:=by
    obtain⟨so,sc,e,-⟩:=HW.out;exact⟨_,_,_,e⟩
   go_wp2_with fail;rw [show((ms.length:Int)+(k:Int))=((ms.length+k:Nat):Int) by omega];refine(ze4 wr _ (tracedL ms k) (ms.length+k) a0 HW.out (zcc ms k) (by omega) (by omega) (by rw [zZ];omega) (by rw [zZ];exact HDB.out)).mono ?_;rintro e w6 ⟨u6,fs,p6,rfl,g1,g2,g3,g4,g5⟩;rw [zZ] at g1;have HG1:=hide g1;have HF:=hide g3;have HA:=hide g4;have HB6:=hide (HBE.out.trans (g5.mono HBE.out.size));have hfl:fs.length≤100:=by omega
   clear g1 g2 g3 g4 g5 HW;go_wp2_with fail;refine(zer w6 _ ms.length k _ fs HG1.out HF.out hn1 (by omega) hfl).mono ?_;rintro e w7 ⟨u7',rfl,k1,k2⟩;have HP:=hide (show KerRPost w k a0 ms (.returned u7') w7 from⟨_,fs,p6,rfl,k1,HF.out,HA.out,HB6.out.trans (k2.mono HB6.out.size)⟩);clear k1 k2 HB6 HG1 HF HA;go_wp2;go_ret;exact HP.out
theorem ziA (w:World)(v:Value)(ms:List (List Int))(n a0:Nat)(hv:MatR w v ms a0)(hr:∀ us∈ms,us.length=n)(hn1:1≤n)(hn:n≤8)(hm:ms.length≤12)(ha:5≤a0)(hB:dT a0 (n+min n (ms.length+n)+1)≤1000000000):
  Calls Tryz.prog 28 #[v,.int .i64 (n:Int)] w fun e w'=>KerRPost w n a0 ms e w':=ze8 w v ms n a0 hv.toQ hr hn1 hn hm ha hB
theorem zbw (qs:List (Rn × Int)):(qs.flatMap rcells).length=qs.length*2:=by
 induction qs with
 | nil=>rfl
 | cons p qs ih=>rw [List.flatMap_cons,List.length_append,ih,List.length_cons];simp [rcells];omega
theorem zcM (qs:List (Rn × Int))(u:Value)(hu:u∈qs.flatMap rcells):u.oneCell'=true:=by
 obtain⟨p,-,h⟩:=List.mem_flatMap.1 hu;simp only [rcells,List.mem_cons,List.mem_nil_iff,or_false] at h;rcases h with rfl | rfl <;> rfl
theorem RowR.rows{P:Nat}(h:RowR W (.slice (some ⟨P,0,none⟩) zs.length cap) zs n):
  ∃ qs:List (Rn × Int),qs.map (·.2)=zs∧(∀ j u,(qs.flatMap rcells)[j]?=some u→W.cell? ((⟨P,0,none⟩:Addr).add j)=some u)∧∀ p∈qs,NumR W p.1.val p.2 n:=by
 have key:∀ i,i<zs.length→∃ r:Rn,W.cell? ⟨P,i*2,none⟩=some (.int .i64 r.s)∧W.cell? ⟨P,i*2+1,none⟩=some (.slice r.o r.l r.c)∧NumR W r.val (zs.getD i 0) n:=fun i hi=>by
  obtain⟨b,cap',e,-,s,o,l,c,h1,h2,h3⟩:=h.at i hi;simp only [zV,Option.some.injEq,Addr.mk.injEq,and_true,true_and] at e;obtain⟨rfl,-⟩:=e;exact⟨⟨s,o,l,c⟩,h1,h2,h3⟩
 let f:Nat→Rn:=fun i=>if hi:i<zs.length then Classical.choose (key i hi) else ⟨0,none,0,0⟩
 have hf:∀ i,i<zs.length→W.cell? ⟨P,i*2,none⟩=some (.int .i64 (f i).s)∧W.cell? ⟨P,i*2+1,none⟩=some (.slice (f i).o (f i).l (f i).c)∧NumR W (f i).val (zs.getD i 0) n:=fun i hi=>by
  have:=Classical.choose_spec (key i hi);simpa only [f,dif_pos hi] using this
 let qs:List (Rn × Int):=(List.range zs.length).map fun i=>(f i,zs.getD i 0)
 have hl:qs.length=zs.length:=by simp [qs]
 have hq:∀ i (hi:i<qs.length),qs[i]=(f i,zs.getD i 0):=fun i hi=>by simp [qs]
 refine⟨qs,?_,fun j u hj=>?_,fun p hp=>?_⟩
 ·apply List.ext_getElem (by rw [zM,hl]);intro i h1 h2;rw [List.getElem_map,hq i (by omega),zG,List.getElem?_eq_getElem h2];rfl
 ·have hjl:j<(qs.flatMap rcells).length:=(List.getElem?_eq_some_iff.1 hj).1;rw [zbw,hl] at hjl;have ea:(⟨P,0,none⟩:Addr).add j=⟨P,j,none⟩:=by unfold Addr.add;split <;> simp_all
  rw [ea];obtain⟨e1,e2⟩:=zdK qs (j/2) (by omega);rw [hq _ (by omega)] at e1 e2;obtain⟨c1,c2,-⟩:=hf (j/2) (by omega);rcases(by omega:j=j/2*2∨j=j/2*2+1) with e | e
  ·rw [← e] at e1 c1;rw [hj] at e1;rw [c1,e1]
  ·rw [← e] at e2 c2;rw [hj] at e2;rw [c2,e2]
 ·obtain⟨i,hi,rfl⟩:=List.getElem_of_mem hp;rw [hq i hi];exact(hf i (by omega)).2.2
theorem zid{base:Nat}{wr w3:World}{v:Value}{ps qs:List (Rn × Int)}{g:Nat}(h:GrowR wr base v ps n)(hz:∀ p∈qs,NumR wr p.1.val p.2 n)
  (hown:w3.ownsRow base 40 2 (.slice (some ⟨g,0,none⟩) (ps.length+qs.length) cap) (ps.length+qs.length) (ps.flatMap rcells++qs.flatMap rcells))
  (hg:wr.grownBy w3 v.ownBlock):GrowR w3 base (.slice (some ⟨g,0,none⟩) (ps.length+qs.length) cap) (ps++qs) n:=by
 have hty:Typed wr v.ownBlock [3]:=zaX h.1 (by decide);refine⟨by rw [List.length_append,List.flatMap_append];exact hown,fun p hp=>?_⟩;rcases List.mem_append.1 hp with h' | h'
 ·exact(h.2 p h').grown hg hty
 ·exact(hz p h').grown hg hty
theorem zj4 {P:Program}(w:World)(t tn ty e:TypeId)(i:TypeInfo)(z:Value)(kq kn:IntKind)(ht:P.underlying t=some (.slice e))(htn:P.underlying tn=some (.int kn))(hi:P.info? e=some i)(hz:i.zero=some z)
  (g sLen sCap:Nat) (cur:Array Value) (hg:w.heap[g]?=some (.cells cur e (0,0))) (k:Nat) (h0:0<k) (hs:0<i.size) (hroom:sLen+k≤sCap) (h63:((k:Nat):Int)≤9223372036854775807) (h48:k*i.bytes≤281474976710656)
  (news:List Value) (hn:Builtin.zeroCells z.cells k=news.toArray) (hfit:sLen*i.size+news.length≤cur.size) (h1:∀ u∈news,u.oneCell'=true):
  (Builtin.append_ #[t,tn] ty #[.slice (some ⟨g,0,none⟩) sLen sCap,.int kq k]).run P w =
   .ok (.slice (some ⟨g,0,none⟩) (sLen+k) sCap) (w.setRow g (cur.toList.take (sLen*i.size)++news++cur.toList.drop (sLen*i.size+news.length)).toArray):=by
 have hk:k≠0:=by omega
 have hw:IntKind.i64.wrap (k:Int)=k:=by rw [IntKind.wrap_i64];omega
 have h48i:¬(281474976710656<(k:Int) *(i.bytes:Int)):=by
  rw [← Int.natCast_mul];omega
 have hneg:¬((k:Int)<0):=by omega
 have hns:¬(k*i.size=0):=Nat.mul_ne_zero hk (by omega);have hst:=run_storeCells_at P g (sLen*i.size) e news 0 cur w hg (by simpa using hfit) h1;simp only [Nat.add_zero] at hst;simp [Builtin.append_,run_underlying ht,run_underlying htn,sizeOf,typeInfo,zeroValue,hi,hz,asInt,asIntOf,hw,hroom,hneg,hns,h48i,hn,Addr.add_lit,hst]
theorem zeroNums (k:Nat):Builtin.zeroCells (Value.agg #[.int .i64 0,.slice none 0 0]).cells k=(((List.replicate k (⟨0,none,0,0⟩,(0:Int))):List (Rn × Int)).flatMap rcells).toArray:=by
 have hc:(Value.agg #[.int .i64 0,.slice none 0 0]).cells=#[.int .i64 0,.slice none 0 0]:=rfl;rw [hc];apply Array.ext';apply List.ext_getElem?;intro j;have hl:(((List.replicate k (⟨0,none,0,0⟩,(0:Int))):List (Rn × Int)).flatMap rcells).length=k*2:=by rw [zbw,List.length_replicate]
 by_cases hj:j<k*2
 ·obtain⟨e1,e2⟩:=zdK (List.replicate k ((⟨0,none,0,0⟩,(0:Int)):Rn × Int)) (j/2) (by rw [List.length_replicate];omega);rw [List.getElem_replicate] at e1 e2;have hz:(Builtin.zeroCells #[Value.int .i64 0,.slice none 0 0] k).toList[j]?=some ((#[Value.int .i64 0,.slice none 0 0]:Array Value)[j%2]!):=by
   simp [Builtin.zeroCells,hj]
  rw [hz];show _=(((List.replicate k (⟨0,none,0,0⟩,(0:Int))):List (Rn × Int)).flatMap rcells)[j]?;rcases(by omega:j=j/2*2∨j=j/2*2+1) with e | e
  ·have hm:j%2=0:=by omega
   rw [← e] at e1;rw [e1,hm];rfl
  ·have hm:j%2=1:=by omega
   rw [← e] at e2;rw [e2,hm];rfl
 ·rw [List.getElem?_eq_none (by simp [Builtin.zeroCells];omega),List.getElem?_eq_none (by show(((List.replicate k (⟨0,none,0,0⟩,(0:Int))):List (Rn × Int)).flatMap rcells).length≤j;omega)]
theorem zj3 {P:Program}(w:World)(base:Nat)(t tn e:TypeId)(i:TypeInfo)(kq kn:IntKind)(ht:P.underlying t=some (.slice e))(htn:P.underlying tn=some (.int kn))(hi:P.info? e=some i)(hz:i.zero=some (.agg #[.int .i64 0,.slice none 0 0]))
  (hsize:i.size=2) (hby:i.bytes=32) (g cap n:Nat) (xs:List Value) (hown:w.ownsRow base e 2 (.slice (some ⟨g,0,none⟩) n cap) n xs) (k:Nat) (h0:0<k) (hk:n+k≤1000000) (hbase:base≤w.heap.size):
  ∃ g' cap' w',(∀ ty,(Builtin.append_ #[t,tn] ty #[.slice (some ⟨g,0,none⟩) n cap,.int kq k]).run P w=.ok (.slice (some ⟨g',0,none⟩) (n+k) cap') w') ∧
   w'.ownsRow base e 2 (.slice (some ⟨g',0,none⟩) (n+k) cap') (n+k) (xs ++((List.replicate k (⟨0,none,0,0⟩,(0:Int))):List (Rn × Int)).flatMap rcells)∧w.grownBy w' (some g):=by
 have hzn:=zeroNums k;generalize hN:((List.replicate k (⟨0,none,0,0⟩,(0:Int))):List (Rn × Int)).flatMap rcells=news at *;have hnl:news.length=k*2:=by rw [← hN,zbw,List.length_replicate]
 have h1:∀ u∈news,u.oneCell'=true:=by rw [← hN];exact zcM _
 have hlen:(xs++news).length=(n+k)*2:=by rw [List.length_append,hown.1,hnl,Nat.add_mul]
 have holds:∀ j u,xs[j]?=some u→w.cell? ((⟨g,0,none⟩:Addr).add j)=some u:=hown.cells (g:=g) rfl;have hxl:=hown.1;rcases hown.2 with⟨e2,-⟩ |⟨g',cap',cur,e2,hbg,hg,hnc,hcm,hcs,htake⟩
 ·cases e2
 ·obtain⟨rfl,rfl⟩:g=g'∧cap=cap':=by simpa using e2
  by_cases hroom:n+k≤cap
  ·have hfit:n*i.size+news.length≤cur.size:=by rw [hnl,hcs,hsize,← Nat.add_mul];exact Nat.mul_le_mul_right _ hroom
   have hr:=fun ty=>zj4 (P:=P) w t tn ty e i _ kq kn ht htn hi hz g n cap cur hg k h0 (by omega) hroom (by omega) (by rw [hby];omega) news hzn hfit h1;refine⟨_,_,_,hr,⟨hlen,.inr ⟨g,cap,_,rfl,hbg,setRow_heap w g cur _ _ _ hg,hroom,hcm,?_,?_⟩⟩,⟨rfl,rfl,rfl,by simp,fun j _ hj=>setRow_other w g j _ (fun e=>hj (by simp [e]))⟩⟩
   ·simp only [List.size_toArray,List.length_append,List.length_take,List.length_drop,Array.length_toList];omega
   ·rw [hsize,htake,← hlen];exact List.take_left
  ·have hold:=run_firstCells_some (P:=P) w.drew i.size n ⟨g,0,none⟩ n cap xs (by rw [hsize];exact hxl) (by simpa using holds);have hr:=fun ty=>Lib.run_append_grow_zeros (P:=P) w t tn ty e i _ kq kn ht htn hi hz (some ⟨g,0,none⟩) n cap xs hold k h0 (by omega) (by omega) (by omega) (by rw [hby];omega) (by rw [hby];exact growslice_fits (by omega) (by omega));have hge:=grownCap_ge w (n+k) cap e;have hcm':grownCap w (n+k) cap e≤maxLen:=grownCap_le_maxLen w (n+k) cap e (by unfold maxLen;omega);simp only [hzn] at hr;refine⟨_,_,_,hr,⟨hlen,.inr ⟨w.heap.size,_,_,rfl,hbase,heap_alloc_new w.drew _,hge,hcm',?_,?_⟩⟩,⟨rfl,rfl,rfl,by simp,fun j hj _=>heap_alloc_old w.drew _ hj⟩⟩
   ·have hz2:(Value.agg #[.int .i64 0,.slice none 0 0]).cells.size=2:=rfl;simp only [Array.size_append,List.size_toArray,size_zeroCells,hz2,hxl,hnl,← Nat.add_mul];congr 1;omega
   ·simp only [Array.toList_append,List.append_assoc];rw [← List.append_assoc,← hlen];exact List.take_left
def Both (n:Nat)(ms hs ks:List (List Int)):Prop:=∀ v:List Int,v.length=n→(Gens n (InL ms) v↔Gens n (InL hs) v∧Gens n (InL ks) v)
end Go.Proofs.YtdedolkgcdlmeaaGreatDoor
