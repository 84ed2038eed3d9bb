import Derived.Test.YtdedolkgcdlmeaaGreatDoorHermR
set_option maxRecDepth 100000
set_option maxHeartbeats 3200000
set_option linter.unusedSimpArgs false
namespace Go.Proofs.YtdedolkgcdlmeaaGreatDoor
open Go.RowKit Limbs Digs
variable{zs:List Int}{n m k B cap f base:Nat}{v:Value}{W w W':World}{p:Nat→Nat}
def RowQ (W:World)(v:Value)(zs:List Int)(n:Nat):Prop:=
 ∃ ao cap,v=.slice ao zs.length cap∧zs.length≤cap∧(0<zs.length→∃ b off cur fz,ao=some ⟨b,off,none⟩∧W.heap[b]?=some (.cells cur 40 fz) ∧
  ∀ i,i<zs.length→∃(s:Int) (o:Option Addr) (l c:Nat),W.cell? ⟨b,off+i*2,none⟩=some (.int .i64 s)∧W.cell? ⟨b,off+i*2+1,none⟩=some (.slice o l c)∧NumR W (.agg #[.int .i64 s,.slice o l c]) (zs.getD i 0) n)
theorem RowQ.below(h:RowQ W v zs n)(hb:Below B W W')(hB:W.heap.size≤B):RowQ W' v zs n:=by
 obtain⟨ao,cap,hv,h1,h2⟩:=h;refine⟨ao,cap,hv,h1,fun h0=>?_⟩;obtain⟨b,off,cur,fz,e,hh,hc⟩:=h2 h0;have hlt:=zj hh;refine⟨b,off,cur,fz,e,(hb.block _ (by omega)).trans hh,fun i hi=>?_⟩;obtain⟨s,o,l,c,h3,h4,h5⟩:=hc i hi;exact⟨s,o,l,c,(hb.cell (p:=⟨b,off+i*2,none⟩) (by show b<B;omega)).trans h3,(hb.cell (p:=⟨b,off+i*2+1,none⟩) (by show b<B;omega)).trans h4,h5.below hb hB⟩
theorem RowQ.grown{row:Option Nat}(h:RowQ W v zs n)(hg:W.grownBy W' row)(hr:Typed W row [3,40]):RowQ W' v zs n:=by
 obtain⟨ao,cap,hv,h1,h2⟩:=h;refine⟨ao,cap,hv,h1,fun h0=>?_⟩;obtain⟨b,off,cur,fz,e,hh,hc⟩:=h2 h0;have hr':Typed W row [3]:=fun g hg=>by
  obtain⟨cur',t,fz',h5,h6⟩:=hr g hg;exact⟨cur',t,fz',h5,fun h=>h6 (by rw [List.mem_singleton] at h;rw [h];exact List.mem_cons_self)⟩
 have hne:some b≠row:=fun e=>by
  obtain⟨cur',t,fz',h5,h6⟩:=hr b e.symm;rw [hh] at h5;simp only [Option.some.injEq,Obj.cells.injEq] at h5;exact h6 (by rw [← h5.2.1];exact List.mem_cons_of_mem _ (List.mem_singleton.2 rfl))
 refine⟨b,off,cur,fz,e,(hg.block b (zj hh) hne).trans hh,fun i hi=>?_⟩;obtain⟨s,o,l,c,h3,h4,h5⟩:=hc i hi;exact⟨s,o,l,c,hg.cell h3 hne,hg.cell h4 hne,h5.grown hg hr'⟩
theorem RowQ.at(h:RowQ W v zs n)(i:Nat)(hi:i<zs.length):∃ b off cap,v=.slice (some ⟨b,off,none⟩) zs.length cap∧b<W.heap.size∧∃(s:Int) (o:Option Addr) (l c:Nat),W.cell? ⟨b,off+i*2,none⟩=some (.int .i64 s)∧W.cell? ⟨b,off+i*2+1,none⟩=some (.slice o l c)∧NumR W (.agg #[.int .i64 s,.slice o l c]) (zs.getD i 0) n:=by
 obtain⟨ao,cap,rfl,-,h2⟩:=h;obtain⟨b,off,cur,fz,rfl,hh,hc⟩:=h2 (by omega);exact⟨b,off,cap,rfl,zj hh,hc i hi⟩
theorem RowQ.fits(h:RowQ w v zs n)(hz:∀ j,j<zs.length→-dp m<zs.getD j 0∧zs.getD j 0<dp m):RowQ w v zs m:=by
 obtain⟨ao,cap,hv,h3,h4⟩:=h;refine⟨ao,cap,hv,h3,fun h0=>?_⟩;obtain⟨b,off,cur,fz',e,hh,hc⟩:=h4 h0;refine⟨b,off,cur,fz',e,hh,fun i hi=>?_⟩;obtain⟨s,o,l,c',h5,h6,h7⟩:=hc i hi;exact⟨s,o,l,c',h5,h6,h7.fits (hz i hi).1 (hz i hi).2⟩
theorem RowR.dropQ{b:Nat}(h:RowR W (.slice (some ⟨b,0,none⟩) zs.length cap) zs n)(hf:f+m=zs.length)(hm:0<m):RowQ W (.slice (some ⟨b,f*2,none⟩) m (cap-f)) (zs.drop f) n:=by
 obtain⟨ao,cap',e,h1,h2⟩:=h;simp only [zV,true_and] at e;obtain⟨rfl,rfl⟩:=e;obtain⟨b',cur,fz,e,hh,hc⟩:=h2 (by omega);simp only [Option.some.injEq,Addr.mk.injEq,and_true] at e;subst e;have hl:(zs.drop f).length=m:=by rw [List.length_drop];omega
 refine⟨_,_,by rw [hl],by rw [hl];omega,fun _=>⟨b,f*2,cur,fz,rfl,hh,fun i hi=>?_⟩⟩;rw [hl] at hi;obtain⟨s,o,l,c,h3,h4,h5⟩:=hc (f+i) (by omega);exact⟨s,o,l,c,by rw [show f*2+i*2=(f+i)*2 by omega];exact h3,by rw [show f*2+i*2+1=(f+i)*2+1 by omega];exact h4,by rw [zbs];exact h5⟩
def MatQ (W:World)(v:Value)(zss:List (List Int))(n:Nat):Prop:=
 ∃ ao cap,v=.slice ao zss.length cap∧zss.length≤cap∧(0<zss.length→∃ b,ao=some ⟨b,0,none⟩∧b<W.heap.size∧∀ i zs,zss[i]?=some zs→∃ u,W.cell? ⟨b,i,none⟩=some u∧RowQ W u zs n)
theorem MatQ.below{w':World}{zss:List (List Int)}(h:MatQ w v zss n)(hb:Below B w w')(hB:w.heap.size≤B):MatQ w' v zss n:=by
 obtain⟨ao,cap,hv,h1,h2⟩:=h;refine⟨ao,cap,hv,h1,fun h0=>?_⟩;obtain⟨b,e,hlt,hc⟩:=h2 h0;refine⟨b,e,zT hlt hb.size,fun i zs hi=>?_⟩;obtain⟨u,h3,h4⟩:=hc i zs hi;exact⟨u,(hb.cell (p:=⟨b,i,none⟩) (zT hlt hB)).trans h3,h4.below hb hB⟩
theorem MatQ.fits{zss:List (List Int)}(h:MatQ w v zss n)(hz:∀ zs∈zss,∀ j,j<zs.length→-dp m<zs.getD j 0∧zs.getD j 0<dp m):MatQ w v zss m:=by
 obtain⟨ao,cap,hv,h3,h4⟩:=h;refine⟨ao,cap,hv,h3,fun h0=>?_⟩;obtain⟨b,e,hlt,hc⟩:=h4 h0;refine⟨b,e,hlt,fun i zs hi=>?_⟩;obtain⟨u,h5,h6⟩:=hc i zs hi;exact⟨u,h5,h6.fits (hz zs (List.mem_of_getElem? hi))⟩
def GrowQ (W:World)(base:Nat)(v:Value)(qs:List (Value × List Int))(n:Nat):Prop:=
 W.ownsRow base 106 1 v qs.length (qs.map (·.1))∧∀ q∈qs,RowQ W q.1 q.2 n
theorem zij{wr w3:World}{qs:List (Value × List Int)}{u:Value}{g:Nat}{ob:Obj}(h:GrowQ wr base v qs n)(hz:RowQ wr u zs n)
  (hown:w3.ownsRow base 106 1 (.slice (some ⟨g,0,none⟩) (qs.length+1) cap) (qs.length+1) (qs.map (·.1)++[u]))
  (hg:(wr.alloc ob).grownBy w3 v.ownBlock):GrowQ w3 base (.slice (some ⟨g,0,none⟩) (qs.length+1) cap) (qs++[(u,zs)]) n:=by
 have hty:Typed (wr.alloc ob) v.ownBlock [3,40]:=(zaK h.1 (by decide)).alloc ob;refine⟨by rw [List.length_append,List.length_singleton,List.map_append];exact hown,fun p hp=>?_⟩;rcases List.mem_append.1 hp with h' | h'
 ·exact((h.2 p h').below ((zB _ _).alloc zL ob) zL).grown hg hty
 ·rw [List.mem_singleton] at h';rw [h'];exact(hz.below ((zB _ _).alloc zL ob) zL).grown hg hty
theorem GrowQ.mat{qs:List (Value × List Int)}(h:GrowQ W base v qs n):MatQ W v (qs.map (·.2)) n:=by
 obtain⟨⟨-,h1⟩,h2⟩:=h;have hlen:(qs.map (·.2)).length=qs.length:=zM ..;rcases h1 with⟨rfl,hn⟩ |⟨g,cap,cur,rfl,hb,hh,hc1,hc2,hc3,hc4⟩
 ·exact⟨none,0,by rw [hlen,hn],by rw [hlen];omega,fun h0=>absurd h0 (by rw [hlen];omega)⟩
 ·refine⟨_,cap,by rw [hlen],by rw [hlen];exact hc1,fun h0=>⟨g,rfl,zj hh,fun i zs hi=>?_⟩⟩;obtain⟨hi',e⟩:=List.getElem?_eq_some_iff.1 hi;rw [hlen] at hi';have e':zs=qs[i].2:=by rw [← e,List.getElem_map]
  have:=World.news_of_block hh i qs[i].1 (by
   have e:(qs.map (·.1))[i]?=some qs[i].1:=by rw [List.getElem?_map,List.getElem?_eq_getElem hi'];rfl
   rw [← hc4,List.getElem?_take,if_pos (by omega)] at e;exact e)
  have ea:(⟨g,0,none⟩:Addr).add i=⟨g,i,none⟩:=by unfold Addr.add;split <;> simp_all
  rw [ea] at this;exact⟨_,this,by rw [e'];exact h2 _ (List.getElem_mem hi')⟩
def noughtTo (zs:List Int)(k:Nat):Bool:=decide (∀ j,j<k→zs.getD j 0=0)
theorem zjG (zs:List Int):noughtTo zs 0=true:=decide_eq_true fun j hj=>absurd hj (Nat.not_lt_zero j)
theorem zjF(h:noughtTo zs k=true)(hz:zs.getD k 0=0):noughtTo zs (k+1)=true:=decide_eq_true fun j hj=>by
 by_cases e:j=k
 ·rw [e];exact hz
 ·exact of_decide_eq_true h j (by omega)
theorem zjD(hz:zs.getD k 0≠0):noughtTo zs (k+1)=false:=decide_eq_false fun h=>hz (h k (by omega))
theorem zjE(h:noughtTo zs k=false):noughtTo zs (k+1)=false:=decide_eq_false fun h'=>of_decide_eq_false h fun j hj=>h' j (by omega)
theorem zjC{ts:List (List Int)}(F:FormL m ts p)(hk:k<ts.length):noughtTo ts[k] f=decide ((f:Int)≤first ts[k]):=by
 obtain⟨h1,h2,h3⟩:=F.first hk;rw [h1];by_cases h:f≤p k
 ·rw [decide_eq_true (by omega)];refine decide_eq_true fun j hj=>?_;have:=F.form.zero k j hk (by omega)
  rwa [zn hk] at this
 ·rw [decide_eq_false (by omega)];refine decide_eq_false fun h'=>?_;have:=h' (p k) (by omega);omega
theorem zg3 (n:Nat)(ts:List (List Int))(k:Nat)(hk:k<ts.length):behindL n (ts.take (k+1))=behindL n (ts.take k) ++(if (n:Int)≤first ts[k] then [ts[k].drop n] else []):=by
 unfold behindL;rw [List.take_succ_eq_append_getElem hk,List.filter_append,List.map_append];by_cases h:(n:Int)≤first ts[k]
 ·rw [if_pos h,List.filter_cons_of_pos (by simpa using h)];rfl
 ·rw [if_neg h,List.filter_cons_of_neg (by simpa using h)];rfl
theorem zdm (w:World)(v:Value)(f n N:Nat)(ts:List (List Int))(hv:MatR w v ts N)(F:FormL (f+n) ts p)(h1:1≤n)(h4:f+n≤100)(hm:ts.length≤100):
  Calls Tryz.prog 77 #[v,.int .i64 (f:Int)] w fun e w'=>∃ u,e=.returned u∧MatQ w' u (behindL f ts) N∧Below w.heap.size w w':=by
 obtain⟨j0,hj,hy0,hy1,hy2⟩:=info_parts Tryz.infoRRow;have HV:=hide hv;have HF:=hide F;obtain⟨ao,cap,rfl,-,-⟩:=hv;clear F;go_enter Tryz.func77,Tryz.ntmps77;go_wp2;go_loopw [5,6] (fun out i wr=>∃(k:Nat) (qs:List (Value × List Int)),k≤ts.length∧i=.int .i64 k∧Hid (GrowQ wr w.heap.size out qs N)∧Hid (qs.map (·.2)=behindL f (ts.take k))∧Hid (qs.length≤k)∧Hid (Below w.heap.size w wr)) (fun _ i _=>ts.length-(intOf i).toNat)
 case atStart=>exact⟨0,[],Nat.zero_le _,rfl,hide ⟨World.ownsRow_nil _ _ _ _,fun _ h=>by cases h⟩,hide (by simp [behindL]),hide zL,hide (zB _ _)⟩
 case round=>
  obtain⟨k,qs,hk,rfl,HGM,HQ,HQL,HBE⟩:=hrel;by_cases hkl:k<ts.length
  ·obtain⟨_,_,e,-,hc⟩:=HV.out.below HBE.out zL;simp only [zV,true_and] at e;obtain⟨rfl,rfl⟩:=e;obtain⟨b,rfl,hblt,hc⟩:=hc (by omega);obtain⟨u,cu,hu⟩:=hc k ts[k] (by simp [hkl]);have HU:=hide hu;have hzl:ts[k].length=f+n:=HF.out.len _ (List.getElem_mem hkl);have HZL:=hide hzl;have HNX:=hide (zg3 f ts k hkl);have HNT:=hide (zjC (f:=f) HF.out hkl);clear hc;generalize ts[k]=zs at *;obtain⟨vo,vcap,rfl,hvc,-⟩:=hu;rw [hzl] at cu hvc;have HT0:=hide (zjG zs);clear hzl;go_wp2;obtain⟨wo,rfl⟩:∃ wo:World,wo=wr:=⟨_,rfl⟩;go_loopw [7,8] (fun t i wq=>∃ q:Nat,q≤f∧t=.bool (noughtTo zs q)∧i=.int .i64 q∧wq=wo) (fun _ i _=>f-(intOf i).toNat)
   case atStart=>exact⟨0,Nat.zero_le _,by rw [HT0.out],rfl,rfl⟩
   case round=>
    obtain⟨q,hq,rfl,rfl,hwq⟩:=hrel;subst hwq;by_cases hql:q<f
    ·cases hnt:noughtTo zs q with
     | false=>
      have HN:=hide (zjE hnt);clear hnt;go_wp2;go_roundw
      case rel=>exact⟨q+1,by omega,by rw [HN.out],by go_num,by first | rfl | trivial⟩
      case measure=>simp [intOf];omega
     | true=>
      obtain⟨ab,_,e,la,rs,ro,rl,rc,a0,a1,na⟩:=HU.out.at q (by have:=HZL.out;omega);simp only [zV,true_and] at e;obtain⟨rfl,rfl⟩:=e;have hsg:=na.sgn0.1;by_cases hs0:rs=0
      ·have HN:=hide (zjF hnt (hsg.1 hs0));subst hs0;clear hnt hsg na;go_wp2;go_roundw
       case rel=>exact⟨q+1,by omega,by rw [HN.out],by go_num,by first | rfl | trivial⟩
       case measure=>simp [intOf];omega
      ·have HN:=hide (zjD (zs:=zs) (k:=q) fun h=>hs0 (hsg.2 h));have hs1:(rs==0)=false:=beq_eq_false_iff_ne.2 hs0;clear hnt hsg na hs0;go_wp2;go_roundw
       case rel=>exact⟨q+1,by omega,by rw [HN.out],by go_num,by first | rfl | trivial⟩
       case measure=>simp [intOf];omega
    ·obtain rfl:q=f:=by omega
     cases hnt:noughtTo zs q with
     | false=>
      have HQ':Hid (qs.map (·.2)=behindL q (ts.take (k+1))):=by
       show _=_;rw [HNX.out,HQ.out,if_neg (of_decide_eq_false (HNT.out.symm.trans hnt)),List.append_nil]
      have HQL':Hid (qs.length≤k+1):=Nat.le_succ_of_le HQL.out;clear hnt HNT HNX;go_wp2;go_roundw
      case rel=>exact⟨k+1,_,by omega,by go_num,HGM,HQ',HQL',HBE⟩
      case measure=>simp [intOf];omega
     | true=>
      obtain⟨ab,_,e,la,-⟩:=HU.out.at 0 (by have:=HZL.out;omega);simp only [zV,true_and] at e;obtain⟨rfl,rfl⟩:=e;have HD:=hide (HU.out.dropQ (f:=q) (m:=n) HZL.out.symm (by omega));have HQ':Hid ((qs++[((.slice (some ⟨ab,q*2,none⟩) n (vcap-q):Value),zs.drop q)]).map (·.2)=behindL q (ts.take (k+1))):=by
       show _=_;rw [HNX.out,List.map_append,HQ.out,if_pos (of_decide_eq_true (HNT.out.symm.trans hnt))];rfl
      have HQL':Hid ((qs++[((.slice (some ⟨ab,q*2,none⟩) n (vcap-q):Value),zs.drop q)]).length≤k+1):=by
       show _≤_;rw [List.length_append,List.length_singleton];exact Nat.succ_le_succ HQL.out
      have hown:=HGM.out.1;have g2:¬(q:Int)<0:=by omega
      have hbs:=HBE.out.size;clear hnt HNT HNX;go_wp2_with (at_builtin;refine wpList_append_lies _ rfl _ _ 43 rfl w.heap.size 106 j0 (.slice none 0 0) 1 24 (by kernel_rfl) hj hy0 hy1 hy2 rfl (by decide) u5 qs.length (qs.map (·.1)) rfl (hown.alloc _) ⟨wr.heap.size,0,none⟩ 1 1 [.slice (some ⟨ab,q*2,none⟩) n (vcap-q)] rfl rfl (World.news_of_block (heap_alloc_new wr _)) (fun u hu=>by rw [List.mem_singleton] at hu;subst hu;rfl) (by decide) (by unfold maxLen;have:=HQL.out;omega) (by have:=HQL.out;omega) (by simp;omega) (wr.heap.size+1) (by simp) ?_);intro g cap' w5 hown5 hgrow5 hat5 hlt5;have HN:=hide (zij HGM.out HD.out hown5 hgrow5);have HB5:=hide (HBE.out.trans (zw hown HBE.out.size hgrow5));clear hown hown5 hgrow5 hat5 hlt5 HGM HD;go_wp2;go_roundw
      case rel=>exact⟨k+1,_,by omega,by go_num,HN,HQ',HQL',HB5⟩
      case measure=>simp [intOf];omega
  ·obtain rfl:k=ts.length:=by omega
   have HR:Hid (MatQ wr u5 (behindL f ts) N):=by
    have:=HGM.out.mat;rw [HQ.out,List.take_length] at this;exact this
   clear HGM HQ;go_wp2;go_ret;exact⟨_,rfl,HR.out,HBE.out⟩
theorem zgE (n j k:Nat)(hk:k<n):(unitL n j).take (k+1)=(unitL n j).take k++[if k=j then (1:Int) else 0]:=by
 rw [List.take_succ_eq_append_getElem (by rw [zx];exact hk)];congr 2;simp [unitL]
theorem zgC (ms:List (List Int))(n j:Nat)(hj:j<n):(tracedL ms n).take (j+1)=(tracedL ms n).take j++[(ms.map fun r=>r.getD j 0)++unitL n j]:=by
 rw [List.take_succ_eq_append_getElem (by rw [zJ];exact hj)];congr 2;simp [tracedL]
def KerRPost (w:World)(n a0:Nat)(ms:List (List Int))(e:Ending)(w':World):Prop:=
 ∃ u ts p,e=.returned u∧MatQ w' u (behindL ms.length ts) (eB (dT a0 (n+min n (ms.length+n))+7) (ms.length+n))∧FormL (ms.length+n) ts p∧Alikes (ms.length+n) (InL ts) (InL (tracedL ms n))∧Below w.heap.size w w'
theorem ziH (w:World)(v:Value)(ms:List (List Int))(n a0:Nat)(hv:MatR w v ms a0)(hr:∀ us∈ms,us.length=n)(hn1:1≤n)(hn:n≤8)(hm:ms.length≤12)(ha:5≤a0)(hB:dT a0 (n+min n (ms.length+n)+1)≤1000000000):
  Calls Tryz.prog 28 #[v,.int .i64 (n:Int)] w fun e w'=>KerRPost w n a0 ms e w':=by
 obtain⟨i0,hi,hz0,hz1,hz2⟩:=info_parts Tryz.infoRNum;obtain⟨j0,hj,hy0,hy1,hy2⟩:=info_parts Tryz.infoRRow;have HV:=hide hv;have HR:=hide hr;have HDB:=hide hB;obtain⟨ao,cap,rfl,-,-⟩:=hv;clear hr hB;go_enter Tryz.func28,Tryz.ntmps28;go_wp2;go_loopw [5,6] (fun out i wr=>∃(k:Nat) (qs:List (Value × List Int)),k≤n∧i=.int .i64 k∧Hid (GrowM wr w.heap.size out qs a0)∧Hid (qs.map (·.2)=(tracedL ms n).take k)∧Hid (Below w.heap.size w wr)) (fun _ i _=>n-(intOf i).toNat)
 case atStart=>exact⟨0,[],Nat.zero_le _,rfl,hide ⟨World.ownsRow_nil _ _ _ _,fun _ h=>by cases h⟩,hide (by simp),hide (zB _ _)⟩
 case round=>
  obtain⟨k,qs,hk,rfl,HGM,HQ,HBE⟩:=hrel;have HQL:Hid (qs.length=k):=by
   have:=congrArg List.length HQ.out;rw [zM,List.length_take,zJ] at this;show qs.length=k;omega
  by_cases hkl:k<n
  ·have HTT:=hide (zgC ms n k hkl);go_wp2;obtain⟨wo,rfl⟩:∃ wo:World,wo=wr:=⟨_,rfl⟩;go_loopw [7,8] (fun r i wr=>∃(q:Nat) (ps:List (Rn × Int)),q≤ms.length∧i=.int .i64 q∧Hid (GrowR wr wo.heap.size r ps a0)∧Hid (ps.map (·.2)=(ms.take q).map fun r=>r.getD k 0)∧Hid (Below wo.heap.size wo wr)) (fun _ i _=>ms.length-(intOf i).toNat)
   case atStart=>exact⟨0,[],Nat.zero_le _,rfl,hide (GrowR.nil _ _ _),hide (by simp),hide (zB _ _)⟩
   case round=>
    obtain⟨q,ps,hq,rfl,HGR,HP,HBI⟩:=hrel;have HPL:Hid (ps.length=q):=by
     have:=congrArg List.length HP.out;rw [zM,zM,List.length_take] at this;show ps.length=q;omega
    by_cases hql:q<ms.length
    ·obtain⟨_,_,e,-,hc⟩:=HV.out;simp only [zV,true_and] at e;obtain⟨rfl,rfl⟩:=e;obtain⟨mb,rfl,hmlt,hc⟩:=hc (by omega);obtain⟨u,cu0,hu⟩:=hc q ms[q] (by simp [hql]);clear hc;have hbw:Below w.heap.size w wr:=HBE.out.trans (HBI.out.mono HBE.out.size);have cu:=(hbw.cell (p:=⟨mb,q,none⟩) hmlt).trans cu0;have hul:=HR.out _ (List.getElem_mem hql);have HP':Hid (∀ r:Rn,(ps++[(r,ms[q].getD k 0)]).map (·.2)=(ms.take (q+1)).map fun r=>r.getD k 0):=fun r=>by
      rw [List.map_append,HP.out,List.take_succ_eq_append_getElem hql,List.map_append];rfl
     have hu2:=hu.below hbw zL;clear hu cu0;generalize ms[q]=zs at *;obtain⟨ab,acap,e,la,rs,ro,rl,rc,a0',a1',na⟩:=hu2.at k (by omega);subst e;rw [hul] at cu;have NA:Hid (NumR wr (Rn.val ⟨rs,ro,rl,rc⟩) (zs.getD k 0) a0):=na;have hown:=HGR.out.1;have hbs:=HBI.out.size;clear na hu2 hbw;generalize zs.getD k 0=z at *;go_wp2_with (at_builtin;refine wpList_append_lies _ rfl _ _ 106 rfl wo.heap.size 40 i0 (.agg #[.int .i64 0,.slice none 0 0]) 2 32 (by kernel_rfl) hi hz0 hz1 hz2 rfl (by decide) u7 ps.length (ps.flatMap rcells) rfl (hown.alloc _) ⟨wr.heap.size,0,none⟩ 1 1 [.int .i64 rs,.slice ro rl rc] rfl rfl (World.news_of_block (heap_alloc_new wr _)) (fun u hu=>by simp only [List.mem_cons,List.mem_nil_iff,or_false] at hu;rcases hu with rfl | rfl <;> rfl) (by decide) (by unfold maxLen;have:=HPL.out;omega) (by have:=HPL.out;omega) (by simp;omega) (wr.heap.size+1) (by simp) ?_);intro g cap' w5 hown5 hgrow5 hat5 hlt5;have HN:=hide (zai HGR.out NA.out hown5 hgrow5);have HB5:=hide (HBI.out.trans (zw hown HBI.out.size hgrow5));have HP5:=hide (HP'.out ⟨rs,ro,rl,rc⟩);clear hown hown5 hgrow5 hat5 hlt5 HGR NA HBI HP' HP cu a0' a1';go_wp2;go_roundw
     case rel=>exact⟨q+1,_,by omega,by go_num,HN,HP5,HB5⟩
     case measure=>simp [intOf];omega
    ·obtain rfl:q=ms.length:=by omega
     rw [List.take_length] at HP;have HP0:Hid (ps.map (·.2)=(ms.map fun r=>r.getD k 0) ++(unitL n k).take 0):=by
      show _=_;rw [HP.out,List.take_zero,List.append_nil]
     clear HP HPL;go_wp2;go_loopw [7,9] (fun r i wr=>∃(q:Nat) (ps:List (Rn × Int)),q≤n∧i=.int .i64 q∧Hid (GrowR wr wo.heap.size r ps a0)∧Hid (ps.map (·.2)=(ms.map fun r=>r.getD k 0) ++(unitL n k).take q)∧Hid (Below wo.heap.size wo wr)) (fun _ i _=>n-(intOf i).toNat)
     case atStart=>exact⟨0,ps,Nat.zero_le _,rfl,HGR,HP0,HBI⟩
     case round=>
      clear HGR HP0 HBI ps;obtain⟨q,ps,hq,rfl,HGR,HP,HBI⟩:=hrel;have HPL:Hid (ps.length=ms.length+q):=by
       have:=congrArg List.length HP.out;rw [zM,List.length_append,zM,List.length_take,zx] at this;show ps.length=ms.length+q;omega
      by_cases hql:q<n
      ·have HP':Hid (∀(r:Rn) (z:Int),z=(if q=k then 1 else 0)→(ps++[(r,z)]).map (·.2)=(ms.map fun r=>r.getD k 0) ++(unitL n k).take (q+1)):=fun r z hz=>by
        rw [List.map_append,HP.out,zgE n k q hql,← hz,List.append_assoc];rfl
       by_cases hqk:q=k
       ·have HP2:=hide (fun r=>HP'.out r 1 (by rw [if_pos hqk]));subst hqk;clear HP' HP;go_wp2_with fail;refine(zS wr 1 (by decide) (by decide)).mono ?_;rintro e w3 ⟨r,rfl,hr3,hb3⟩;obtain⟨rs,ro,rl,rc,rfl,-⟩:=hr3.form;have NA:Hid (NumR w3 (Rn.val ⟨rs,ro,rl,rc⟩) 1 a0):=hr3.mono ha;have HG3:=hide (HGR.out.later hb3);have HB3:=hide (HBI.out.trans (hb3.mono HBI.out.size));have hown:=HG3.out.1;have hbs:=HB3.out.size;clear hr3 hb3 HGR HBI;go_wp2_with (at_builtin;refine wpList_append_lies _ rfl _ _ 106 rfl wo.heap.size 40 i0 (.agg #[.int .i64 0,.slice none 0 0]) 2 32 (by kernel_rfl) hi hz0 hz1 hz2 rfl (by decide) u7 ps.length (ps.flatMap rcells) rfl (hown.alloc _) ⟨w3.heap.size,0,none⟩ 1 1 [.int .i64 rs,.slice ro rl rc] rfl rfl (World.news_of_block (heap_alloc_new w3 _)) (fun u hu=>by simp only [List.mem_cons,List.mem_nil_iff,or_false] at hu;rcases hu with rfl | rfl <;> rfl) (by decide) (by unfold maxLen;have:=HPL.out;omega) (by have:=HPL.out;omega) (by simp;omega) (w3.heap.size+1) (by simp) ?_);intro g cap' w5 hown5 hgrow5 hat5 hlt5;have HN:=hide (zai HG3.out NA.out hown5 hgrow5);have HB5:=hide (HB3.out.trans (zw hown HB3.out.size hgrow5));have HP5:=hide (HP2.out ⟨rs,ro,rl,rc⟩);clear hown hown5 hgrow5 hat5 hlt5 HG3 NA HB3 HP2;go_wp2;go_roundw
        case rel=>exact⟨q+1,_,by omega,by go_num,HN,HP5,HB5⟩
        case measure=>simp [intOf];omega
       ·have hqk':((q:Int) ==(k:Int))=false:=beq_eq_false_iff_ne.2 (by omega);have HP2:=hide (HP'.out ⟨0,none,0,0⟩ 0 (by rw [if_neg hqk]));have NA:Hid (NumR wr (Rn.val ⟨0,none,0,0⟩) 0 a0):=NumR.nought wr a0;have hown:=HGR.out.1;have hbs:=HBI.out.size;clear HP' HP;go_wp2_with (at_builtin;refine wpList_append_lies _ rfl _ _ 106 rfl wo.heap.size 40 i0 (.agg #[.int .i64 0,.slice none 0 0]) 2 32 (by kernel_rfl) hi hz0 hz1 hz2 rfl (by decide) u7 ps.length (ps.flatMap rcells) rfl (hown.alloc _) ⟨wr.heap.size,0,none⟩ 1 1 [.int .i64 0,.slice none 0 0] rfl rfl (World.news_of_block (heap_alloc_new wr _)) (fun u hu=>by simp only [List.mem_cons,List.mem_nil_iff,or_false] at hu;rcases hu with rfl | rfl <;> rfl) (by decide) (by unfold maxLen;have:=HPL.out;omega) (by have:=HPL.out;omega) (by simp;omega) (wr.heap.size+1) (by simp) ?_);intro g cap' w5 hown5 hgrow5 hat5 hlt5;have HN:=hide (zai HGR.out NA.out hown5 hgrow5);have HB5:=hide (HBI.out.trans (zw hown HBI.out.size hgrow5));clear hown hown5 hgrow5 hat5 hlt5 HGR NA HBI;go_wp2;go_roundw
        case rel=>exact⟨q+1,_,by omega,by go_num,HN,HP2,HB5⟩
        case measure=>simp [intOf];omega
      ·obtain rfl:q=n:=by omega
       have HRR:Hid (RowR wr u7 ((ms.map fun r=>r.getD k 0)++unitL q k) a0):=by
        have:=HGR.out.row;rw [HP.out,List.take_of_length_le (by rw [zx];exact Nat.le_refl _)] at this;exact this
       have HG2:=hide (HGM.out.later HBI.out);have HB2:=hide (HBE.out.trans (HBI.out.mono HBE.out.size));have HQ':Hid (∀ r:Value,(qs++[(r,(ms.map fun r=>r.getD k 0)++unitL q k)]).map (·.2)=(tracedL ms q).take (k+1)):=fun r=>by
        rw [List.map_append,HQ.out,HTT.out];rfl
       obtain⟨so,sl,sc,rfl⟩:∃ so sl sc,u7=.slice so sl sc:=by
        obtain⟨so,sc,e,-⟩:=HRR.out;exact⟨_,_,_,e⟩
       have hown:=HG2.out.1;have hbs:=HB2.out.size;clear HGR HP HPL;go_wp2_with (at_builtin;refine wpList_append_lies _ rfl _ _ 43 rfl w.heap.size 106 j0 (.slice none 0 0) 1 24 (by kernel_rfl) hj hy0 hy1 hy2 rfl (by decide) u5 qs.length (qs.map (·.1)) rfl (hown.alloc _) ⟨wr.heap.size,0,none⟩ 1 1 [.slice so sl sc] rfl rfl (World.news_of_block (heap_alloc_new wr _)) (fun u hu=>by rw [List.mem_singleton] at hu;subst hu;rfl) (by decide) (by unfold maxLen;have:=HQL.out;omega) (by have:=HQL.out;omega) (by simp;omega) (wr.heap.size+1) (by simp) ?_);intro g cap' w5 hown5 hgrow5 hat5 hlt5;have HN:=hide (zaY HG2.out HRR.out hown5 hgrow5);have HB5:=hide (HB2.out.trans (zw hown HB2.out.size hgrow5));have HQ5:=hide (HQ'.out (.slice so sl sc));clear hown hown5 hgrow5 hat5 hlt5 HG2 HRR HB2 HQ' HQ;go_wp2;go_roundw
       case rel=>exact⟨k+1,_,by omega,by go_num,HN,HQ5,HB5⟩
       case measure=>simp [intOf];omega
  ·obtain rfl:k=n:=by omega
   have HW:Hid (MatR wr u5 (tracedL ms k) a0):=by
    have:=HGM.out.mat;rw [HQ.out,List.take_of_length_le (by rw [zJ];exact Nat.le_refl _)] at this;exact this
   clear HGM HQ;obtain⟨uo,ul,uc,rfl⟩:∃ uo ul uc,u5=.slice uo ul uc:=by
    obtain⟨so,sc,e,-⟩:=HW.out;exact⟨_,_,_,e⟩
   go_wp2_with fail;rw [show((ms.length:Int)+(k:Int))=((ms.length+k:Nat):Int) by omega];refine(zdJ wr _ (tracedL ms k) (ms.length+k) a0 HW.out (zbH ms k) (by omega) (by omega) (by rw [zJ];omega) (by rw [zJ];exact HDB.out)).mono ?_;rintro e w6 ⟨u6,fs,p6,rfl,g1,g2,g3,g4,g5⟩;rw [zJ] at g1;have HG1:=hide g1;have HF:=hide g3;have HA:=hide g4;have HB6:=hide (HBE.out.trans (g5.mono HBE.out.size));have hfl:fs.length≤100:=by omega
   clear g1 g2 g3 g4 g5 HW;go_wp2_with fail;refine(zdm w6 _ ms.length k _ fs HG1.out HF.out hn1 (by omega) hfl).mono ?_;rintro e w7 ⟨u7',rfl,k1,k2⟩;have HP:=hide (show KerRPost w k a0 ms (.returned u7') w7 from⟨_,fs,p6,rfl,k1,HF.out,HA.out,HB6.out.trans (k2.mono HB6.out.size)⟩);clear k1 k2 HB6 HG1 HF HA;go_wp2;go_ret;exact HP.out
theorem ziG (w:World)(v:Value)(ms:List (List Int))(n a0:Nat)(hv:MatQ w v ms a0)(hr:∀ us∈ms,us.length=n)(hn1:1≤n)(hn:n≤8)(hm:ms.length≤12)(ha:5≤a0)(hB:dT a0 (n+min n (ms.length+n)+1)≤1000000000):
  Calls Tryz.prog 28 #[v,.int .i64 (n:Int)] w fun e w'=>KerRPost w n a0 ms e w':=by
 obtain⟨i0,hi,hz0,hz1,hz2⟩:=info_parts Tryz.infoRNum;obtain⟨j0,hj,hy0,hy1,hy2⟩:=info_parts Tryz.infoRRow;have HV:=hide hv;have HR:=hide hr;have HDB:=hide hB;obtain⟨ao,cap,rfl,-,-⟩:=hv;clear hr hB;go_enter Tryz.func28,Tryz.ntmps28;go_wp2;go_loopw [5,6] (fun out i wr=>∃(k:Nat) (qs:List (Value × List Int)),k≤n∧i=.int .i64 k∧Hid (GrowM wr w.heap.size out qs a0)∧Hid (qs.map (·.2)=(tracedL ms n).take k)∧Hid (Below w.heap.size w wr)) (fun _ i _=>n-(intOf i).toNat)
 case atStart=>exact⟨0,[],Nat.zero_le _,rfl,hide ⟨World.ownsRow_nil _ _ _ _,fun _ h=>by cases h⟩,hide (by simp),hide (zB _ _)⟩
 case round=>
  obtain⟨k,qs,hk,rfl,HGM,HQ,HBE⟩:=hrel;have HQL:Hid (qs.length=k):=by
   have:=congrArg List.length HQ.out;rw [zM,List.length_take,zJ] at this;show qs.length=k;omega
  by_cases hkl:k<n
  ·have HTT:=hide (zgC ms n k hkl);go_wp2;obtain⟨wo,rfl⟩:∃ wo:World,wo=wr:=⟨_,rfl⟩;go_loopw [7,8] (fun r i wr=>∃(q:Nat) (ps:List (Rn × Int)),q≤ms.length∧i=.int .i64 q∧Hid (GrowR wr wo.heap.size r ps a0)∧Hid (ps.map (·.2)=(ms.take q).map fun r=>r.getD k 0)∧Hid (Below wo.heap.size wo wr)) (fun _ i _=>ms.length-(intOf i).toNat)
   case atStart=>exact⟨0,[],Nat.zero_le _,rfl,hide (GrowR.nil _ _ _),hide (by simp),hide (zB _ _)⟩
   case round=>
    obtain⟨q,ps,hq,rfl,HGR,HP,HBI⟩:=hrel;have HPL:Hid (ps.length=q):=by
     have:=congrArg List.length HP.out;rw [zM,zM,List.length_take] at this;show ps.length=q;omega
    by_cases hql:q<ms.length
    ·obtain⟨_,_,e,-,hc⟩:=HV.out;simp only [zV,true_and] at e;obtain⟨rfl,rfl⟩:=e;obtain⟨mb,rfl,hmlt,hc⟩:=hc (by omega);obtain⟨u,cu0,hu⟩:=hc q ms[q] (by simp [hql]);clear hc;have hbw:Below w.heap.size w wr:=HBE.out.trans (HBI.out.mono HBE.out.size);have cu:=(hbw.cell (p:=⟨mb,q,none⟩) hmlt).trans cu0;have hul:=HR.out _ (List.getElem_mem hql);have HP':Hid (∀ r:Rn,(ps++[(r,ms[q].getD k 0)]).map (·.2)=(ms.take (q+1)).map fun r=>r.getD k 0):=fun r=>by
      rw [List.map_append,HP.out,List.take_succ_eq_append_getElem hql,List.map_append];rfl
     have hu2:=hu.below hbw zL;clear hu cu0;generalize ms[q]=zs at *;obtain⟨ab,aoff,acap,e,la,rs,ro,rl,rc,a0',a1',na⟩:=hu2.at k (by omega);subst e;rw [hul] at cu;have NA:Hid (NumR wr (Rn.val ⟨rs,ro,rl,rc⟩) (zs.getD k 0) a0):=na;have hown:=HGR.out.1;have hbs:=HBI.out.size;clear na hu2 hbw;generalize zs.getD k 0=z at *;go_wp2_with (at_builtin;refine wpList_append_lies _ rfl _ _ 106 rfl wo.heap.size 40 i0 (.agg #[.int .i64 0,.slice none 0 0]) 2 32 (by kernel_rfl) hi hz0 hz1 hz2 rfl (by decide) u7 ps.length (ps.flatMap rcells) rfl (hown.alloc _) ⟨wr.heap.size,0,none⟩ 1 1 [.int .i64 rs,.slice ro rl rc] rfl rfl (World.news_of_block (heap_alloc_new wr _)) (fun u hu=>by simp only [List.mem_cons,List.mem_nil_iff,or_false] at hu;rcases hu with rfl | rfl <;> rfl) (by decide) (by unfold maxLen;have:=HPL.out;omega) (by have:=HPL.out;omega) (by simp;omega) (wr.heap.size+1) (by simp) ?_);intro g cap' w5 hown5 hgrow5 hat5 hlt5;have HN:=hide (zai HGR.out NA.out hown5 hgrow5);have HB5:=hide (HBI.out.trans (zw hown HBI.out.size hgrow5));have HP5:=hide (HP'.out ⟨rs,ro,rl,rc⟩);clear hown hown5 hgrow5 hat5 hlt5 HGR NA HBI HP' HP cu a0' a1';go_wp2;go_roundw
     case rel=>exact⟨q+1,_,by omega,by go_num,HN,HP5,HB5⟩
     case measure=>simp [intOf];omega
    ·obtain rfl:q=ms.length:=by omega
     rw [List.take_length] at HP;have HP0:Hid (ps.map (·.2)=(ms.map fun r=>r.getD k 0) ++(unitL n k).take 0):=by
      show _=_;rw [HP.out,List.take_zero,List.append_nil]
     clear HP HPL;go_wp2;go_loopw [7,9] (fun r i wr=>∃(q:Nat) (ps:List (Rn × Int)),q≤n∧i=.int .i64 q∧Hid (GrowR wr wo.heap.size r ps a0)∧Hid (ps.map (·.2)=(ms.map fun r=>r.getD k 0) ++(unitL n k).take q)∧Hid (Below wo.heap.size wo wr)) (fun _ i _=>n-(intOf i).toNat)
     case atStart=>exact⟨0,ps,Nat.zero_le _,rfl,HGR,HP0,HBI⟩
     case round=>
      clear HGR HP0 HBI ps;obtain⟨q,ps,hq,rfl,HGR,HP,HBI⟩:=hrel;have HPL:Hid (ps.length=ms.length+q):=by
       have:=congrArg List.length HP.out;rw [zM,List.length_append,zM,List.length_take,zx] at this;show ps.length=ms.length+q;omega
      by_cases hql:q<n
      ·have HP':Hid (∀(r:Rn) (z:Int),z=(if q=k then 1 else 0)→(ps++[(r,z)]).map (·.2)=(ms.map fun r=>r.getD k 0) ++(unitL n k).take (q+1)):=fun r z hz=>by
        rw [List.map_append,HP.out,zgE n k q hql,← hz,List.append_assoc];rfl
       by_cases hqk:q=k
       ·have HP2:=hide (fun r=>HP'.out r 1 (by rw [if_pos hqk]));subst hqk;clear HP' HP;go_wp2_with fail;refine(zS wr 1 (by decide) (by decide)).mono ?_;rintro e w3 ⟨r,rfl,hr3,hb3⟩;obtain⟨rs,ro,rl,rc,rfl,-⟩:=hr3.form;have NA:Hid (NumR w3 (Rn.val ⟨rs,ro,rl,rc⟩) 1 a0):=hr3.mono ha;have HG3:=hide (HGR.out.later hb3);have HB3:=hide (HBI.out.trans (hb3.mono HBI.out.size));have hown:=HG3.out.1;have hbs:=HB3.out.size;clear hr3 hb3 HGR HBI;go_wp2_with (at_builtin;refine wpList_append_lies _ rfl _ _ 106 rfl wo.heap.size 40 i0 (.agg #[.int .i64 0,.slice none 0 0]) 2 32 (by kernel_rfl) hi hz0 hz1 hz2 rfl (by decide) u7 ps.length (ps.flatMap rcells) rfl (hown.alloc _) ⟨w3.heap.size,0,none⟩ 1 1 [.int .i64 rs,.slice ro rl rc] rfl rfl (World.news_of_block (heap_alloc_new w3 _)) (fun u hu=>by simp only [List.mem_cons,List.mem_nil_iff,or_false] at hu;rcases hu with rfl | rfl <;> rfl) (by decide) (by unfold maxLen;have:=HPL.out;omega) (by have:=HPL.out;omega) (by simp;omega) (w3.heap.size+1) (by simp) ?_);intro g cap' w5 hown5 hgrow5 hat5 hlt5;have HN:=hide (zai HG3.out NA.out hown5 hgrow5);have HB5:=hide (HB3.out.trans (zw hown HB3.out.size hgrow5));have HP5:=hide (HP2.out ⟨rs,ro,rl,rc⟩);clear hown hown5 hgrow5 hat5 hlt5 HG3 NA HB3 HP2;go_wp2;go_roundw
        case rel=>exact⟨q+1,_,by omega,by go_num,HN,HP5,HB5⟩
        case measure=>simp [intOf];omega
       ·have hqk':((q:Int) ==(k:Int))=false:=beq_eq_false_iff_ne.2 (by omega);have HP2:=hide (HP'.out ⟨0,none,0,0⟩ 0 (by rw [if_neg hqk]));have NA:Hid (NumR wr (Rn.val ⟨0,none,0,0⟩) 0 a0):=NumR.nought wr a0;have hown:=HGR.out.1;have hbs:=HBI.out.size;clear HP' HP;go_wp2_with (at_builtin;refine wpList_append_lies _ rfl _ _ 106 rfl wo.heap.size 40 i0 (.agg #[.int .i64 0,.slice none 0 0]) 2 32 (by kernel_rfl) hi hz0 hz1 hz2 rfl (by decide) u7 ps.length (ps.flatMap rcells) rfl (hown.alloc _) ⟨wr.heap.size,0,none⟩ 1 1 [.int .i64 0,.slice none 0 0] rfl rfl (World.news_of_block (heap_alloc_new wr _)) (fun u hu=>by simp only [List.mem_cons,List.mem_nil_iff,or_false] at hu;rcases hu with rfl | rfl <;> rfl) (by decide) (by unfold maxLen;have:=HPL.out;omega) (by have:=HPL.out;omega) (by simp;omega) (wr.heap.size+1) (by simp) ?_);intro g cap' w5 hown5 hgrow5 hat5 hlt5;have HN:=hide (zai HGR.out NA.out hown5 hgrow5);have HB5:=hide (HBI.out.trans (zw hown HBI.out.size hgrow5));clear hown hown5 hgrow5 hat5 hlt5 HGR NA HBI;go_wp2;go_roundw
        case rel=>exact⟨q+1,_,by omega,by go_num,HN,HP2,HB5⟩
        case measure=>simp [intOf];omega
      ·obtain rfl:q=n:=by omega
       have HRR:Hid (RowR wr u7 ((ms.map fun r=>r.getD k 0)++unitL q k) a0):=by
        have:=HGR.out.row;rw [HP.out,List.take_of_length_le (by rw [zx];exact Nat.le_refl _)] at this;exact this
       have HG2:=hide (HGM.out.later HBI.out);have HB2:=hide (HBE.out.trans (HBI.out.mono HBE.out.size));have HQ':Hid (∀ r:Value,(qs++[(r,(ms.map fun r=>r.getD k 0)++unitL q k)]).map (·.2)=(tracedL ms q).take (k+1)):=fun r=>by
        rw [List.map_append,HQ.out,HTT.out];rfl
       obtain⟨so,sl,sc,rfl⟩:∃ so sl sc,u7=.slice so sl sc:=by
        obtain⟨so,sc,e,-⟩:=HRR.out;exact⟨_,_,_,e⟩
       have hown:=HG2.out.1;have hbs:=HB2.out.size;clear HGR HP HPL;go_wp2_with (at_builtin;refine wpList_append_lies _ rfl _ _ 43 rfl w.heap.size 106 j0 (.slice none 0 0) 1 24 (by kernel_rfl) hj hy0 hy1 hy2 rfl (by decide) u5 qs.length (qs.map (·.1)) rfl (hown.alloc _) ⟨wr.heap.size,0,none⟩ 1 1 [.slice so sl sc] rfl rfl (World.news_of_block (heap_alloc_new wr _)) (fun u hu=>by rw [List.mem_singleton] at hu;subst hu;rfl) (by decide) (by unfold maxLen;have:=HQL.out;omega) (by have:=HQL.out;omega) (by simp;omega) (wr.heap.size+1) (by simp) ?_);intro g cap' w5 hown5 hgrow5 hat5 hlt5;have HN:=hide (zaY HG2.out HRR.out hown5 hgrow5);have HB5:=hide (HB2.out.trans (zw hown HB2.out.size hgrow5));have HQ5:=hide (HQ'.out (.slice so sl sc));clear hown hown5 hgrow5 hat5 hlt5 HG2 HRR HB2 HQ' HQ;go_wp2;go_roundw
       case rel=>exact⟨k+1,_,by omega,by go_num,HN,HQ5,HB5⟩
       case measure=>simp [intOf];omega
  ·obtain rfl:k=n:=by omega
   have HW:Hid (MatR wr u5 (tracedL ms k) a0):=by
    have:=HGM.out.mat;rw [HQ.out,List.take_of_length_le (by rw [zJ];exact Nat.le_refl _)] at this;exact this
   clear HGM HQ;obtain⟨uo,ul,uc,rfl⟩:∃ uo ul uc,u5=.slice uo ul uc:=by
    obtain⟨so,sc,e,-⟩:=HW.out;exact⟨_,_,_,e⟩
   go_wp2_with fail;rw [show((ms.length:Int)+(k:Int))=((ms.length+k:Nat):Int) by omega];refine(zdJ wr _ (tracedL ms k) (ms.length+k) a0 HW.out (zbH ms k) (by omega) (by omega) (by rw [zJ];omega) (by rw [zJ];exact HDB.out)).mono ?_;rintro e w6 ⟨u6,fs,p6,rfl,g1,g2,g3,g4,g5⟩;rw [zJ] at g1;have HG1:=hide g1;have HF:=hide g3;have HA:=hide g4;have HB6:=hide (HBE.out.trans (g5.mono HBE.out.size));have hfl:fs.length≤100:=by omega
   clear g1 g2 g3 g4 g5 HW;go_wp2_with fail;refine(zdm w6 _ ms.length k _ fs HG1.out HF.out hn1 (by omega) hfl).mono ?_;rintro e w7 ⟨u7',rfl,k1,k2⟩;have HP:=hide (show KerRPost w k a0 ms (.returned u7') w7 from⟨_,fs,p6,rfl,k1,HF.out,HA.out,HB6.out.trans (k2.mono HB6.out.size)⟩);clear k1 k2 HB6 HG1 HF HA;go_wp2;go_ret;exact HP.out
end Go.Proofs.YtdedolkgcdlmeaaGreatDoor
