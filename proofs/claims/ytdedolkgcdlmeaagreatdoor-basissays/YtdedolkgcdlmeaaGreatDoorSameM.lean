import Derived.Test.YtdedolkgcdlmeaaGreatDoorStairR
import Derived.Test.YtdedolkgcdlmeaaGreatDoorLatF
set_option maxRecDepth 100000
set_option maxHeartbeats 1600000
namespace Go.Proofs.YtdedolkgcdlmeaaGreatDoor
open Go.RowKit Limbs
variable {n base k:Nat}{W W' wr w3:World}{v s:Value}{z:Int}{row:Option Nat}{zs:List Int}
def apart (og:Option Nat)(s:Value):Prop:=∀ a l c,s=.slice (some a) l c→0<l→some a.block≠og
theorem Lim.grown(h:Lim W s zs)(hg:W.grownBy W' row)(hne:apart row s):Lim W' s zs:=by
 obtain⟨ao,cap,rfl,h1,h2,h3,h4⟩:=h;refine⟨ao,cap,rfl,h1,h2,h3,fun h0=>?_⟩;obtain⟨b,off,rfl,hlt,hc⟩:=h4 h0;have hb:=hne _ _ _ rfl h0;exact⟨b,off,rfl,zT hlt hg.size,fun i hi=>hg.cell (hc i hi) hb⟩
def Nm.val (r:Nm):Value:=.agg #[.bool r.neg,.slice r.o r.l r.c]
def Nm.sl (r:Nm):Value:=.slice r.o r.l r.c
def ncells (p:Nm × Int):List Value:=[.bool p.1.neg,.slice p.1.o p.1.l p.1.c]
theorem NumL.grown{r:Nm}(h:NumL W r.val z n)(hg:W.grownBy W' row)(hne:apart row r.sl):NumL W' r.val z n:=by
 obtain⟨neg,s,zs,e,hl,h3⟩:=h;simp only [Nm.val,Value.agg.injEq,Array.mk.injEq,List.cons.injEq,Value.bool.injEq,and_true] at e;obtain⟨rfl,rfl⟩:=e;exact⟨_,_,zs,rfl,hl.grown hg hne,h3⟩
theorem NumL.inside{r:Nm}(h:NumL W r.val z n):∀ a l c,r.sl=.slice (some a) l c→0<l→a.block<W.heap.size:=fun a l c e h0=>by
 obtain⟨neg,s,zs,e1,hl,-⟩:=h;simp only [Nm.val,Value.agg.injEq,Array.mk.injEq,List.cons.injEq,Value.bool.injEq,and_true] at e1;obtain⟨rfl,rfl⟩:=e1;obtain⟨ao,cap,e2,-,-,-,h4⟩:=hl;unfold Nm.sl at e;rw [e] at e2;simp only [zV] at e2;obtain⟨rfl,rfl,rfl⟩:=e2;obtain⟨b,off,e3,hlt,-⟩:=h4 h0;simp only [Option.some.injEq] at e3;rw [e3];exact hlt
def Grow (W:World)(base:Nat)(v:Value)(ps:List (Nm × Int))(n:Nat):Prop:=
 W.ownsRow base 29 2 v ps.length (ps.flatMap ncells)∧∀ p∈ps,NumL W p.1.val p.2 n∧apart v.ownBlock p.1.sl
theorem Grow.nil (W:World)(base n:Nat):Grow W base (.slice none 0 0) [] n:=⟨World.ownsRow_nil _ _ _ _,fun _ h=>by cases h⟩
theorem Grow.later{ps:List (Nm × Int)}(h:Grow W base v ps n)(hb:Below W.heap.size W W'):Grow W' base v ps n:=by
 refine⟨?_,fun p hp=>⟨(h.2 p hp).1.below hb zL,(h.2 p hp).2⟩⟩;refine⟨h.1.1,?_⟩;rcases h.1.2 with hn |⟨g,cap,cur,e,hbg,hh,rest⟩
 ·exact .inl hn
 ·exact .inr ⟨g,cap,cur,e,hbg,(hb.block _ (zt hh)).trans hh,rest⟩
theorem Grow.fresh{W0:World}{ps:List (Nm × Int)}(h:Grow W base v ps n)(hs:W.heap.size≤W0.heap.size)(hn:NewSl W0 s):apart v.ownBlock s:=fun a l c e _ hb=>by
 have h1:=hn a l c e;have h2:=(h.1.lt _ hb.symm).2;omega
theorem zfE{ps:List (Nm × Int)}{r:Nm}{g cap:Nat}{ob:Obj}(h:Grow wr base v ps n)(hz:NumL wr r.val z n)(ha:apart v.ownBlock r.sl)
  (hown:w3.ownsRow base 29 2 (.slice (some ⟨g,0,none⟩) (ps.length+1) cap) (ps.length+1) (ps.flatMap ncells++ncells (r,z)))
  (hg:(wr.alloc ob).grownBy w3 v.ownBlock) (hat:v.ownBlock=some g∨g=wr.heap.size+1):Grow w3 base (.slice (some ⟨g,0,none⟩) (ps.length+1) cap) (ps++[(r,z)]) n:=by
 refine⟨by rw [List.length_append,List.length_singleton,List.flatMap_append,List.flatMap_singleton];exact hown,fun p hp=>?_⟩;have key:∀ p:Nm × Int,NumL wr p.1.val p.2 n→apart v.ownBlock p.1.sl→NumL w3 p.1.val p.2 n∧apart (some g) p.1.sl:=fun p h1 h2=>by
  refine⟨(h1.below ((zB _ _).alloc zL ob) zL).grown hg h2,fun a l c e h0 hb=>?_⟩;rcases hat with h | h
  ·exact h2 a l c e h0 (hb.trans h.symm)
  ·have:=h1.inside a l c e h0;simp only [Option.some.injEq] at hb;omega
 rcases List.mem_append.1 hp with h' | h'
 ·exact key p (h.2 p h').1 (h.2 p h').2
 ·rw [List.mem_singleton] at h';rw [h'];exact key (r,z) hz ha
theorem zfD{ps:List (Nm × Int)}{ob:Obj}(h:Grow wr base v ps n)(hB:base≤wr.heap.size)(hg:(wr.alloc ob).grownBy w3 v.ownBlock):Below base wr w3:=
 ((zB _ _).alloc hB _).grown hg (by simp;omega) (fun k hk=>(h.1.lt k hk).1)
theorem zge (ps:List (Nm × Int)):∀ i (h:i<ps.length),(ps.flatMap ncells)[i*2]?=some (.bool ps[i].1.neg)∧(ps.flatMap ncells)[i*2+1]?=some (.slice ps[i].1.o ps[i].1.l ps[i].1.c):=by
 induction ps with
 | nil=>intro i h;exact absurd h (by simp)
 | cons p ps ih=>
  intro i h;rw [List.flatMap_cons];cases i with
  | zero=>exact⟨rfl,rfl⟩
  | succ i=>
   obtain⟨h1,h2⟩:=ih i (by simpa using h);have e1:(i+1)*2=i*2+2:=by omega
   rw [e1,show i*2+2+1=i*2+1+2 by omega,List.getElem?_append_right (by simp [ncells]),List.getElem?_append_right (by simp [ncells])];exact⟨h1,h2⟩
theorem Grow.vec{ps:List (Nm × Int)}(h:Grow W base v ps n):VecN W v (ps.map (·.2)) n:=by
 obtain⟨⟨-,h1⟩,h2⟩:=h;have hlen:(ps.map (·.2)).length=ps.length:=zM ..;rcases h1 with⟨rfl,hn⟩ |⟨g,cap,cur,rfl,hb,hh,hc1,hc2,hc3,hc4⟩
 ·exact⟨none,0,by rw [hlen,hn],by rw [hlen];omega,fun h0=>absurd h0 (by rw [hlen];omega)⟩
 ·refine⟨_,cap,by rw [hlen],by rw [hlen];exact hc1,fun h0=>⟨g,0,rfl,zt hh,fun i hi=>?_⟩⟩;rw [hlen] at hi;obtain⟨e1,e2⟩:=zge ps i hi;have hcell:∀ k u,k<ps.length*2→(ps.flatMap ncells)[k]?=some u→W.cell? ⟨g,0+k,none⟩=some u:=fun k u hk hu=>by
   have:=World.news_of_block hh k u (by rw [← hc4,List.getElem?_take,if_pos hk] at hu;exact hu);have e:(⟨g,0,none⟩:Addr).add k=⟨g,0+k,none⟩:=by unfold Addr.add;split <;> simp_all
   rwa [e] at this
  refine⟨ps[i].1.neg,ps[i].1.o,ps[i].1.l,ps[i].1.c,hcell _ _ (by omega) e1,hcell _ _ (by omega) e2,?_⟩;have e3:(ps.map (·.2)).getD i 0=ps[i].2:=by
   rw [zG,List.getElem?_map,List.getElem?_eq_getElem hi];rfl
  rw [e3];exact(h2 _ (List.getElem_mem hi)).1
open Digs
theorem zf8 (w:World)(v:Value)(zss:List (List Int))(n:Nat)(hv:MatR w v zss n)(hl:zss.length≤1000)(hr:∀ zs∈zss,zs.length≤1000)(hn6:n≤1000000):
  Calls Tryz.prog 73 #[v] w fun e w'=>∃ u,e=.returned u∧MatN w' u zss n∧Below w.heap.size w w':=by
 obtain⟨i0,hi,hz0,hz1,hz2⟩:=info_parts Tryz.infoNum;obtain⟨j0,hj,hy0,hy1,hy2⟩:=info_parts Tryz.infoVec;have HV:=hide hv;have HR:=hide hr;clear hr;obtain⟨ao,cap,rfl,-,-⟩:=hv;go_enter Tryz.func73,Tryz.ntmps73;go_wp2;go_loopw [3,4] (fun out i wr=>∃(k:Nat) (qs:List (Value × List Int)),k≤zss.length∧i=.int .i64 k∧Hid (GrowV wr w.heap.size out qs n)∧Hid (qs.map (·.2)=zss.take k)∧Hid (Below w.heap.size w wr)) (fun _ i _=>zss.length-(intOf i).toNat)
 case atStart=>exact⟨0,[],Nat.zero_le _,rfl,hide (GrowV.nil _ _ _),hide (by simp),hide (zB _ _)⟩
 case round=>
  obtain⟨k,qs,hk,rfl,HGV,HQ,HBE⟩:=hrel;have HQL:Hid (qs.length=k):=by
   have:=congrArg List.length HQ.out;rw [zM,List.length_take] at this;show qs.length=k;omega
  by_cases hkl:k<zss.length
  ·obtain⟨_,_,e,-,hc⟩:=HV.out.below HBE.out zL;simp only [zV,true_and] at e;obtain⟨rfl,rfl⟩:=e;obtain⟨b,rfl,hblt,hc⟩:=hc (by omega);obtain⟨u,cu,hu⟩:=hc k zss[k] (by simp [hkl]);have HU:=hide hu;have hzl:=HR.out _ (List.getElem_mem hkl);have HQ':Hid (∀ r:Value,(qs++[(r,zss[k])]).map (·.2)=zss.take (k+1)):=fun r=>by
    rw [List.map_append,HQ.out,List.take_succ_eq_append_getElem hkl];rfl
   clear hc;generalize zss[k]=zs at *;obtain⟨vo,vcap,rfl,-,-⟩:=hu;go_wp2;obtain⟨wo,rfl⟩:∃ wo:World,wo=wr:=⟨_,rfl⟩;go_loopw [5,6] (fun r i wr=>∃(q:Nat) (ps:List (Nm × Int)),q≤zs.length∧i=.int .i64 q∧Grow wr wo.heap.size r ps n∧Hid (ps.map (·.2)=zs.take q)∧Below wo.heap.size wo wr) (fun _ i _=>zs.length-(intOf i).toNat)
   case atStart=>exact⟨0,[],Nat.zero_le _,rfl,Grow.nil _ _ _,by show _=_;simp,zB _ _⟩
   case round=>
    obtain⟨q,ps,hq,rfl,hgr,HP,hbi⟩:=hrel;have HGR:=hide hgr;have HBI:=hide hbi;have HPL:Hid (ps.length=q):=by
     have:=congrArg List.length HP.out;rw [zM,List.length_take] at this;show ps.length=q;omega
    clear hgr hbi;have cu2:wr.cell? ⟨b,k,none⟩=some (.slice vo zs.length vcap):=(HBI.out.cell (p:=⟨b,k,none⟩) hblt).trans cu;by_cases hql:q<zs.length
    ·obtain⟨ab,_,e,la,rs,ro,rl,rc,a0,a1,na⟩:=(HU.out.below HBI.out zL).at q hql;simp only [zV,true_and] at e;obtain⟨rfl,rfl⟩:=e;have NA:=hide na;have HP':Hid (∀ r:Nm,(ps++[(r,zs.getD q 0)]).map (·.2)=zs.take (q+1)):=fun r=>by
      rw [List.map_append,HP.out,List.take_succ_eq_append_getElem hql,zG,List.getElem?_eq_getElem hql];rfl
     clear na;generalize zs.getD q 0=z at *;go_wp2_with fail;refine(zjW wr _ z n NA.out hn6).mono ?_;rintro e w3 ⟨⟨r,rfl,hr3,hb3⟩,hnew⟩;obtain⟨⟨rn,ro',rl',rc'⟩,rfl⟩:=hr3.nm;have HAP:Hid (apart u5.ownBlock (Nm.sl ⟨rn,ro',rl',rc'⟩)):=HGR.out.fresh zL (hnew _ _ rfl);have HG3:=hide (HGR.out.later hb3);have HB3:=hide (HBI.out.trans (hb3.mono HBI.out.size));have HR3:Hid (NumL w3 (Nm.val ⟨rn,ro',rl',rc'⟩) z n):=hr3;have hown:=HG3.out.1;clear hr3 hb3 hnew HGR HBI a0 a1 cu2 NA;go_wp2_with (at_builtin;refine wpList_append_lies _ rfl _ _ 72 rfl wo.heap.size 29 i0 (.agg #[.bool false,.slice none 0 0]) 2 32 (by kernel_rfl) hi hz0 hz1 hz2 rfl (by decide) u5 ps.length (ps.flatMap ncells) rfl (hown.alloc _) ⟨w3.heap.size,0,none⟩ 1 1 [.bool rn,.slice ro' rl' rc'] rfl rfl (World.news_of_block (heap_alloc_new w3 _)) (fun u hu=>by simp only [List.mem_cons,List.mem_nil_iff,or_false] at hu;rcases hu with rfl | rfl <;> rfl) (by decide) (by unfold maxLen;have:=HPL.out;omega) (by have:=HPL.out;omega) (by simp;have:=HB3.out.size;omega) (w3.heap.size+1) (by simp) ?_);intro g cap' w5 hown5 hgrow5 hat5 hlt5;have HN:=hide (zfE HG3.out HR3.out HAP.out hown5 hgrow5 hat5);have HB5:=hide (HB3.out.trans (zfD HG3.out HB3.out.size hgrow5));have HP5:=hide (HP'.out ⟨rn,ro',rl',rc'⟩);clear hown hown5 hgrow5 hat5 hlt5 HG3 HR3 HB3 HP' HP HAP;go_wp2;go_roundw
     case rel=>exact⟨q+1,_,by omega,by go_num,HN.out,HP5,HB5.out⟩
     case measure=>simp [intOf];omega
    ·obtain rfl:q=zs.length:=by omega
     have HRR:Hid (VecN wr u5 zs n):=by
      have:=HGR.out.vec;rw [HP.out,List.take_length] at this;exact this
     have HG3:=hide (HGV.out.later HBI.out);have HB3:=hide (HBE.out.trans (HBI.out.mono HBE.out.size));obtain⟨so,sl,sc,rfl⟩:∃ so sl sc,u5=.slice so sl sc:=by
      obtain⟨so,sc,e,-⟩:=HRR.out;exact⟨_,_,_,e⟩
     have hown:=HG3.out.own;have hall:=HG3.out.all.later ((zB _ _).alloc zL (.cells #[.slice so sl sc] 72));have hbs:=HB3.out.size;clear HGR HP HPL;go_wp2_with (at_builtin;refine zey rfl _ _ 23 rfl w.heap.size 72 j0 24 (by kernel_rfl) hj hy0 hy1 hy2 u3 qs.length (qs.map (·.1)) rfl (hown.alloc _) hall ⟨wr.heap.size,0,none⟩ 1 so sl sc rfl (World.news_of_block (heap_alloc_new wr _)) (by unfold maxLen;have:=HQL.out;omega) (by have:=HQL.out;omega) (by simp;omega) ?_);intro g cap' w5 hown5 hgrow5 hall5;have HG5:=hide (zdO (HG3.out.later ((zB _ _).alloc zL _)) (HRR.out.below ((zB _ _).alloc zL _) zL) hown5 hgrow5 hall5);have HB5:=hide ((HB3.out.alloc HB3.out.size _).trans (zdP (HG3.out.later ((zB _ _).alloc zL _)) (by simp;omega) hgrow5));have HQ5:=hide (HQ'.out (.slice so sl sc));clear hown hall hown5 hgrow5 hall5 HG3 HRR HB3 HQ' cu2;go_wp2;go_roundw
     case rel=>exact⟨k+1,_,by omega,by go_num,HG5,HQ5,HB5⟩
     case measure=>simp [intOf];omega
  ·obtain rfl:k=zss.length:=by omega
   have HF:Hid (MatN wr u3 zss n):=by
    have:=HGV.out.mat;rw [HQ.out,List.take_length] at this;exact this
   clear HGV HQ;go_wp2;go_ret;exact⟨_,rfl,HF.out,HBE.out⟩
def faultV (rs:List Raw):Int:=if rs.length<1∨8<rs.length then 6 else faulty (rs.all Raw.num)
theorem zhw (w:World)(v:Value)(rs:List Raw)(hv:VecL w v rs)(hmx:rs.length≤1000000):
  Calls Tryz.prog 40 #[v] w fun e w'=>e=.returned (.int .i64 (faultV rs))∧Below w.heap.size w w':=by
 have HV:=hide hv;obtain⟨ao,cap,rfl,-,hc⟩:=hv;by_cases h1:rs.length<1
 ·have e:faultV rs=6:=if_pos (.inl h1);rw [e];have hl:(rs.length:Int)<1:=by omega
  have hld:decide ((rs.length:Int)<1)=true:=decide_eq_true hl;clear hc e;go_enter Tryz.func40,Tryz.ntmps40;go_wp2;go_ret;exact⟨rfl,zB _ _⟩
 ·have hl:¬((rs.length:Int)<1):=by omega
  have hld:decide ((rs.length:Int)<1)=false:=decide_eq_false hl;by_cases h2:8<rs.length
  ·have e:faultV rs=6:=if_pos (.inr h2);rw [e];have hl2:(8:Int)<(rs.length:Int):=by omega
   have hld2:decide ((8:Int)<(rs.length:Int))=true:=decide_eq_true hl2;clear hc e;go_enter Tryz.func40,Tryz.ntmps40;go_wp2;go_ret;exact⟨rfl,zB _ _⟩
  ·have e:faultV rs=faulty (rs.all Raw.num):=if_neg (by omega);rw [e];have hl2:¬((8:Int)<(rs.length:Int)):=by omega
   have hld2:decide ((8:Int)<(rs.length:Int))=false:=decide_eq_false hl2;obtain⟨b,off,rfl,hlt,-⟩:=hc (by omega);clear e;generalize hall:rs.all Raw.num=al;have HALL:Hid (rs.all Raw.num=al):=hall;clear hall;go_enter Tryz.func40,Tryz.ntmps40;go_wp2;go_loopw [3] (fun i wr=>∃ k:Nat,k≤rs.length∧i=.int .i64 k∧Hid ((rs.take k).all Raw.num=true)∧Below w.heap.size w wr) (fun i _=>rs.length-(intOf i).toNat)
   case atStart=>exact⟨0,Nat.zero_le _,rfl,by show _=_;simp,zB _ _⟩
   case round=>
    obtain⟨k,hk,rfl,HG,hbe⟩:=hrel;by_cases hkl:k<rs.length
    ·obtain⟨_,_,e,-,hc⟩:=HV.out.below hbe zL;simp only [zV,true_and] at e;obtain⟨rfl,rfl⟩:=e;obtain⟨_,_,e,hb2,hc⟩:=hc (by omega);simp only [Option.some.injEq,Addr.mk.injEq,and_true] at e;obtain⟨rfl,rfl⟩:=e;obtain⟨c0,c1,hL⟩:=hc k rs[k] (by simp [hkl]);clear hc;have HT:Hid ((rs.take (k+1)).all Raw.num=rs[k].num):=by
      show _=_;rw [List.take_succ_eq_append_getElem hkl,List.all_append,HG.out];simp
     have HE:Hid (rs[k].num=false→al=false):=fun h=>by
      rw [← HALL.out,List.all_eq_false];exact⟨rs[k],List.getElem_mem hkl,by simp [h]⟩
     generalize rs[k]=r at *;obtain⟨rn,rsl,rz⟩:=r;have HL:=hide hL;have HBE:=hide hbe;obtain⟨ro,rcap,e,-⟩:=hL;simp only at e c0 c1;subst e;clear hbe;go_wp2_with fail;refine(zjV _ _ _ _ HL.out).mono ?_;rintro e w1 ⟨rfl,hb1⟩;have HB1:=hide (HBE.out.trans (hb1.mono HBE.out.size));clear hb1;cases hn:isNum rn rz
     ·obtain rfl:=HE.out hn;have e:faulty false=3:=rfl;rw [e];clear HT HE e;go_wp2;go_ret;exact⟨rfl,HB1.out⟩
     ·have e:faulty true=0:=rfl;rw [e];have HG':=hide (HT.out.trans hn);clear HT HE HG e;go_wp2;go_roundw
      case rel=>exact⟨k+1,by omega,by go_num,HG',HB1.out⟩
      case measure=>simp [intOf];omega
    ·obtain rfl:k=rs.length:=by omega
     obtain rfl:al=true:=by have:=HG.out;rw [List.take_length,HALL.out] at this;exact this
     have HBE:=hide hbe;clear hbe HG HALL;go_wp2;go_ret;exact⟨rfl,HBE.out⟩
theorem Tryz.asErrno (v:Value)(w:World):(Instr.typeAssert (.iface 102 v) 31 102 true).run Tryz.prog w=.ok (.tuple #[v,.bool true]) w:=by kernel_rfl
theorem zlx (n f:Int)(w:World):
  Calls Tryz.prog 13 #[.iface 102 (.int .i64 n),.int .i64 f] w fun e w'=>e=.returned (.bool (decide (0<f) && n==f))∧w'=w:=by
 have has:=Tryz.asErrno;by_cases h1:0<f
 ·have e1:decide (0<f)=true:=decide_eq_true h1;go_enter Tryz.func13,Tryz.ntmps13;go_wp2;go_ret;exact⟨zgM (by simp [e1]),rfl⟩
 ·have e1:decide (0<f)=false:=decide_eq_false h1;go_enter Tryz.func13,Tryz.ntmps13;go_wp2;go_ret;exact⟨zgM (by simp),rfl⟩
theorem zly (f:Int)(w:World):
  Calls Tryz.prog 13 #[.nilIface,.int .i64 f] w fun e w'=>e=.returned (.bool (f==0))∧w'=w:=by
 go_enter Tryz.func13,Tryz.ntmps13;go_wp2;go_ret;exact⟨rfl,rfl⟩
theorem zlz (n:Int)(hn:0<n)(w:World):Calls Tryz.prog 13 #[.iface 102 (.int .i64 n),.int .i64 n] w fun e w'=>e=.returned (.bool true)∧w'=w:=by
 refine(zlx n n w).mono ?_;rintro e w' ⟨rfl,rfl⟩;refine⟨?_,rfl⟩;rw [decide_eq_true hn,beq_self_eq_true];rfl
theorem zg4 (w:World):Calls Tryz.prog 13 #[.nilIface,.int .i64 0] w fun e w'=>e=.returned (.bool true)∧w'=w:=zly 0 w
def chkF (n:Int):List (List Raw)→Int
 | []=>0
 | rs::t=>if (rs.length:Int)≠n then 6 else if rs.all Raw.num=false then 3 else chkF n t
def faultM (rss:List (List Raw))(n:Int):Int:=if n<1∨8<n then 1 else if 12<rss.length then 2 else chkF n rss
theorem zih{n:Int}{rss:List (List Raw)}(hk:k<rss.length)(h1:(rss[k].length:Int)=n)(h2:rss[k].all Raw.num=true):chkF n (rss.drop (k+1))=chkF n (rss.drop k):=by
 rw [List.drop_eq_getElem_cons hk,chkF,if_neg (by rw [h1];exact fun h=>h rfl),if_neg (by rw [h2];decide)]
theorem zig{n:Int}{rss:List (List Raw)}(hk:k<rss.length)(h1:(rss[k].length:Int)≠n):chkF n (rss.drop k)=6:=by
 rw [List.drop_eq_getElem_cons hk,chkF,if_pos h1]
theorem zif{n:Int}{rss:List (List Raw)}(hk:k<rss.length)(h1:(rss[k].length:Int)=n)(h2:rss[k].all Raw.num=false):chkF n (rss.drop k)=3:=by
 rw [List.drop_eq_getElem_cons hk,chkF,if_neg (by rw [h1];exact fun h=>h rfl),if_pos h2]
theorem ze9 (n:Int):∀ rss,(chkRows n rss=.nilIface∧chkF n rss=0)∨∃ c:Int,0<c∧chkRows n rss=.iface 102 (.int .i64 c)∧chkF n rss=c
 | []=>.inl ⟨rfl,rfl⟩
 | rs::t=>by
  rw [chkRows,chkF];split
  ·exact .inr ⟨6,by decide,rfl,rfl⟩
  ·split
   ·exact .inr ⟨3,by decide,rfl,rfl⟩
   ·exact ze9 n t
theorem zjc (rss:List (List Raw))(n:Int):(checkedM rss n=.nilIface∧faultM rss n=0)∨∃ c:Int,0<c∧checkedM rss n=.iface 102 (.int .i64 c)∧faultM rss n=c:=by
 unfold checkedM faultM;split
 ·exact .inr ⟨1,by decide,rfl,rfl⟩
 ·split
  ·exact .inr ⟨2,by decide,rfl,rfl⟩
  ·exact ze9 n rss
theorem zdZ (w:World)(v:Value)(rss:List (List Raw))(n:Int)(hv:MatL w v rss):
  Calls Tryz.prog 11 #[v,.int .i64 n] w fun e w'=>e=.returned (.int .i64 (faultM rss n))∧Below w.heap.size w w':=by
 have HV:=hide hv;obtain⟨ao,cap,rfl,-,-⟩:=hv;by_cases h1:n<1
 ·have e:faultM rss n=1:=if_pos (.inl h1);rw [e];clear e;go_enter Tryz.func11,Tryz.ntmps11;go_wp2;go_ret;exact⟨rfl,zB _ _⟩
 ·by_cases h2:8<n
  ·have e:faultM rss n=1:=if_pos (.inr h2);rw [e];clear e;go_enter Tryz.func11,Tryz.ntmps11;go_wp2;go_ret;exact⟨rfl,zB _ _⟩
  ·by_cases h3:12<rss.length
   ·have e:faultM rss n=2:=by unfold faultM;rw [if_neg (by omega),if_pos h3]
    rw [e];have h3':(12:Int)<(rss.length:Int):=by omega
    clear e;go_enter Tryz.func11,Tryz.ntmps11;go_wp2;go_ret;exact⟨rfl,zB _ _⟩
   ·have e:faultM rss n=chkF n rss:=by unfold faultM;rw [if_neg (by omega),if_neg h3]
    rw [e];have h3':¬((12:Int)<(rss.length:Int)):=by omega
    clear e;go_enter Tryz.func11,Tryz.ntmps11;go_wp2;go_loopw [5] (fun i wr=>∃ k:Nat,k≤rss.length∧i=.int .i64 k∧Hid (chkF n (rss.drop k)=chkF n rss)∧Below w.heap.size w wr) (fun i _=>rss.length-(intOf i).toNat)
    case atStart=>exact⟨0,Nat.zero_le _,rfl,by show _=_;rw [List.drop_zero],zB _ _⟩
    case round=>
     obtain⟨k,hk,rfl,HG,hbe⟩:=hrel;have HBE:=hide hbe;clear hbe;by_cases hkl:k<rss.length
     ·obtain⟨b,off,_,e,hlt,u,cu,hu⟩:=(HV.out.below HBE.out zL).at k hkl;simp only [zV,true_and] at e;obtain⟨rfl,rfl⟩:=e;have HU:=hide hu;have H1:=hide (fun h1 h2=>(zih (n:=n) hkl h1 h2).trans HG.out);have H2:=hide (fun h1=>(HG.out.symm.trans (zig (n:=n) hkl h1)));have H3:=hide (fun h1 h2=>(HG.out.symm.trans (zif (n:=n) hkl h1 h2)));generalize rss[k]=rs at *;obtain⟨uo,ucap,rfl,-,-⟩:=hu;by_cases hsz:(rs.length:Int)=n
      ·have hb:((rs.length:Int) != n)=false:=by rw [bne_eq_false_iff_eq];exact hsz
       have hcv:faultV rs=faulty (rs.all Raw.num):=if_neg (by omega);have HCK:=hide (zhw wr _ rs HU.out (by omega));rw [hcv] at HCK;have HSZ:=hide hsz;clear hcv HU hsz;go_wp2_with fail;refine HCK.out.mono ?_;rintro e w1 ⟨rfl,hb1⟩;have HB1:=hide (HBE.out.trans (hb1.mono HBE.out.size));clear hb1 HCK;cases hn:rs.all Raw.num
       ·have HA:=hide (H3.out HSZ.out hn);have e:faulty false=3:=rfl;rw [e];clear H1 H2 H3 e hn;go_wp2;go_ret;exact⟨by rw [HA.out];rfl,HB1.out⟩
       ·have e:faulty true=0:=rfl;rw [e];have HG':=hide (H1.out HSZ.out hn);clear H1 H2 H3 e hn HG;go_wp2;go_roundw
        case rel=>exact⟨k+1,by omega,by go_num,HG',HB1.out⟩
        case measure=>simp [intOf];omega
      ·have hb:((rs.length:Int) != n)=true:=by rw [bne_iff_ne];exact hsz
       have HA:=hide (H2.out hsz);clear H1 H2 H3;go_wp2;go_ret;exact⟨by rw [HA.out];rfl,HBE.out⟩
     ·obtain rfl:k=rss.length:=by omega
      have HA:Hid (chkF n rss=0):=by
       have:=HG.out;rw [List.drop_length] at this;exact this.symm
      clear HG;go_wp2;go_ret;exact⟨by rw [HA.out];rfl,HBE.out⟩
theorem zkM{neg neg':Bool}{zs':List Int}(h1:LB zs)(h2:LB zs')(n1:Nrm zs)(n2:Nrm zs')(e1:zs.length=0→neg=false)(e2:zs'.length=0→neg'=false)
  (h:(if neg=true then -lv zs else lv zs)=(if neg'=true then -lv zs' else lv zs')):neg=neg'∧zs=zs':=by
 have p1:=zP h1;have p2:=zP h2;have q1:=zaT h1 n1;have q2:=zaT h2 n2;cases neg <;> cases neg' <;> simp at h
 ·exact⟨rfl,zf0 h1 h2 n1 n2 h⟩
 ·exfalso;have:=e2 (q2.1 (by omega));simp at this
 ·exfalso;have:=e1 (q1.1 (by omega));simp at this
 ·exact⟨rfl,zf0 h1 h2 n1 n2 (by omega)⟩
theorem zlv (w:World)(va vb:Value)(x y:Int)(n m:Nat)(ha:NumL w va x n)(hb:NumL w vb y m):
  Calls Tryz.prog 15 #[va,vb] w fun e w'=>e=.returned (.bool (decide (x=y)))∧Below w.heap.size w w':=by
 obtain⟨an,sa,zs,rfl,hla,nra,ea,hx,-⟩:=ha;obtain⟨bn,sb,zs',rfl,hlb,nrb,eb,hy,-⟩:=hb;have HA:=hide hla;have HB:=hide hlb;obtain⟨ao,acap,rfl,hacap,halen,halb,-⟩:=hla;obtain⟨bo,bcap,rfl,hbcap,hblen,hblb,-⟩:=hlb;have HD:Hid (decide (x=y)=decide (an=bn∧zs=zs')):=by
  show _=_;by_cases h:x=y
  ·rw [decide_eq_true h,decide_eq_true (zkM halb hblb nra nrb ea eb (hx.symm.trans (h.trans hy)))]
  ·rw [decide_eq_false h,decide_eq_false (fun h'=>h (by rw [hx,hy,h'.1,h'.2]))]
 rw [HD.out];generalize hr:decide (an=bn∧zs=zs')=r;have HR:Hid (r=decide (an=bn∧zs=zs')):=hr.symm;clear hx hy ea eb nra nrb HD hr;have hT:=two w (.bool an) (.slice ao zs.length acap) (.bool bn) (.slice bo zs'.length bcap) 29 29;have HT:=hide hT;obtain⟨_,_,e,-,-,-,hac⟩:=HA.out.below hT.below zL;simp only [zV,true_and] at e;obtain⟨rfl,rfl⟩:=e;obtain⟨_,_,e,-,-,-,hbc⟩:=HB.out.below hT.below zL;simp only [zV,true_and] at e;obtain⟨rfl,rfl⟩:=e;have HAC:=hide hac;have HBC:=hide hbc;clear hac hbc HA HB;by_cases hn:an=bn
 ·subst hn;by_cases hl:zs.length=zs'.length
  ·have HL:=hide hl;have hl1:((zs.length:Int) ==(zs'.length:Int))=true:=by rw [beq_iff_eq];omega
   have hl2:((zs.length:Int) !=(zs'.length:Int))=false:=by rw [bne_eq_false_iff_eq];omega
   clear hl;go_enter Tryz.func15,Tryz.ntmps15;go_wp2;generalize (w.alloc (.cells #[.bool an,.slice ao zs.length acap] 29)).alloc (.cells #[.bool an,.slice bo zs'.length bcap] 29)=W at *;clear hT;obtain⟨k0,k1,-,-⟩:=HT.out.fst;obtain⟨l0,l1,-,-⟩:=HT.out.res;go_loopw [5] (fun i wr=>∃ k nq:Nat,k≤zs.length∧i=.int .i64 k∧wr=W.drewN nq∧Hid (zs.take k=zs'.take k)) (fun i _=>zs.length-(intOf i).toNat)
   case atStart=>exact⟨0,0,Nat.zero_le _,rfl,by simp [World.drewN_zero],by show _=_;simp⟩
   case round=>
    obtain⟨k,nq,hk,rfl,rfl,HG⟩:=hrel;by_cases hlt:k<zs.length
    ·obtain⟨ab,aoff,rfl,-,hac⟩:=HAC.out (by omega);have hlt':k<zs'.length:=by have:=HL.out;omega
     obtain⟨bb,boff,rfl,-,hbc⟩:=HBC.out (by omega);have hca:=hac k hlt;have hcb:=hbc k hlt';have HTS:=hide (fun e=>zhn hlt hlt' HG.out e);have HNE:Hid (zs.getD k 0≠zs'.getD k 0→r=false):=fun h=>HR.out.trans (decide_eq_false fun e=>h (by rw [e.2]));clear hac hbc HAC HBC;generalize zs.getD k 0=z at *;generalize zs'.getD k 0=y' at *;by_cases hzy:z=y'
     ·have HG':=hide (HTS.out hzy);subst hzy;clear HTS HNE HG;go_wp2
      go_quiet (fail)
      go_wp2;go_roundw
      case rel=>exact⟨k+1,_,by omega,by go_num,rfl,HG'⟩
      case measure=>simp [intOf];omega
     ·obtain rfl:r=false:=HNE.out hzy;have hz1:(z==y')=false:=by rw [beq_eq_false_iff_ne];exact hzy
      have hz2:(z != y')=true:=by rw [bne_iff_ne];exact hzy
      clear HTS HNE HG;go_wp2
      go_quiet (fail)
      go_wp2;go_ret;exact⟨rfl,by first | exact zY HT.out.below _ | exact zY (zY HT.out.below _) _⟩
    ·obtain rfl:r=true:=by
      obtain rfl:k=zs.length:=by omega
      have:=HG.out;rw [List.take_length,List.take_of_length_le (by have:=HL.out;omega)] at this;exact HR.out.trans (decide_eq_true (by first | exact⟨rfl,this⟩ | exact⟨trivial,this⟩))
     clear HG;go_wp2;go_ret;exact⟨rfl,zY HT.out.below _⟩
  ·have hl1:((zs.length:Int) ==(zs'.length:Int))=false:=by rw [beq_eq_false_iff_ne];omega
   have hl2:((zs.length:Int) !=(zs'.length:Int))=true:=by rw [bne_iff_ne];omega
   obtain rfl:r=false:=HR.out.trans (decide_eq_false fun e=>hl (by rw [e.2]));clear hl HAC HBC;go_enter Tryz.func15,Tryz.ntmps15;go_wp2;go_ret;exact⟨rfl,HT.out.below⟩
 ·have hn1:(an==bn)=false:=by rw [beq_eq_false_iff_ne];exact hn
  have hn2:(an != bn)=true:=by rw [bne_iff_ne];exact hn
  obtain rfl:r=false:=HR.out.trans (decide_eq_false fun e=>hn e.1);clear hn HAC HBC;go_enter Tryz.func15,Tryz.ntmps15;go_wp2;go_ret;exact⟨rfl,HT.out.below⟩
theorem zlw (w:World)(va vb:Value)(zs ys:List Int)(n m:Nat)(ha:VecN w va zs n)(hb:VecN w vb ys m)(hzl:zs.length≤100000)(r:Bool)(hr:r=decide (zs=ys)):
  Calls Tryz.prog 79 #[va,vb] w fun e w'=>e=.returned (.bool r)∧Below w.heap.size w w':=by
 have HA:=hide ha;have HB:=hide hb;have HR:=hide hr;clear hr;by_cases hl:zs.length=ys.length
 ·obtain⟨ao,acap,rfl,-,-⟩:=ha;obtain⟨bo,bcap,rfl,-,-⟩:=hb;have hl1:((zs.length:Int) ==(ys.length:Int))=true:=by rw [beq_iff_eq];omega
  have hl2:((zs.length:Int) !=(ys.length:Int))=false:=by rw [bne_eq_false_iff_eq];omega
  have HLN:=hide hl;clear hl;go_enter Tryz.func79,Tryz.ntmps79;go_wp2;go_loopw [5] (fun i wr=>∃ k:Nat,k≤zs.length∧i=.int .i64 k∧Hid (zs.take k=ys.take k)∧Below w.heap.size w wr) (fun i _=>zs.length-(intOf i).toNat)
  case atStart=>exact⟨0,Nat.zero_le _,rfl,by show _=_;simp,zB _ _⟩
  case round=>
   obtain⟨k,hk,rfl,HG,hbe⟩:=hrel;have HBE:=hide hbe;clear hbe;by_cases hkl:k<zs.length
   ·have hky:k<ys.length:=by have:=HLN.out;omega
    obtain⟨ab,aoff,_,e⟩:=HA.out.form (by omega);simp only [zV,true_and] at e;obtain⟨rfl,rfl⟩:=e;obtain⟨bb,boff,_,e⟩:=HB.out.form (by omega);simp only [zV,true_and] at e;obtain⟨rfl,rfl⟩:=e;obtain⟨la,an,ao,al,ac,a0,a1,na⟩:=(HA.out.below HBE.out zL).at k hkl;obtain⟨lb,bn,bo,bl,bc,b0,b1,nb⟩:=(HB.out.below HBE.out zL).at k hky;have NA:=hide na;have NB:=hide nb;have HTS:=hide (fun e=>zhn hkl hky HG.out e);have HNE:Hid (zs.getD k 0≠ys.getD k 0→r=false):=fun h=>by
     rw [HR.out];exact decide_eq_false fun e=>h (by rw [e])
    clear na nb;generalize zs.getD k 0=z at *;generalize ys.getD k 0=y at *;go_wp2_with fail
    go_region_held3 (fun w'=>w'.cell? ⟨ab,aoff+k*2,none⟩=some (.bool an)∧w'.cell? ⟨ab,aoff+k*2+1,none⟩=some (.slice ao al ac)∧w'.cell? ⟨bb,boff+k*2,none⟩=some (.bool bn)∧w'.cell? ⟨bb,boff+k*2+1,none⟩=some (.slice bo bl bc)) (go_keep)
     (first
      |(go_at_call 15;refine(zlv _ _ _ z y n m (by exact NA.out) (by exact NB.out)).mono ?_;rintro e w1 ⟨rfl,hb1⟩;have HB1:=hide (show Below w.heap.size w w1 from HBE.out.drew.trans (hb1.mono HBE.out.size));have p0:=(hb1.cell (p:=⟨ab,aoff+k*2,none⟩) la).trans a0;have p1:=(hb1.cell (p:=⟨ab,aoff+k*2+1,none⟩) la).trans a1;have p2:=(hb1.cell (p:=⟨bb,boff+k*2,none⟩) lb).trans b0;have p3:=(hb1.cell (p:=⟨bb,boff+k*2+1,none⟩) lb).trans b1;clear hb1))
    by_cases hz:z=y
    ·have HG':=hide (HTS.out hz);have ez:decide (z=y)=true:=decide_eq_true hz;rw [ez];clear HTS HNE hz ez p0 p1 p2 p3 a0 a1 b0 b1;go_wp2;go_roundw
     case rel=>exact⟨k+1,by omega,by go_num,HG',HB1.out⟩
     case measure=>simp [intOf];omega
    ·have ez:decide (z=y)=false:=decide_eq_false hz;rw [ez];obtain rfl:r=false:=HNE.out hz;clear HTS HNE hz ez p0 p1 p2 p3 a0 a1 b0 b1;go_wp2;go_ret;exact⟨rfl,HB1.out⟩
   ·obtain rfl:k=zs.length:=by omega
    have HE:Hid (zs=ys):=by
     have:=HG.out;rw [List.take_length,List.take_of_length_le (by have:=HLN.out;omega)] at this;exact this
    obtain rfl:r=true:=by rw [HR.out];exact decide_eq_true HE.out
    clear HG HE;go_wp2;go_ret;exact⟨rfl,HBE.out⟩
 ·obtain⟨ao,acap,rfl,-,-⟩:=ha;obtain⟨bo,bcap,rfl,-,-⟩:=hb;have hl1:((zs.length:Int) ==(ys.length:Int))=false:=by rw [beq_eq_false_iff_ne];omega
  have hl2:((zs.length:Int) !=(ys.length:Int))=true:=by rw [bne_iff_ne];omega
  obtain rfl:r=false:=by rw [HR.out];exact decide_eq_false fun e=>hl (by rw [e])
  go_enter Tryz.func79,Tryz.ntmps79;go_wp2;go_ret;exact⟨rfl,zB _ _⟩
theorem zl4 {zs ys:List (List Int)}(h1:k<zs.length)(h2:k<ys.length)(h:zs.take k=ys.take k)(e:zs[k]=ys[k]):zs.take (k+1)=ys.take (k+1):=by
 rw [List.take_succ_eq_append_getElem h1,List.take_succ_eq_append_getElem h2,h,e]
theorem zg2 (w:World)(va vb:Value)(zss yss:List (List Int))(n m:Nat)(ha:MatN w va zss n)(hb:MatN w vb yss m)(hzl:zss.length≤100000)(hz:∀ zs∈zss,zs.length≤100000)(r:Bool)(hr:r=decide (zss=yss)):
  Calls Tryz.prog 72 #[va,vb] w fun e w'=>e=.returned (.bool r)∧Below w.heap.size w w':=by
 have HA:=hide ha;have HB:=hide hb;have HR:=hide hr;have HZ:=hide hz;clear hr hz;by_cases hl:zss.length=yss.length
 ·obtain⟨ao,acap,rfl,-,-⟩:=ha;obtain⟨bo,bcap,rfl,-,-⟩:=hb;have hl1:((zss.length:Int) ==(yss.length:Int))=true:=by rw [beq_iff_eq];omega
  have hl2:((zss.length:Int) !=(yss.length:Int))=false:=by rw [bne_eq_false_iff_eq];omega
  have HLN:=hide hl;clear hl;go_enter Tryz.func72,Tryz.ntmps72;go_wp2;go_loopw [5] (fun i wr=>∃ k:Nat,k≤zss.length∧i=.int .i64 k∧Hid (zss.take k=yss.take k)∧Below w.heap.size w wr) (fun i _=>zss.length-(intOf i).toNat)
  case atStart=>exact⟨0,Nat.zero_le _,rfl,by show _=_;simp,zB _ _⟩
  case round=>
   obtain⟨k,hk,rfl,HG,hbe⟩:=hrel;have HBE:=hide hbe;clear hbe;by_cases hkl:k<zss.length
   ·have hky:k<yss.length:=by have:=HLN.out;omega
    obtain⟨ab,aoff,_,e,la,ua,a0,na⟩:=(HA.out.below HBE.out zL).at k hkl;simp only [zV,true_and] at e;obtain⟨rfl,rfl⟩:=e;obtain⟨bb,boff,_,e,lb,ub,b0,nb⟩:=(HB.out.below HBE.out zL).at k hky;simp only [zV,true_and] at e;obtain⟨rfl,rfl⟩:=e;have NA:=hide na;have NB:=hide nb;have HTS:=hide (fun e=>zl4 hkl hky HG.out e);have hzk:=HZ.out _ (List.getElem_mem hkl);have HNE:Hid (zss[k]≠yss[k]→r=false):=fun h=>by
     rw [HR.out];exact decide_eq_false fun e=>h (by simp only [e])
    clear na nb;generalize zss[k]=z at *;generalize yss[k]=y at *;obtain⟨uo1,uc1,rfl,-,-⟩:=NA.out;obtain⟨uo2,uc2,rfl,-,-⟩:=NB.out;go_wp2_with fail
    go_region_held3 (fun w'=>w'.cell? ⟨ab,aoff+k,none⟩=some (.slice uo1 z.length uc1)∧w'.cell? ⟨bb,boff+k,none⟩=some (.slice uo2 y.length uc2)) (go_keep)
     (first
      |(go_at_call 79;refine(zlw _ _ _ z y n m (by exact NA.out) (by exact NB.out) hzk _ rfl).mono ?_;rintro e w1 ⟨rfl,hb1⟩;have HB1:=hide (show Below w.heap.size w w1 from HBE.out.drew.trans (hb1.mono HBE.out.size));have p0:=(hb1.cell (p:=⟨ab,aoff+k,none⟩) la).trans a0;have p1:=(hb1.cell (p:=⟨bb,boff+k,none⟩) lb).trans b0;clear hb1))
    by_cases hz:z=y
    ·have HG':=hide (HTS.out hz);have ez:decide (z=y)=true:=decide_eq_true hz;rw [ez];clear HTS HNE hz ez p0 p1 a0 b0;go_wp2;go_roundw
     case rel=>exact⟨k+1,by omega,by go_num,HG',HB1.out⟩
     case measure=>simp [intOf];omega
    ·have ez:decide (z=y)=false:=decide_eq_false hz;rw [ez];obtain rfl:r=false:=HNE.out hz;clear HTS HNE hz ez p0 p1 a0 b0;go_wp2;go_ret;exact⟨rfl,HB1.out⟩
   ·obtain rfl:k=zss.length:=by omega
    have HE:Hid (zss=yss):=by
     have:=HG.out;rw [List.take_length,List.take_of_length_le (by have:=HLN.out;omega)] at this;exact this
    obtain rfl:r=true:=by rw [HR.out];exact decide_eq_true HE.out
    clear HG HE;go_wp2;go_ret;exact⟨rfl,HBE.out⟩
 ·obtain⟨ao,acap,rfl,-,-⟩:=ha;obtain⟨bo,bcap,rfl,-,-⟩:=hb;have hl1:((zss.length:Int) ==(yss.length:Int))=false:=by rw [beq_eq_false_iff_ne];omega
  have hl2:((zss.length:Int) !=(yss.length:Int))=true:=by rw [bne_iff_ne];omega
  obtain rfl:r=false:=by rw [HR.out];exact decide_eq_false fun e=>hl (by rw [e])
  go_enter Tryz.func72,Tryz.ntmps72;go_wp2;go_ret;exact⟨rfl,zB _ _⟩
end Go.Proofs.YtdedolkgcdlmeaaGreatDoor
