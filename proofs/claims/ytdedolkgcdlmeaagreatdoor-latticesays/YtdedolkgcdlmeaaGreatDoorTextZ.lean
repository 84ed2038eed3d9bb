import Derived.Test.YtdedolkgcdlmeaaGreatDoorMatO
import Derived.Lib.IndexBytes
import Derived.Shelf.LaysM
import Derived.Test.YtdedolkgcdlmeaaGreatDoorProg
set_option maxRecDepth 100000
set_option maxHeartbeats 1600000
namespace Go.Proofs.YtdedolkgcdlmeaaGreatDoor
open Go.RowKit Limbs Digs
variable{gs:List Int}
theorem zfq (w:World)(v:Value)(zss:List (List Int))(n:Nat)(hv:MatQ False w v zss n)(hl:zss.length≤1000)(hr:∀ zs∈zss,zs.length≤1000)(hn6:n≤1000000):
  Calls Tryz.prog 73 #[v] w fun e w'=>∃ u,e=.returned u∧MatN w' u zss n∧Below w.heap.size w w':=by
 obtain⟨i0,hi,hz0,hz1,hz2⟩:=info_parts Tryz.infoNum;obtain⟨j0,hj,hy0,hy1,hy2⟩:=info_parts Tryz.infoVec;have HV:=hide hv;have HR:=hide hr;clear hr;obtain⟨ao,cap,rfl,-,-⟩:=hv;go_enter Tryz.func73,Tryz.ntmps73;go_wp2;go_loopw [3,4] (fun out i wr=>∃(k:Nat) (qs:List (Value × List Int)),k≤zss.length∧i=.int .i64 k∧Hid (GrowV wr w.heap.size out qs n)∧Hid (qs.map (·.2)=zss.take k)∧Hid (Below w.heap.size w wr)) (fun _ i _=>zss.length-(intOf i).toNat)
 case atStart=>exact⟨0,[],Nat.zero_le _,rfl,hide (GrowV.nil _ _ _),hide (by simp),hide (zB _ _)⟩
 case round=>
  obtain⟨k,qs,hk,rfl,HGV,HQ,HBE⟩:=hrel;have HQL:Hid (qs.length=k):=by
   have:=congrArg List.length HQ.out;rw [zM,List.length_take] at this;show qs.length=k;omega
  by_cases hkl:k<zss.length
  ·obtain⟨_,_,e,-,hc⟩:=HV.out.below HBE.out zL;simp only [zV,true_and] at e;obtain⟨rfl,rfl⟩:=e;obtain⟨b,rfl,hblt,hc⟩:=hc (by omega);obtain⟨u,cu,hu⟩:=hc k zss[k] (by simp [hkl]);have HU:=hide hu;have hzl:=HR.out _ (List.getElem_mem hkl);have HQ':Hid (∀ r:Value,(qs++[(r,zss[k])]).map (·.2)=zss.take (k+1)):=fun r=>by
    rw [List.map_append,HQ.out,List.take_succ_eq_append_getElem hkl];rfl
   clear hc;generalize zss[k]=zs at *;obtain⟨vo,vcap,rfl,-,-⟩:=hu;go_wp2;obtain⟨wo,rfl⟩:∃ wo:World,wo=wr:=⟨_,rfl⟩;go_loopw [5,6] (fun r i wr=>∃(q:Nat) (ps:List (Nm × Int)),q≤zs.length∧i=.int .i64 q∧Grow wr wo.heap.size r ps n∧Hid (ps.map (·.2)=zs.take q)∧Below wo.heap.size wo wr) (fun _ i _=>zs.length-(intOf i).toNat)
   case atStart=>exact⟨0,[],Nat.zero_le _,rfl,Grow.nil _ _ _,by show _=_;simp,zB _ _⟩
   case round=>
    obtain⟨q,ps,hq,rfl,hgr,HP,hbi⟩:=hrel;have HGR:=hide hgr;have HBI:=hide hbi;have HPL:Hid (ps.length=q):=by
     have:=congrArg List.length HP.out;rw [zM,List.length_take] at this;show ps.length=q;omega
    clear hgr hbi;have cu2:wr.cell? ⟨b,k,none⟩=some (.slice vo zs.length vcap):=(HBI.out.cell (p:=⟨b,k,none⟩) hblt).trans cu;by_cases hql:q<zs.length
    ·obtain⟨ab,aoff,_,e,la,rs,ro,rl,rc,a0,a1,na⟩:=(HU.out.below HBI.out zL).at q hql;simp only [zV,true_and] at e;obtain⟨rfl,rfl⟩:=e;have NA:=hide na;have HP':Hid (∀ r:Nm,(ps++[(r,zs.getD q 0)]).map (·.2)=zs.take (q+1)):=fun r=>by
      rw [List.map_append,HP.out,List.take_succ_eq_append_getElem hql,zG,List.getElem?_eq_getElem hql];rfl
     clear na;generalize zs.getD q 0=z at *;go_wp2_with fail;refine(ziv wr _ z n NA.out hn6).mono ?_;rintro e w3 ⟨⟨r,rfl,hr3,hb3⟩,hnew⟩;obtain⟨⟨rn,ro',rl',rc'⟩,rfl⟩:=hr3.nm;have HAP:Hid (apart u5.ownBlock (Nm.sl ⟨rn,ro',rl',rc'⟩)):=HGR.out.fresh zL (hnew _ _ rfl);have HG3:=hide (HGR.out.later hb3);have HB3:=hide (HBI.out.trans (hb3.mono HBI.out.size));have HR3:Hid (NumL w3 (Nm.val ⟨rn,ro',rl',rc'⟩) z n):=hr3;have hown:=HG3.out.1;clear hr3 hb3 hnew HGR HBI a0 a1 cu2 NA;go_wp2_with (at_builtin;refine wpList_append_lies _ rfl _ _ 72 rfl wo.heap.size 29 i0 (.agg #[.bool false,.slice none 0 0]) 2 32 (by kernel_rfl) hi hz0 hz1 hz2 rfl (by decide) u5 ps.length (ps.flatMap ncells) rfl (hown.alloc _) ⟨w3.heap.size,0,none⟩ 1 1 [.bool rn,.slice ro' rl' rc'] rfl rfl (World.news_of_block (heap_alloc_new w3 _)) (fun u hu=>by simp only [List.mem_cons,List.mem_nil_iff,or_false] at hu;rcases hu with rfl | rfl <;> rfl) (by decide) (by unfold maxLen;have:=HPL.out;omega) (by have:=HPL.out;omega) (by simp;have:=HB3.out.size;omega) (w3.heap.size+1) (by simp) ?_);intro g cap' w5 hown5 hgrow5 hat5 hlt5;have HN:=hide (zig HG3.out HR3.out HAP.out hown5 hgrow5 hat5);have HB5:=hide (HB3.out.trans (zie HG3.out HB3.out.size hgrow5));have HP5:=hide (HP'.out ⟨rn,ro',rl',rc'⟩);clear hown hown5 hgrow5 hat5 hlt5 HG3 HR3 HB3 HP' HP HAP;go_wp2;go_roundw
     case rel=>exact⟨q+1,_,by omega,by go_num,HN.out,HP5,HB5.out⟩
     case measure=>simp [intOf];omega
    ·obtain rfl:q=zs.length:=by omega
     have HRR:Hid (VecN wr u5 zs n):=by
      have:=HGR.out.vec;rw [HP.out,List.take_length] at this;exact this
     have HG3:=hide (HGV.out.later HBI.out);have HB3:=hide (HBE.out.trans (HBI.out.mono HBE.out.size));obtain⟨so,sl,sc,rfl⟩:∃ so sl sc,u5=.slice so sl sc:=by
      obtain⟨so,sc,e,-⟩:=HRR.out;exact⟨_,_,_,e⟩
     have hown:=HG3.out.own;have hall:=HG3.out.all.later ((zB _ _).alloc zL (.cells #[.slice so sl sc] 72));have hbs:=HB3.out.size;clear HGR HP HPL;go_wp2_with (at_builtin;refine zd7 rfl _ _ 23 rfl w.heap.size 72 j0 24 (by kernel_rfl) hj hy0 hy1 hy2 u3 qs.length (qs.map (·.1)) rfl (hown.alloc _) hall ⟨wr.heap.size,0,none⟩ 1 so sl sc rfl (World.news_of_block (heap_alloc_new wr _)) (by unfold maxLen;have:=HQL.out;omega) (by have:=HQL.out;omega) (by simp;omega) ?_);intro g cap' w5 hown5 hgrow5 hall5;have HG5:=hide (zdp (HG3.out.later ((zB _ _).alloc zL _)) (HRR.out.below ((zB _ _).alloc zL _) zL) hown5 hgrow5 hall5);have HB5:=hide ((HB3.out.alloc HB3.out.size _).trans (zdq (HG3.out.later ((zB _ _).alloc zL _)) (by simp;omega) hgrow5));have HQ5:=hide (HQ'.out (.slice so sl sc));clear hown hall hown5 hgrow5 hall5 HG3 HRR HB3 HQ' cu2;go_wp2;go_roundw
     case rel=>exact⟨k+1,_,by omega,by go_num,HG5,HQ5,HB5⟩
     case measure=>simp [intOf];omega
  ·obtain rfl:k=zss.length:=by omega
   have HF:Hid (MatN wr u3 zss n):=by
    have:=HGV.out.mat;rw [HQ.out,List.take_length] at this;exact this
   clear HGV HQ;go_wp2;go_ret;exact⟨_,rfl,HF.out,HBE.out⟩
theorem zcE (w:World)(v:Value)(zss:List (List Int))(n:Nat)(hv:MatR w v zss n)(hl:zss.length≤1000)(hr:∀ zs∈zss,zs.length≤1000)(hn6:n≤1000000):
  Calls Tryz.prog 73 #[v] w fun e w'=>∃ u,e=.returned u∧MatN w' u zss n∧Below w.heap.size w w':=
 zfq w v zss n hv.toQ hl hr hn6
theorem Tryz.asErrno (v:Value)(w:World):(Instr.typeAssert (.iface 102 v) 31 102 true).run Tryz.prog w=.ok (.tuple #[v,.bool true]) w:=by kernel_rfl
theorem zkf (n f:Int)(w:World):
  Calls Tryz.prog 13 #[.iface 102 (.int .i64 n),.int .i64 f] w fun e w'=>e=.returned (.bool (decide (0<f) && n==f))∧w'=w:=by
 have has:=Tryz.asErrno;by_cases h1:0<f
 ·have e1:decide (0<f)=true:=decide_eq_true h1;go_enter Tryz.func13,Tryz.ntmps13;go_wp2;go_ret;exact⟨zfR (by simp [e1]),rfl⟩
 ·have e1:decide (0<f)=false:=decide_eq_false h1;go_enter Tryz.func13,Tryz.ntmps13;go_wp2;go_ret;exact⟨zfR (by simp),rfl⟩
theorem zkg (f:Int)(w:World):
  Calls Tryz.prog 13 #[.nilIface,.int .i64 f] w fun e w'=>e=.returned (.bool (f==0))∧w'=w:=by
 go_enter Tryz.func13,Tryz.ntmps13;go_wp2;go_ret;exact⟨rfl,rfl⟩
theorem zkh (n:Int)(hn:0<n)(w:World):Calls Tryz.prog 13 #[.iface 102 (.int .i64 n),.int .i64 n] w fun e w'=>e=.returned (.bool true)∧w'=w:=by
 refine(zkf n n w).mono ?_;rintro e w' ⟨rfl,rfl⟩;refine⟨?_,rfl⟩;rw [decide_eq_true hn,beq_self_eq_true];rfl
theorem zf8 (w:World):Calls Tryz.prog 13 #[.nilIface,.int .i64 0] w fun e w'=>e=.returned (.bool true)∧w'=w:=zkg 0 w
open Go.ChangeShapes Go.WideShapes Go.ChangeAt Go.Joins
def limbsV (rs:List Raw):Nat:=(rs.map (·.zs.length)).sum
def limbsM (rss:List (List Raw)):Nat:=(rss.map limbsV).sum
def pad:Nat→Nat→List UInt8
 | 0,_=>[]
 | k+1,g=>pad k (g/10)++[UInt8.ofNat (48+g%10)]
theorem zcJ (k g:Nat):(pad k g).length=k:=by
 induction k generalizing g with
 | zero=>rfl
 | succ k ih=>simp [pad,ih]
theorem zeJ (k:Nat):∀ q g:Nat,1≤q→g<10 ^ k→Lib.decDigits (q*10 ^ k+g)=Lib.decDigits q++pad k g:=by
 induction k with
 | zero => intro q g _ hg; have : g = 0 := by simpa using hg
           subst this;simp [pad]
 | succ k ih=>
  intro q g hq hg;have e1:q*10 ^ (k+1)=10 *(q*10 ^ k):=by rw [Nat.pow_succ,← Nat.mul_assoc,Nat.mul_comm]
  have e0:0<q*10 ^ k:=Nat.mul_pos (by omega) (Nat.pow_pos (by decide));have hg':g/10<10 ^ k:=by rw [Nat.pow_succ] at hg;omega
  rw [Lib.decDigits,dif_neg (by omega)];have e2:(q*10 ^ (k+1)+g)/10=q*10 ^ k+g/10:=by omega
  have e3:(q*10 ^ (k+1)+g)%10=g%10:=by omega
  rw [e2,e3,ih q (g/10) hq hg',List.append_assoc];rfl
theorem zdc (u:Nat):(Lib.decDigits u).length≤u+1∧1≤(Lib.decDigits u).length:=by
 induction u using Nat.strongRecOn with
 | _ u ih=>
  rw [Lib.decDigits];by_cases h:u<10
  ·rw [dif_pos h];simp
  ·rw [dif_neg h];have:=ih (u/10) (by omega);simp;omega
theorem nine (g:Nat)(hg:g<1000000000):(Lib.decDigits (1000000000+g)).drop 1=pad 9 g:=by
 have:=zeJ 9 1 g zL hg;rw [show 1*10 ^ 9+g=1000000000+g by omega] at this;rw [this,Lib.decDigits_one (by decide)];rfl
theorem zib (q g:Nat)(hq:1≤q)(hg:g<1000000000):Lib.decDigits (q*1000000000+g)=Lib.decDigits q++pad 9 g:=zeJ 9 q g hq hg
theorem ze2(h:∀ g∈gs,0≤g∧g<1000000000):0≤gv gs:=by
 induction gs with
 | nil=>simp [gv]
 | cons x xs ih=>have:=ih fun g hg=>h g (by simp [hg]);have:=h x (by simp);simp only [gv];omega
theorem zij(h:∀ g∈gs,0≤g∧g<1000000000)(hl:gs.length≠0)(hn:gs.getD (gs.length-1) 0≠0):0<gv gs:=by
 induction gs with
 | nil=>simp at hl
 | cons x xs ih=>
  have hx:=h x (by simp);have hxs:∀ g∈xs,0≤g∧g<1000000000:=fun g hg=>h g (by simp [hg]);have h0:=ze2 hxs;simp only [gv];by_cases e:xs.length=0
  ·have:xs=[]:=List.eq_nil_of_length_eq_zero e;subst this;simp at hn;simp [gv];omega
  ·have:=ih hxs e (by
    have e2:(x::xs).length-1=(xs.length-1)+1:=by simp;omega
    rw [e2,List.getD_cons_succ] at hn;exact hn)
   omega
theorem zkN(h:∀ g∈gs,0≤g∧g<1000000000)(hn:gs.getD (gs.length-1) 0≠0){p:Nat}(hp:p+1<gs.length):
  Lib.decDigits (gv (gs.drop p)).toNat=Lib.decDigits (gv (gs.drop (p+1))).toNat++pad 9 (gs.getD p 0).toNat:=by
 have hm:gs.getD p 0∈gs:=by rw [zG,List.getElem?_eq_getElem (by omega)];exact List.getElem_mem _
 have hg:=h _ hm;have hd:∀ g∈gs.drop (p+1),0≤g∧g<1000000000:=fun g hg=>h g (List.mem_of_mem_drop hg);have hl:(gs.drop (p+1)).length=gs.length-(p+1):=List.length_drop;have h1:=zij hd (by omega) (by rw [zdm,hl,show p+1+(gs.length-(p+1)-1)=gs.length-1 by omega];exact hn);have e:gs.drop p=gs.getD p 0::gs.drop (p+1):=zz gs p (by omega);rw [e];simp only [gv];rw [← zib _ _ (by omega) (by omega)];congr 1;omega
def txt (z:Int):List UInt8:=Lib.itoa z
def TextPost (w:World)(z:Int)(e:Ending)(w':World):Prop:=e=.returned (.string ⟨(txt z).toArray⟩)∧Below w.heap.size w w'
def ItoaOk (w:World)(z:Int):Prop:=
 ∀(W:World) (k:Nat),Below w.heap.size w W→k<10000000000→(k<100∨100≤z.natAbs) →
  Calls Tryz.prog 120 #[.int .i64 k] W fun e w'=>e=.returned (.string ⟨(Lib.decDigits k).toArray⟩)∧Below W.heap.size W w'
def sgnB (neg:Bool):List UInt8:=if neg=true then [45] else []
theorem zii(h:∀ g∈gs,0≤g∧g<1000000000)(top:Nat)(hl:gs.length=top+1):gp top*gs.getD top 0≤gv gs:=by
 induction gs generalizing top with
 | nil=>simp at hl
 | cons x xs ih=>
  have hx:=h x (by simp);have hxs:∀ g∈xs,0≤g∧g<1000000000:=fun g hg=>h g (by simp [hg]);cases top with
  | zero=>
   have:=ze2 hxs;simp [gv,gp];omega
  | succ top=>
   have:=ih hxs top (by simpa using hl);rw [List.getD_cons_succ];simp only [gv,gp];rw [Int.mul_assoc];omega
theorem zcm {T e:TypeId}{B b:Nat}{bs:List Value}{w w':World}(h:Lib.IsBuilderF T e B b bs w)(hb:Below w.heap.size w w'):Lib.IsBuilderF T e B b bs w':=by
 have hg:w.grownBy w' none:=⟨hb.os,hb.tape,hb.output,hb.size,fun k hk _=>hb.block k hk⟩;have key:∀ p,Lib.BuilderAtF T e B b p bs w→Lib.BuilderAtF T e B b p bs w':=fun p hp=>by
  have hlt:=hp.lt;obtain⟨hB,v,hbk,hown,hne⟩:=hp;exact⟨hB,v,by rw [hb.block b hlt];exact hbk,hown.kept hg (by cases v.ownBlock <;> simp),hne⟩
 exact h.elim (fun x=>.inl (key _ x)) (fun x=>.inr (key _ x))
theorem zkM (w:World)(va:Value)(z:Int)(n:Nat)(ha:NumL w va z n)(hn:n≤900000)(hz:z≠0)(hIt:ItoaOk w z):
  Calls Tryz.prog 92 #[va] w fun e w'=>TextPost w z e w':=by
 have HN:=hide ha;obtain⟨an,sa,a,rfl,hla,nra,hza,hx,hna⟩:=ha;have HA:=hide hla;obtain⟨ao,acap,rfl,hac,halen,halb,-⟩:=hla;have hane:a.length≠0:=fun h=>hz (by rw [hx,(zaE halb nra).2 h];split <;> rfl);have hpos:=zbV halb nra hane;have HX:=hide hx;clear hx;have HI:=hide hIt;clear hIt;have hd0:decide (z=0)=false:=decide_eq_false hz;go_enter Tryz.func92,Tryz.ntmps92;go_wp2_with fail;have hB:=zf w (.bool an) (.slice ao a.length acap) 29 w.heap.size rfl;have hb0:Below w.heap.size w (w.alloc (.cells #[.bool an,.slice ao a.length acap] 29)):=(zB _ _).alloc zL _;have hs0:w.heap.size<(w.alloc (.cells #[.bool an,.slice ao a.length acap] 29)).heap.size:=by simp
 generalize w.alloc (.cells #[.bool an,.slice ao a.length acap] 29)=W at *;refine(zak W _ z n (HN.out.below hb0 zL)).mono ?_;rintro e w2 ⟨rfl,hb2⟩;rw [hd0];replace hB:=hB.later hb2 hs0;replace hb0:=hb0.trans (hb2.mono hb0.size);have hs2:=zT hs0 hb2.size;clear hb2 hs0;obtain⟨p0,p1,-,-⟩:=hB;go_wp2_with fail;refine(zhC w2 _ a (HA.out.below hb0 zL) nra).mono ?_;rintro e w3 ⟨v,gs,rfl,hown,hb3,hgv,hg9,hlast,hgl⟩;have hgne:gs.length≠0:=fun h=>by rw [List.eq_nil_of_length_eq_zero h] at hgv;simp [gv] at hgv;omega
 replace hlast:=hlast.resolve_left hgne;obtain⟨top,htop⟩:∃ top,gs.length=top+1:=⟨gs.length-1,by omega⟩;obtain⟨g,cap,rfl,hgb,hglt⟩:=hown.form (by omega);have hcells:=fun i hi=>hown.cellAt i hi;rw [htop] at hcells hgl hlast ⊢;rw [Nat.add_sub_cancel] at hlast;have HC:Hid (∀ i,i<top+1→w3.cell? ⟨g,i,none⟩=some (.int .i64 (gs.getD i 0))):=fun i hi=>by
  rw [hcells i (by omega),List.getElem?_map,List.getElem?_eq_getElem (by omega)];simp [List.getD_eq_getElem?_getD,show i<gs.length by omega]
 clear hcells hown;have q0:w3.cell? ⟨w.heap.size,0,none⟩=some (.bool an):=(hb3.cell (p:=⟨w.heap.size,0,none⟩) hs2).trans p0;have hbw3:=hb0.trans (hb3.mono hb0.size);have HV:=hide hgv;have HG9:=hide hg9;have HLast:=hide hlast;have HTop:=hide htop;clear hgv hg9 hlast htop p0 p1 hb3;have hs3:w.heap.size<w3.heap.size:=by have:=hbw3.size;omega
 have hct:=HC.out top (by omega);obtain⟨gt,HGT⟩:∃ gt,Hid (gt=gs.getD top 0):=⟨_,rfl⟩;rw [← HGT.out] at hct;have hgt:0<gt∧gt<1000000000:=by
  have:=HG9.out (gs.getD top 0) (by rw [zG,List.getElem?_eq_getElem (by have:=HTop.out;omega)];exact List.getElem_mem _);have h2:=HLast.out;rw [HGT.out];omega
 have hbu:=Lib.IsBuilderF.of (Lib.fresh_isBuilder 165 5 w3);have hbb:Below w3.heap.size w3 (w3.alloc (.cells #[.pointer none,.slice none 0 0] 165)):=(zB _ _).alloc zL _;have HBU:=hide hbu;clear hbu;have HEND:Hid (∀ w9,Below w3.heap.size w3 w9→TextPost w z (.returned (.string ⟨(sgnB an++Lib.decDigits (gv (gs.drop 0)).toNat).toArray⟩)) w9):=fun w9 h9=>by
  refine⟨?_,hbw3.trans (h9.mono hbw3.size)⟩;have e:txt z=sgnB an++Lib.decDigits (gv (gs.drop 0)).toNat:=by
   rw [List.drop_zero,← HV.out];unfold txt sgnB Lib.itoa;have:=HX.out;cases an
   ·simp at this ⊢;rw [this,if_neg (by omega)]
   ·simp at this ⊢;rw [this,if_pos (by omega)];simp;congr 1;omega
  rw [e]
 have HIT:Hid (∀(W:World) (k:Nat),Below w3.heap.size w3 W→k<10000000000→(k<100∨top≠0∨100≤gt)→Calls Tryz.prog 120 #[.int .i64 k] W fun e w'=>e=.returned (.string ⟨(Lib.decDigits k).toArray⟩)∧Below W.heap.size W w'):=fun W k hW hk hc=>by
  refine HI.out W k (hbw3.trans (hW.mono hbw3.size)) hk ?_;rcases hc with hc | hc
  ·exact .inl hc
  ·right;have h1:=zii HG9.out top HTop.out;rw [← HGT.out,← HV.out] at h1;have h2:100≤lv a:=by
    rcases hc with hc | hc
    ·have h3:=zeY (m:=1) (n:=top) (by omega);have h4:gp top*1≤gp top*gt:=Int.mul_le_mul_of_nonneg_left (by omega) (by have:=zbl top;omega);simp [gp] at h3;omega
    ·have h3:=zbl top;have h4:1*gt≤gp top*gt:=Int.mul_le_mul_of_nonneg_right (by omega) (by omega);omega
   have:=HX.out;split at this <;> omega
 have HTXT:Hid (∀ p,p+1<gs.length→Lib.decDigits (gv (gs.drop p)).toNat=Lib.decDigits (gv (gs.drop (p+1))).toNat++pad 9 (gs.getD p 0).toNat):=fun p hp=>zkN HG9.out (by rw [HTop.out,Nat.add_sub_cancel];exact HLast.out) hp;have HT0:Hid (Lib.decDigits (gv (gs.drop top)).toNat=Lib.decDigits gt.toNat):=by
  show _=_;rw [zz gs top (by have:=HTop.out;omega),List.drop_eq_nil_of_le (by have:=HTop.out;omega),← HGT.out];simp [gv]
 have HG:Hid (∀ p,p<top+1→0≤gs.getD p 0∧gs.getD p 0<1000000000):=fun p hp=>HG9.out _ (by rw [zG,List.getElem?_eq_getElem (by have:=HTop.out;omega)];exact List.getElem_mem _);obtain⟨gn,hgn⟩:∃ gn:Nat,gt=(gn:Int):=Int.eq_ofNat_of_zero_le (by omega);subst hgn;clear HI HN HA HX HGT HV HG9 HLast;have hgn1:gn<1000000000:=by omega
 have hdl:=(zdc gn).1;have hctA:∀ W',Below w3.heap.size w3 W'→W'.cell? ⟨g,top,none⟩=some (.int .i64 (gn:Int)):=fun W' h=>(h.cell (p:=⟨g,top,none⟩) hglt).trans hct;have HCT:=hide hctA;clear hctA hct;cases an
 ·have HBF:Hid (Lib.IsBuilderF 165 5 w3.heap.size w3.heap.size (Lib.byteCells (sgnB false)) (w3.alloc (.cells #[.pointer none,.slice none 0 0] 165))):=HBU.out;have hctb:=HCT.out _ hbb;go_wp2_with fail;generalize w3.alloc (.cells #[.pointer none,.slice none 0 0] 165)=wb at *;clear hctb q0;refine(HIT.out wb gn hbb (by omega) (by omega)).mono ?_;rintro e w5 ⟨rfl,hb5⟩;go_wp2_with fail;refine(Go.Proofs.Tryz.Builder_WriteString_k w3.heap.size w3.heap.size _ _ _ (zcm HBF.out hb5) (by simp [Lib.byteCells,sgnB,ByteArray.size];omega) (by have:=hbb.size;have:=hb5.size;omega)).mono ?_;rintro e w6 ⟨rfl,hbu6,hb6,-⟩;have hs6:(Lib.byteCells (sgnB false)++Lib.strCells ⟨(Lib.decDigits gn).toArray⟩)=Lib.byteCells (sgnB false++Lib.decDigits (gv (gs.drop (top-0))).toNat):=by
   rw [Nat.sub_zero,HT0.out,Lib.byteCells_append];rfl
  rw [hs6] at hbu6;have HB6:=hide (show Lib.IsBuilderF 165 5 w3.heap.size w3.heap.size _ w6 from .inr hbu6);have hbw6:=(hbb.trans (hb5.mono hbb.size)).trans hb6;have hll:(sgnB false++Lib.decDigits (gv (gs.drop (top-0))).toNat).length≤1000000100:=by rw [Nat.sub_zero,HT0.out];simp [sgnB];omega
  clear hbu6 hs6 hb6 hb5 HBF HBU hbb;go_wp2;go_loopw [25] (fun i wr=>∃ k:Nat,k≤top∧i=.int .i64 k∧Hid (Lib.IsBuilderF 165 5 w3.heap.size w3.heap.size (Lib.byteCells (sgnB false++Lib.decDigits (gv (gs.drop (top-k))).toNat)) wr)∧Below w3.heap.size w3 wr∧(sgnB false++Lib.decDigits (gv (gs.drop (top-k))).toNat).length≤1000000100+9*k) (fun i _=>top-(intOf i).toNat)
  case atStart=>exact⟨0,Nat.zero_le _,rfl,HB6,hbw6,hll⟩
  case round=>
   obtain⟨k,hk,rfl,HBK,hbk,hlk⟩:=hrel;by_cases hlt:k<top
   ·obtain⟨p,hp⟩:∃ p,p=top-1-k:=⟨_,rfl⟩;have hP:(top:Int)-1-(k:Int)=(p:Int):=by omega
    have hpl:p<top+1:=by omega
    have hcp:=(hbk.cell (p:=⟨g,p,none⟩) hglt).trans (HC.out p hpl);have hg:=HG.out p hpl;have HST:=hide (HTXT.out p (by have:=HTop.out;omega));have HKE:=hide (show top-k=p+1 by omega);have HKE2:=hide (show top-(k+1)=p by omega);obtain⟨q,hq⟩:∃ q:Nat,gs.getD p 0=(q:Int):=Int.eq_ofNat_of_zero_le hg.1;rw [hq] at hcp hg HST;clear hp hq;go_wp2_with fail;rw [show(1000000000:Int)+(q:Int)=((1000000000+q:Nat):Int) by omega];refine(HIT.out wr (1000000000+q) hbk (by omega) (by omega)).mono ?_;rintro e w7 ⟨rfl,hb7⟩;have hdq:=(zdc (1000000000+q)).2;have HN9:=hide (nine q (by omega));obtain⟨s,HSs⟩:∃ s:ByteArray,Hid (s=⟨(Lib.decDigits (1000000000+q)).toArray⟩):=⟨_,rfl⟩;have hs1:1≤s.size:=by rw [HSs.out];simpa [ByteArray.size] using hdq
    rw [← HSs.out];have hcell9:Lib.strCells (s.extract 1 s.size)=Lib.byteCells (pad 9 q):=by
     rw [Lib.strCells_eq,Lib.extract_to_end,HSs.out];show Lib.byteCells ((Lib.decDigits (1000000000+q)).toArray.toList.drop 1)=_;rw [List.toList_toArray,HN9.out]
    have hsz9:(s.extract 1 s.size).size=9:=by
     have:=Lib.strCells_length (s.extract 1 s.size);rw [hcell9,Lib.byteCells_length,zcJ] at this;exact this.symm
    have HC9:=hide hcell9;have HZ9:=hide hsz9;clear hcell9 hsz9 hdq;go_wp2_with fail;refine(Go.Proofs.Tryz.Builder_WriteString_k w3.heap.size w3.heap.size _ _ _ (zcm HBK.out hb7) (by rw [HZ9.out,Lib.byteCells_length];omega) (by have:=hbk.size;have:=hb7.size;omega)).mono ?_;rintro e w8 ⟨rfl,hbu8,hb8,-⟩;rw [HC9.out,← Lib.byteCells_append,List.append_assoc,HKE.out] at hbu8;have hst:=HST.out;rw [Int.toNat_natCast] at hst;rw [← hst] at hbu8;have HB8:Hid (Lib.IsBuilderF 165 5 w3.heap.size w3.heap.size (Lib.byteCells (sgnB false++Lib.decDigits (gv (gs.drop (top-(k+1)))).toNat)) w8):=by rw [HKE2.out];exact .inr hbu8
    have hbw8:=(hbk.trans (hb7.mono hbk.size)).trans hb8;have hl8:(sgnB false++Lib.decDigits (gv (gs.drop (top-(k+1)))).toNat).length≤1000000100+9 *(k+1):=by
     rw [HKE2.out,hst,← List.append_assoc,List.length_append,zcJ];rw [HKE.out] at hlk;omega
    clear hbu8 hst hb8 hb7 HST;go_wp2;go_roundw
    case rel=>exact⟨k+1,by omega,by go_num,HB8,hbw8,hl8⟩
    case measure=>simp [intOf];omega
   ·obtain rfl:k=top:=by omega
    rw [Nat.sub_self] at HBK;go_wp2_with fail;refine(Go.Proofs.Tryz.Builder_String_any_k w3.heap.size w3.heap.size _ _ HBK.out hbk.size).mono ?_;rintro e w8 ⟨rfl,-,hb8,-⟩;have HF:=hide (HEND.out w8 (hbk.trans hb8));go_wp2;go_ret;exact HF.out
 ·go_wp2_with fail;refine(Go.Proofs.Tryz.Builder_WriteByte_k w3.heap.size w3.heap.size [] 45 _ HBU.out (by decide) (by simp)).mono ?_;rintro e wb ⟨rfl,hbu2,hbb2,-⟩;have HBF:Hid (Lib.IsBuilderF 165 5 w3.heap.size w3.heap.size (Lib.byteCells (sgnB true)) wb):=.inr hbu2;replace hbb:=hbb.trans hbb2;clear hbu2 hbb2;have hctb:=HCT.out _ hbb;go_wp2_with fail;clear hctb q0;refine(HIT.out wb gn hbb (by omega) (by omega)).mono ?_;rintro e w5 ⟨rfl,hb5⟩;go_wp2_with fail;refine(Go.Proofs.Tryz.Builder_WriteString_k w3.heap.size w3.heap.size _ _ _ (zcm HBF.out hb5) (by simp [Lib.byteCells,sgnB,ByteArray.size];omega) (by have:=hbb.size;have:=hb5.size;omega)).mono ?_;rintro e w6 ⟨rfl,hbu6,hb6,-⟩;have hs6:(Lib.byteCells (sgnB true)++Lib.strCells ⟨(Lib.decDigits gn).toArray⟩)=Lib.byteCells (sgnB true++Lib.decDigits (gv (gs.drop (top-0))).toNat):=by
   rw [Nat.sub_zero,HT0.out,Lib.byteCells_append];rfl
  rw [hs6] at hbu6;have HB6:=hide (show Lib.IsBuilderF 165 5 w3.heap.size w3.heap.size _ w6 from .inr hbu6);have hbw6:=(hbb.trans (hb5.mono hbb.size)).trans hb6;have hll:(sgnB true++Lib.decDigits (gv (gs.drop (top-0))).toNat).length≤1000000100:=by rw [Nat.sub_zero,HT0.out];simp [sgnB];omega
  clear hbu6 hs6 hb6 hb5 HBF HBU hbb;go_wp2;go_loopw [25] (fun i wr=>∃ k:Nat,k≤top∧i=.int .i64 k∧Hid (Lib.IsBuilderF 165 5 w3.heap.size w3.heap.size (Lib.byteCells (sgnB true++Lib.decDigits (gv (gs.drop (top-k))).toNat)) wr)∧Below w3.heap.size w3 wr∧(sgnB true++Lib.decDigits (gv (gs.drop (top-k))).toNat).length≤1000000100+9*k) (fun i _=>top-(intOf i).toNat)
  case atStart=>exact⟨0,Nat.zero_le _,rfl,HB6,hbw6,hll⟩
  case round=>
   obtain⟨k,hk,rfl,HBK,hbk,hlk⟩:=hrel;by_cases hlt:k<top
   ·obtain⟨p,hp⟩:∃ p,p=top-1-k:=⟨_,rfl⟩;have hP:(top:Int)-1-(k:Int)=(p:Int):=by omega
    have hpl:p<top+1:=by omega
    have hcp:=(hbk.cell (p:=⟨g,p,none⟩) hglt).trans (HC.out p hpl);have hg:=HG.out p hpl;have HST:=hide (HTXT.out p (by have:=HTop.out;omega));have HKE:=hide (show top-k=p+1 by omega);have HKE2:=hide (show top-(k+1)=p by omega);obtain⟨q,hq⟩:∃ q:Nat,gs.getD p 0=(q:Int):=Int.eq_ofNat_of_zero_le hg.1;rw [hq] at hcp hg HST;clear hp hq;go_wp2_with fail;rw [show(1000000000:Int)+(q:Int)=((1000000000+q:Nat):Int) by omega];refine(HIT.out wr (1000000000+q) hbk (by omega) (by omega)).mono ?_;rintro e w7 ⟨rfl,hb7⟩;have hdq:=(zdc (1000000000+q)).2;have HN9:=hide (nine q (by omega));obtain⟨s,HSs⟩:∃ s:ByteArray,Hid (s=⟨(Lib.decDigits (1000000000+q)).toArray⟩):=⟨_,rfl⟩;have hs1:1≤s.size:=by rw [HSs.out];simpa [ByteArray.size] using hdq
    rw [← HSs.out];have hcell9:Lib.strCells (s.extract 1 s.size)=Lib.byteCells (pad 9 q):=by
     rw [Lib.strCells_eq,Lib.extract_to_end,HSs.out];show Lib.byteCells ((Lib.decDigits (1000000000+q)).toArray.toList.drop 1)=_;rw [List.toList_toArray,HN9.out]
    have hsz9:(s.extract 1 s.size).size=9:=by
     have:=Lib.strCells_length (s.extract 1 s.size);rw [hcell9,Lib.byteCells_length,zcJ] at this;exact this.symm
    have HC9:=hide hcell9;have HZ9:=hide hsz9;clear hcell9 hsz9 hdq;go_wp2_with fail;refine(Go.Proofs.Tryz.Builder_WriteString_k w3.heap.size w3.heap.size _ _ _ (zcm HBK.out hb7) (by rw [HZ9.out,Lib.byteCells_length];omega) (by have:=hbk.size;have:=hb7.size;omega)).mono ?_;rintro e w8 ⟨rfl,hbu8,hb8,-⟩;rw [HC9.out,← Lib.byteCells_append,List.append_assoc,HKE.out] at hbu8;have hst:=HST.out;rw [Int.toNat_natCast] at hst;rw [← hst] at hbu8;have HB8:Hid (Lib.IsBuilderF 165 5 w3.heap.size w3.heap.size (Lib.byteCells (sgnB true++Lib.decDigits (gv (gs.drop (top-(k+1)))).toNat)) w8):=by rw [HKE2.out];exact .inr hbu8
    have hbw8:=(hbk.trans (hb7.mono hbk.size)).trans hb8;have hl8:(sgnB true++Lib.decDigits (gv (gs.drop (top-(k+1)))).toNat).length≤1000000100+9 *(k+1):=by
     rw [HKE2.out,hst,← List.append_assoc,List.length_append,zcJ];rw [HKE.out] at hlk;omega
    clear hbu8 hst hb8 hb7 HST;go_wp2;go_roundw
    case rel=>exact⟨k+1,by omega,by go_num,HB8,hbw8,hl8⟩
    case measure=>simp [intOf];omega
   ·obtain rfl:k=top:=by omega
    rw [Nat.sub_self] at HBK;go_wp2_with fail;refine(Go.Proofs.Tryz.Builder_String_any_k w3.heap.size w3.heap.size _ _ HBK.out hbk.size).mono ?_;rintro e w8 ⟨rfl,-,hb8,-⟩;have HF:=hide (HEND.out w8 (hbk.trans hb8));go_wp2;go_ret;exact HF.out
end Go.Proofs.YtdedolkgcdlmeaaGreatDoor
/- strconv.Itoa in general, laid at this translation. -/
namespace Go.Proofs
open Go.Shelf Go.RowKit Go.Sort
def Tryz.laysM171_ren:Go.Shelf.Ren:=⟨fun | 171=>120 | 243=>139 | 246=>155 | 283=>161 | 284=>162 | 285=>163 | 286=>164 | 129=>166 | 317=>165 | 318=>167 | 319=>168 | 320=>169 | 337=>170 | 338=>171 | n=>n,fun | 3=>3 | 9=>9 | 2=>2 | 4=>4 | 171=>200 | 0=>0 | 53=>140 | 37=>163 | 5=>5 | 173=>203 | 212=>207 | 51=>104 | 20=>20 | 213=>208 | 46=>142 | 232=>210 | 233=>211 | n=>n,fun | 17=>2 | 18=>3 | 19=>4 | n=>n⟩
theorem Tryz.laysM171:Go.Proofs.LaysM.n171 Tryz.prog Tryz.laysM171_ren:={
 mixed:=by kernel_rfl
 f129:=Tryz.func166.trans (congrArg some (by kernel_rfl))
 f171:=Tryz.func120.trans (congrArg some (by kernel_rfl))
 f243:=Tryz.func139.trans (congrArg some (by kernel_rfl))
 f246:=Tryz.func155.trans (congrArg some (by kernel_rfl))
 f283:=Tryz.func161.trans (congrArg some (by kernel_rfl))
 f284:=Tryz.func162.trans (congrArg some (by kernel_rfl))
 f285:=Tryz.func163.trans (congrArg some (by kernel_rfl))
 f286:=Tryz.func164.trans (congrArg some (by kernel_rfl))
 f317:=Tryz.func165.trans (congrArg some (by kernel_rfl))
 f318:=Tryz.func167.trans (congrArg some (by kernel_rfl))
 f319:=Tryz.func168.trans (congrArg some (by kernel_rfl))
 f320:=Tryz.func169.trans (congrArg some (by kernel_rfl))
 f337:=Tryz.func170.trans (congrArg some (by kernel_rfl))
 f338:=Tryz.func171.trans (congrArg some (by kernel_rfl))
 t0:=Tryz.underlying0
 a0:=Tryz.isAgg0
 z0:=Tryz.sizeOf0
 v0:=Tryz.zeroValue0
 t2:=Tryz.underlying2
 a2:=Tryz.isAgg2
 z2:=Tryz.sizeOf2
 v2:=Tryz.zeroValue2
 t3:=Tryz.underlying3
 a3:=Tryz.isAgg3
 z3:=Tryz.sizeOf3
 v3:=Tryz.zeroValue3
 t4:=Tryz.underlying4
 a4:=Tryz.isAgg4
 z4:=Tryz.sizeOf4
 v4:=Tryz.zeroValue4
 t5:=Tryz.underlying5
 a5:=Tryz.isAgg5
 z5:=Tryz.sizeOf5
 v5:=Tryz.zeroValue5
 t9:=Tryz.underlying9
 a9:=Tryz.isAgg9
 z9:=Tryz.sizeOf9
 v9:=Tryz.zeroValue9
 t20:=Tryz.underlying20
 a20:=Tryz.isAgg20
 z20:=Tryz.sizeOf20
 v20:=Tryz.zeroValue20
 t37:=Tryz.underlying163
 a37:=Tryz.isAgg163
 z37:=Tryz.sizeOf163
 v37:=Tryz.zeroValue163
 t46:=Tryz.underlying142
 a46:=Tryz.isAgg142
 z46:=Tryz.sizeOf142
 v46:=Tryz.zeroValue142
 t51:=Tryz.underlying104
 a51:=Tryz.isAgg104
 z51:=Tryz.sizeOf104
 v51:=Tryz.zeroValue104
 t53:=Tryz.underlying140
 a53:=Tryz.isAgg140
 z53:=Tryz.sizeOf140
 v53:=Tryz.zeroValue140
 t171:=Tryz.underlying200
 a171:=Tryz.isAgg200
 z171:=Tryz.sizeOf200
 v171:=Tryz.zeroValue200
 t173:=Tryz.underlying203
 a173:=Tryz.isAgg203
 z173:=Tryz.sizeOf203
 v173:=Tryz.zeroValue203
 t212:=Tryz.underlying207
 a212:=Tryz.isAgg207
 z212:=Tryz.sizeOf207
 v212:=Tryz.zeroValue207
 t213:=Tryz.underlying208
 a213:=Tryz.isAgg208
 z213:=Tryz.sizeOf208
 t232:=Tryz.underlying210
 a232:=Tryz.isAgg210
 z232:=Tryz.sizeOf210
 v232:=Tryz.zeroValue210
 t233:=Tryz.underlying211
 a233:=Tryz.isAgg211
 z233:=Tryz.sizeOf211
 v233:=Tryz.zeroValue211
 g17:=by kernel_rfl
 g18:=by kernel_rfl
 g19:=by kernel_rfl
 i0:=by kernel_rfl
 i2:=by kernel_rfl
 i3:=by kernel_rfl
 i4:=by kernel_rfl
 i5:=by kernel_rfl
 i9:=by kernel_rfl
 i20:=by kernel_rfl
 i37:=by kernel_rfl
 i46:=by kernel_rfl
 i51:=by kernel_rfl
 i53:=by kernel_rfl
 i171:=by kernel_rfl
 i173:=by kernel_rfl
 i212:=by kernel_rfl
 i232:=by kernel_rfl
 i233:=by kernel_rfl
 m17:=by kernel_rfl
 m18:=by kernel_rfl
 m19:=by kernel_rfl }
open Go.RowKit Go.Sort Go.Lib in
theorem Tryz.strconv_Itoa (n : Int) (h0 : -9223372036854775808 ≤ n) (h1 : n ≤ 9223372036854775807) (w : World) (htab : Lib.TabIs Tryz.prog w "internal/strconv.uint64pow10" .u64 Lib.pow10Tab) :
  Calls Tryz.prog 120 #[.int .i64 n] w fun e w'=>e=.returned (.string ⟨(Lib.itoa n).toArray⟩)∧∃ k os,w'=grow (w.drewN k) os:=Any.strconv_Itoa Tryz.laysM171 n h0 h1 w htab
end Go.Proofs
/- The text of a number of any size, where the library's table of powers of ten is laid. -/
namespace Go.Proofs.YtdedolkgcdlmeaaGreatDoor
open Go.RowKit Limbs
variable{w:World}
def Tab (w : World) : Prop := Lib.TabIs Tryz.prog w "internal/strconv.uint64pow10" .u64 Lib.pow10Tab
theorem Tab.below{w':World}(h:Tab w)(hb:Below w.heap.size w w'):Tab w':=by
 unfold Tab Lib.TabIs World.var? at h ⊢
 obtain ⟨g, hg⟩ : ∃ g, Tryz.prog.globalNamed "internal/strconv.uint64pow10" = some g := by
  cases hg : Tryz.prog.globalNamed "internal/strconv.uint64pow10" with
  | none=>rw [hg] at h;cases h
  | some g=>exact⟨g,rfl⟩
 rw [hg] at h ⊢;simp only [Option.bind_some] at h ⊢;have hlt:g<w.heap.size:=by
  rcases Nat.lt_or_ge g w.heap.size with h' | h'
  ·exact h'
  ·rw [Array.getElem?_eq_none h'] at h;cases h
 rw [hb.block g hlt];exact h
theorem ziw(ht:Tab w)(z:Int):ItoaOk w z:=fun W k hb hk _=>by
 refine(Go.Proofs.Tryz.strconv_Itoa k (by omega) (by omega) W (ht.below hb)).mono ?_;rintro e w' ⟨rfl,n,os,rfl⟩;refine⟨by rw [Lib.itoa_nonneg],rfl,rfl,rfl,by simp [Go.Sort.grow],fun j hj=>?_⟩;simp [Go.Sort.grow,Array.getElem?_append,hj]
theorem zkL (w:World)(va:Value)(z:Int)(n:Nat)(ht:Tab w)(ha:NumL w va z n)(hn:n≤900000)(hz:z≠0):
  Calls Tryz.prog 92 #[va] w fun e w'=>TextPost w z e w':=zkM w va z n ha hn hz (ziw ht z)
theorem zk4:txt 0=[48]:=by
 unfold txt Lib.itoa;rw [if_neg (by decide),show(0:Int).toNat=0 from rfl,Lib.decDigits,dif_pos (by decide)];rfl
theorem zkO (w:World)(va:Value)(n:Nat)(ha:NumL w va 0 n):
  Calls Tryz.prog 92 #[va] w fun e w'=>TextPost w 0 e w':=by
 have HA:=hide ha;obtain⟨⟨an,ao,al,ac⟩,rfl⟩:=ha.nm;dsimp only at *;clear ha;have hb0:Box (w.alloc (.cells #[.bool an,.slice ao al ac] 29)) w.heap.size (.bool an) (.slice ao al ac):=zf w _ _ _ _ rfl;have HW:Hid (Below w.heap.size w (w.alloc (.cells #[.bool an,.slice ao al ac] 29))):=(zB _ _).alloc zL _;obtain⟨k0,k1,-,-⟩:=hb0;go_enter Tryz.func92,Tryz.ntmps92;go_wp2_with fail;refine(zak _ _ 0 n (HA.out.below HW.out zL)).mono ?_;rintro e w1 ⟨rfl,hb⟩;rw [decide_eq_true rfl];have HF:Hid (TextPost w 0 (.returned (.string ⟨#[48]⟩)) w1):=⟨by rw [zk4],HW.out.trans (hb.mono HW.out.size)⟩;clear hb;go_wp2;go_ret;exact HF.out
theorem zkK (w:World)(va:Value)(z:Int)(n:Nat)(ht:Tab w)(ha:NumL w va z n)(hn:n≤900000):
  Calls Tryz.prog 92 #[va] w fun e w'=>TextPost w z e w':=by
 by_cases hz:z=0
 ·subst hz;exact zkO w va n ha
 ·exact zkL w va z n ht ha hn hz
end Go.Proofs.YtdedolkgcdlmeaaGreatDoor
