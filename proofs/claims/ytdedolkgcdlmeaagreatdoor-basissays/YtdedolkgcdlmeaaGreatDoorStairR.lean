import Derived.Test.YtdedolkgcdlmeaaGreatDoorMatRaw
import Derived.Test.YtdedolkgcdlmeaaGreatDoorRefJ
set_option maxRecDepth 100000
set_option maxHeartbeats 1600000
namespace Go.Proofs.YtdedolkgcdlmeaaGreatDoor
open Go.RowKit Limbs Digs
variable {n c sb base k B cap b a0 g i d:Nat}{v:Value}{W w W' wr w3:World}{r zs u us:List Int}{D:Nat→Nat}{z:Int}
def Typed (W:World)(row:Option Nat)(ts:List TypeId):Prop:=∀ g,row=some g→∃ cur t fz,W.heap[g]?=some (.cells cur t fz)∧t ∉ ts
theorem Dig.grown{row:Option Nat}{ds:List Int}(h:Dig W v ds)(hg:W.grownBy W' row)(hr:Typed W row [3]):Dig W' v ds:=by
 obtain⟨ao,cap,hv,h1,h2,h3,h4⟩:=h;refine⟨ao,cap,hv,h1,h2,h3,fun h0=>?_⟩;obtain⟨b,off,cur,fz,e,hb,hc⟩:=h4 h0;have hne:some b≠row:=fun e=>by
  obtain⟨cur',t,fz',h5,h6⟩:=hr b e.symm;rw [hb] at h5;simp only [Option.some.injEq,Obj.cells.injEq] at h5;exact h6 (by rw [← h5.2.1];exact List.mem_singleton.2 rfl)
 exact⟨b,off,cur,fz,e,(hg.block b (zt hb) hne).trans hb,fun i hi=>hg.cell (hc i hi) hne⟩
theorem NumR.grown{row:Option Nat}(h:NumR W v z n)(hg:W.grownBy W' row)(hr:Typed W row [3]):NumR W' v z n:=by
 obtain⟨s,sl,ds,h1,h2,h3⟩:=h;exact⟨s,sl,ds,h1,h2.grown hg hr,h3⟩
structure Rn where
 s:Int
 o:Option Addr
 l:Nat
 c:Nat
def Rn.val (r:Rn):Value:=.agg #[.int .i64 r.s,.slice r.o r.l r.c]
def rcells (p:Rn × Int):List Value:=[.int .i64 p.1.s,.slice p.1.o p.1.l p.1.c]
def RowR (W:World)(v:Value)(zs:List Int)(n:Nat):Prop:=
 ∃ ao cap,v=.slice ao zs.length cap∧zs.length≤cap∧(0<zs.length→∃ b cur fz,ao=some ⟨b,0,none⟩∧W.heap[b]?=some (.cells cur 40 fz) ∧
  ∀ i,i<zs.length→∃(s:Int) (o:Option Addr) (l c:Nat),W.cell? ⟨b,i*2,none⟩=some (.int .i64 s)∧W.cell? ⟨b,i*2+1,none⟩=some (.slice o l c)∧NumR W (.agg #[.int .i64 s,.slice o l c]) (zs.getD i 0) n)
theorem RowR.below(h:RowR W v zs n)(hb:Below B W W')(hB:W.heap.size≤B):RowR W' v zs n:=by
 obtain⟨ao,cap,hv,h1,h2⟩:=h;refine⟨ao,cap,hv,h1,fun h0=>?_⟩;obtain⟨b,cur,fz,e,hh,hc⟩:=h2 h0;have hlt:=zt hh;refine⟨b,cur,fz,e,(hb.block _ (by omega)).trans hh,fun i hi=>?_⟩;obtain⟨s,o,l,c,h3,h4,h5⟩:=hc i hi;exact⟨s,o,l,c,(hb.cell (p:=⟨b,i*2,none⟩) (by show b<B;omega)).trans h3,(hb.cell (p:=⟨b,i*2+1,none⟩) (by show b<B;omega)).trans h4,h5.below hb hB⟩
theorem RowR.grown{row:Option Nat}(h:RowR W v zs n)(hg:W.grownBy W' row)(hr:Typed W row [3,40]):RowR W' v zs n:=by
 obtain⟨ao,cap,hv,h1,h2⟩:=h;refine⟨ao,cap,hv,h1,fun h0=>?_⟩;obtain⟨b,cur,fz,e,hh,hc⟩:=h2 h0;have hr':Typed W row [3]:=fun g hg=>by
  obtain⟨cur',t,fz',h5,h6⟩:=hr g hg;exact⟨cur',t,fz',h5,fun h=>h6 (by rw [List.mem_singleton] at h;rw [h];exact List.mem_cons_self)⟩
 have hne:some b≠row:=fun e=>by
  obtain⟨cur',t,fz',h5,h6⟩:=hr b e.symm;rw [hh] at h5;simp only [Option.some.injEq,Obj.cells.injEq] at h5;exact h6 (by rw [← h5.2.1];exact List.mem_cons_of_mem _ (List.mem_singleton.2 rfl))
 refine⟨b,cur,fz,e,(hg.block b (zt hh) hne).trans hh,fun i hi=>?_⟩;obtain⟨s,o,l,c,h3,h4,h5⟩:=hc i hi;exact⟨s,o,l,c,hg.cell h3 hne,hg.cell h4 hne,h5.grown hg hr'⟩
theorem RowR.at(h:RowR W v zs n)(i:Nat)(hi:i<zs.length):∃ b cap,v=.slice (some ⟨b,0,none⟩) zs.length cap∧b<W.heap.size∧∃(s:Int) (o:Option Addr) (l c:Nat),W.cell? ⟨b,i*2,none⟩=some (.int .i64 s)∧W.cell? ⟨b,i*2+1,none⟩=some (.slice o l c)∧NumR W (.agg #[.int .i64 s,.slice o l c]) (zs.getD i 0) n:=by
 obtain⟨ao,cap,rfl,-,h2⟩:=h;obtain⟨b,cur,fz,rfl,hh,hc⟩:=h2 (by omega);exact⟨b,cap,rfl,zt hh,hc i hi⟩
def GrowR (W:World)(base:Nat)(v:Value)(ps:List (Rn × Int))(n:Nat):Prop:=
 W.ownsRow base 40 2 v ps.length (ps.flatMap rcells)∧∀ p∈ps,NumR W p.1.val p.2 n
theorem GrowR.nil (W:World)(base n:Nat):GrowR W base (.slice none 0 0) [] n:=⟨World.ownsRow_nil _ _ _ _,fun _ h=>by cases h⟩
theorem zd8{e:TypeId}{size:Nat}{xs:List Value}{ts:List TypeId}(h:W.ownsRow base e size v n xs)(he:e ∉ ts):Typed W v.ownBlock ts:=fun g hg=>by
 rcases h.2 with⟨rfl,-⟩ |⟨g',cap,cur,rfl,hbg,hh,-⟩
 ·cases hg
 ·simp only [Value.ownBlock,Option.some.injEq] at hg;rw [← hg];exact⟨cur,e,_,hh,he⟩
theorem GrowR.later{ps:List (Rn × Int)}(h:GrowR W base v ps n)(hb:Below W.heap.size W W'):GrowR W' base v ps n:=
 ⟨zc8 h.1 hb,fun p hp=>(h.2 p hp).below hb zL⟩
theorem Typed.alloc{row:Option Nat}{ts:List TypeId}(h:Typed W row ts)(ob:Obj):Typed (W.alloc ob) row ts:=fun g hg=>by
 obtain⟨cur,t,fz,h1,h2⟩:=h g hg;exact⟨cur,t,fz,(((zB W.heap.size W).alloc zL ob).block _ (zt h1)).trans h1,h2⟩
theorem zdN{ps:List (Rn × Int)}{r:Rn}{ob:Obj}(h:GrowR wr base v ps n)(hz:NumR wr r.val z n)
  (hown:w3.ownsRow base 40 2 (.slice (some ⟨g,0,none⟩) (ps.length+1) cap) (ps.length+1) (ps.flatMap rcells++rcells (r,z)))
  (hg:(wr.alloc ob).grownBy w3 v.ownBlock):GrowR w3 base (.slice (some ⟨g,0,none⟩) (ps.length+1) cap) (ps++[(r,z)]) n:=by
 have hty:Typed (wr.alloc ob) v.ownBlock [3]:=(zd8 h.1 (by decide)).alloc ob;refine⟨by rw [List.length_append,List.length_singleton,List.flatMap_append,List.flatMap_singleton];exact hown,fun p hp=>?_⟩;rcases List.mem_append.1 hp with h' | h'
 ·exact((h.2 p h').below ((zB _ _).alloc zL ob) zL).grown hg hty
 ·rw [List.mem_singleton] at h';rw [h'];exact(hz.below ((zB _ _).alloc zL ob) zL).grown hg hty
theorem zlf (ps:List (Rn × Int)):∀ i (h:i<ps.length),(ps.flatMap rcells)[i*2]?=some (.int .i64 ps[i].1.s)∧(ps.flatMap rcells)[i*2+1]?=some (.slice ps[i].1.o ps[i].1.l ps[i].1.c):=by
 induction ps with
 | nil=>intro i h;exact absurd h (by simp)
 | cons p ps ih=>
  intro i h;rw [List.flatMap_cons];cases i with
  | zero=>exact⟨rfl,rfl⟩
  | succ i=>
   obtain⟨h1,h2⟩:=ih i (by simpa using h);have e1:(i+1)*2=i*2+2:=by omega
   rw [e1,show i*2+2+1=i*2+1+2 by omega,List.getElem?_append_right (by simp [rcells]),List.getElem?_append_right (by simp [rcells])];exact⟨h1,h2⟩
theorem GrowR.row{ps:List (Rn × Int)}(h:GrowR W base v ps n):RowR W v (ps.map (·.2)) n:=by
 obtain⟨⟨-,h1⟩,h2⟩:=h;have hlen:(ps.map (·.2)).length=ps.length:=zM ..;rcases h1 with⟨rfl,hn⟩ |⟨g,cap,cur,rfl,hb,hh,hc1,hc2,hc3,hc4⟩
 ·exact⟨none,0,by rw [hlen,hn],by rw [hlen];omega,fun h0=>absurd h0 (by rw [hlen];omega)⟩
 ·refine⟨_,cap,by rw [hlen],by rw [hlen];exact hc1,fun h0=>⟨g,cur,_,rfl,hh,fun i hi=>?_⟩⟩;rw [hlen] at hi;obtain⟨e1,e2⟩:=zlf ps i hi;have hcell:∀ k u,k<ps.length*2→(ps.flatMap rcells)[k]?=some u→W.cell? ⟨g,k,none⟩=some u:=fun k u hk hu=>by
   have:=World.news_of_block hh k u (by rw [← hc4,List.getElem?_take,if_pos hk] at hu;exact hu);have e:(⟨g,0,none⟩:Addr).add k=⟨g,k,none⟩:=by unfold Addr.add;split <;> simp_all
   rwa [e] at this
  refine⟨ps[i].1.s,ps[i].1.o,ps[i].1.l,ps[i].1.c,hcell _ _ (by omega) e1,hcell _ _ (by omega) e2,?_⟩;have e3:(ps.map (·.2)).getD i 0=ps[i].2:=by
   rw [zG,List.getElem?_map,List.getElem?_eq_getElem hi];rfl
  rw [e3];exact h2 _ (List.getElem_mem hi)
def MatR (W:World)(v:Value)(zss:List (List Int))(n:Nat):Prop:=
 ∃ ao cap,v=.slice ao zss.length cap∧zss.length≤cap∧(0<zss.length→∃ b,ao=some ⟨b,0,none⟩∧b<W.heap.size∧∀ i zs,zss[i]?=some zs→∃ u,W.cell? ⟨b,i,none⟩=some u∧RowR W u zs n)
theorem MatR.below{w':World}{zss:List (List Int)}(h:MatR w v zss n)(hb:Below B w w')(hB:w.heap.size≤B):MatR w' v zss n:=by
 obtain⟨ao,cap,hv,h1,h2⟩:=h;refine⟨ao,cap,hv,h1,fun h0=>?_⟩;obtain⟨b,e,hlt,hc⟩:=h2 h0;refine⟨b,e,zT hlt hb.size,fun i zs hi=>?_⟩;obtain⟨u,h3,h4⟩:=hc i zs hi;exact⟨u,(hb.cell (p:=⟨b,i,none⟩) (zT hlt hB)).trans h3,h4.below hb hB⟩
def GrowM (W:World)(base:Nat)(v:Value)(qs:List (Value × List Int))(n:Nat):Prop:=
 W.ownsRow base 106 1 v qs.length (qs.map (·.1))∧∀ q∈qs,RowR W q.1 q.2 n
theorem GrowM.later{qs:List (Value × List Int)}(h:GrowM W base v qs n)(hb:Below W.heap.size W W'):GrowM W' base v qs n:=
 ⟨zc8 h.1 hb,fun p hp=>(h.2 p hp).below hb zL⟩
theorem zfC{qs:List (Value × List Int)}{u:Value}{ob:Obj}(h:GrowM wr base v qs n)(hz:RowR wr u zs n)
  (hown:w3.ownsRow base 106 1 (.slice (some ⟨g,0,none⟩) (qs.length+1) cap) (qs.length+1) (qs.map (·.1)++[u]))
  (hg:(wr.alloc ob).grownBy w3 v.ownBlock):GrowM w3 base (.slice (some ⟨g,0,none⟩) (qs.length+1) cap) (qs++[(u,zs)]) n:=by
 have hty:Typed (wr.alloc ob) v.ownBlock [3,40]:=(zd8 h.1 (by decide)).alloc ob;refine⟨by rw [List.length_append,List.length_singleton,List.map_append];exact hown,fun p hp=>?_⟩;rcases List.mem_append.1 hp with h' | h'
 ·exact((h.2 p h').below ((zB _ _).alloc zL ob) zL).grown hg hty
 ·rw [List.mem_singleton] at h';rw [h'];exact(hz.below ((zB _ _).alloc zL ob) zL).grown hg hty
theorem GrowM.mat{qs:List (Value × List Int)}(h:GrowM W base v qs n):MatR W v (qs.map (·.2)) n:=by
 obtain⟨⟨-,h1⟩,h2⟩:=h;have hlen:(qs.map (·.2)).length=qs.length:=zM ..;rcases h1 with⟨rfl,hn⟩ |⟨g,cap,cur,rfl,hb,hh,hc1,hc2,hc3,hc4⟩
 ·exact⟨none,0,by rw [hlen,hn],by rw [hlen];omega,fun h0=>absurd h0 (by rw [hlen];omega)⟩
 ·refine⟨_,cap,by rw [hlen],by rw [hlen];exact hc1,fun h0=>⟨g,rfl,zt hh,fun i zs hi=>?_⟩⟩;obtain⟨hi',e⟩:=List.getElem?_eq_some_iff.1 hi;rw [hlen] at hi';have e':zs=qs[i].2:=by rw [← e,List.getElem_map]
  have:=World.news_of_block hh i qs[i].1 (by
   have e:(qs.map (·.1))[i]?=some qs[i].1:=by rw [List.getElem?_map,List.getElem?_eq_getElem hi'];rfl
   rw [← hc4,List.getElem?_take,if_pos (by omega)] at e;exact e)
  have ea:(⟨g,0,none⟩:Addr).add i=⟨g,i,none⟩:=by unfold Addr.add;split <;> simp_all
  rw [ea] at this;exact⟨_,this,by rw [e'];exact h2 _ (List.getElem_mem hi')⟩
theorem Tryz.infoRNum:(Tryz.prog.info? 40).map (fun i=>(i.zero,i.size,i.bytes))=some (some (.agg #[.int .i64 0,.slice none 0 0]),2,32):=by kernel_rfl
theorem Tryz.infoRRow:(Tryz.prog.info? 106).map (fun i=>(i.zero,i.size,i.bytes))=some (some (.slice none 0 0),1,24):=by kernel_rfl
theorem zfx (w:World)(v:Value)(zss:List (List Int))(n:Nat)(hv:MatN w v zss n)(hn:n≤1000)(hl:zss.length≤1000)(hr:∀ zs∈zss,zs.length≤1000):
  Calls Tryz.prog 18 #[v] w fun e w'=>∃ u,e=.returned u∧MatR w' u zss (3*n)∧Below w.heap.size w w':=by
 obtain⟨i0,hi,hz0,hz1,hz2⟩:=info_parts Tryz.infoRNum;obtain⟨j0,hj,hy0,hy1,hy2⟩:=info_parts Tryz.infoRRow;have HV:=hide hv;have HR:=hide hr;obtain⟨ao,cap,rfl,-,-⟩:=hv;clear hr;go_enter Tryz.func18,Tryz.ntmps18;go_wp2;go_loopw [3,4] (fun out i wr=>∃(k:Nat) (qs:List (Value × List Int)),k≤zss.length∧i=.int .i64 k∧GrowM wr w.heap.size out qs (3*n)∧Hid (qs.map (·.2)=zss.take k)∧Below w.heap.size w wr) (fun _ i _=>zss.length-(intOf i).toNat)
 case atStart=>exact⟨0,[],Nat.zero_le _,rfl,⟨World.ownsRow_nil _ _ _ _,fun _ h=>by cases h⟩,by show _=_;simp,zB _ _⟩
 case round=>
  obtain⟨k,qs,hk,rfl,hgm,HQ,hbe⟩:=hrel;have HGM:=hide hgm;have HBE:=hide hbe;have HQL:Hid (qs.length=k):=by
   have:=congrArg List.length HQ.out;rw [zM,List.length_take] at this;show qs.length=k;omega
  clear hgm hbe;by_cases hkl:k<zss.length
  ·obtain⟨_,_,e,-,hc⟩:=HV.out.below HBE.out zL;simp only [zV,true_and] at e;obtain⟨rfl,rfl⟩:=e;obtain⟨b,off,rfl,hblt,hc⟩:=hc (by omega);obtain⟨u,cu,hu⟩:=hc k zss[k] (by simp [hkl]);have HU:=hide hu;have hzl:=HR.out _ (List.getElem_mem hkl);have HQ':Hid (∀ r:Value,(qs++[(r,zss[k])]).map (·.2)=zss.take (k+1)):=fun r=>by
    rw [List.map_append,HQ.out,List.take_succ_eq_append_getElem hkl];rfl
   clear hc;generalize zss[k]=zs at *;obtain⟨vo,vcap,rfl,-,-⟩:=hu;go_wp2;obtain⟨wo,rfl⟩:∃ wo:World,wo=wr:=⟨_,rfl⟩;go_loopw [5,6] (fun r i wr=>∃(q:Nat) (ps:List (Rn × Int)),q≤zs.length∧i=.int .i64 q∧GrowR wr wo.heap.size r ps (3*n)∧Hid (ps.map (·.2)=zs.take q)∧Below wo.heap.size wo wr) (fun _ i _=>zs.length-(intOf i).toNat)
   case atStart=>exact⟨0,[],Nat.zero_le _,rfl,GrowR.nil _ _ _,by show _=_;simp,zB _ _⟩
   case round=>
    obtain⟨q,ps,hq,rfl,hgr,HP,hbi⟩:=hrel;have HGR:=hide hgr;have HBI:=hide hbi;have HPL:Hid (ps.length=q):=by
     have:=congrArg List.length HP.out;rw [zM,List.length_take] at this;show ps.length=q;omega
    clear hgr hbi;by_cases hql:q<zs.length
    ·have cu2:wr.cell? ⟨b,off+k,none⟩=some (.slice vo zs.length vcap):=(HBI.out.cell (p:=⟨b,off+k,none⟩) hblt).trans cu;obtain⟨ab,aoff,_,e⟩:=HU.out.form (by omega);simp only [zV,true_and] at e;obtain⟨rfl,rfl⟩:=e;obtain⟨la,an,ao,al,ac,a0,a1,na⟩:=(HU.out.below HBI.out zL).at q hql;have NA:=hide na;have HP':Hid (∀ r:Rn,(ps++[(r,zs.getD q 0)]).map (·.2)=zs.take (q+1)):=fun r=>by
      rw [List.map_append,HP.out,List.take_succ_eq_append_getElem hql,zG,List.getElem?_eq_getElem hql];rfl
     clear na;generalize zs.getD q 0=z at *;go_wp2_with fail;refine(zjr wr _ z n NA.out (by omega)).mono ?_;rintro e w3 ⟨r,rfl,hr,hb3⟩;obtain⟨rs,ro,rl,rc,rfl,-⟩:=hr.form;have HG3:=hide (HGR.out.later hb3);have HB3:=hide (HBI.out.trans (hb3.mono HBI.out.size));have HR3:Hid (NumR w3 (Rn.val ⟨rs,ro,rl,rc⟩) z (3*n)):=hr;have hown:=HG3.out.1;clear hr hb3 HGR HBI a0 a1 cu2 NA;go_wp2_with (at_builtin;refine wpList_append_lies _ rfl _ _ 106 rfl wo.heap.size 40 i0 (.agg #[.int .i64 0,.slice none 0 0]) 2 32 (by kernel_rfl) hi hz0 hz1 hz2 rfl (by decide) u5 ps.length (ps.flatMap rcells) rfl (hown.alloc _) ⟨w3.heap.size,0,none⟩ 1 1 [.int .i64 rs,.slice ro rl rc] rfl rfl (World.news_of_block (heap_alloc_new w3 _)) (fun u hu=>by simp only [List.mem_cons,List.mem_nil_iff,or_false] at hu;rcases hu with rfl | rfl <;> rfl) (by decide) (by unfold maxLen;have:=HPL.out;omega) (by have:=HPL.out;omega) (by simp;have:=HB3.out.size;omega) (w3.heap.size+1) (by simp) ?_);intro g cap' w5 hown5 hgrow5 hat5 hlt5;have HN:=hide (zdN HG3.out HR3.out hown5 hgrow5);have HB5:=hide (HB3.out.trans (zaU hown HB3.out.size hgrow5));have HP5:=hide (HP'.out ⟨rs,ro,rl,rc⟩);clear hown hown5 hgrow5 hat5 hlt5 HG3 HR3 HB3 HP' HP;go_wp2;go_roundw
     case rel=>exact⟨q+1,_,by omega,by go_num,HN.out,HP5,HB5.out⟩
     case measure=>simp [intOf];omega
    ·obtain rfl:q=zs.length:=by omega
     have cu2:wr.cell? ⟨b,off+k,none⟩=some (.slice vo zs.length vcap):=(HBI.out.cell (p:=⟨b,off+k,none⟩) hblt).trans cu;have HRR:Hid (RowR wr u5 zs (3*n)):=by
      have:=HGR.out.row;rw [HP.out,List.take_length] at this;exact this
     have HG2:=hide (HGM.out.later HBI.out);have HB2:=hide (HBE.out.trans (HBI.out.mono HBE.out.size));obtain⟨so,sl,sc,rfl⟩:∃ so sl sc,u5=.slice so sl sc:=by
      obtain⟨so,sc,e,-⟩:=HRR.out;exact⟨_,_,_,e⟩
     have hown:=HG2.out.1;clear HGR HP HPL;go_wp2_with (at_builtin;refine wpList_append_lies _ rfl _ _ 43 rfl w.heap.size 106 j0 (.slice none 0 0) 1 24 (by kernel_rfl) hj hy0 hy1 hy2 rfl (by decide) u3 qs.length (qs.map (·.1)) rfl (hown.alloc _) ⟨wr.heap.size,0,none⟩ 1 1 [.slice so sl sc] rfl rfl (World.news_of_block (heap_alloc_new wr _)) (fun u hu=>by rw [List.mem_singleton] at hu;rw [hu];rfl) (by decide) (by unfold maxLen;have:=HQL.out;omega) (by have:=HQL.out;omega) (by simp;have:=HB2.out.size;omega) (wr.heap.size+1) (by simp) ?_);intro g cap' w5 hown5 hgrow5 hat5 hlt5;have HN:=hide (zfC HG2.out HRR.out hown5 hgrow5);have HB5:=hide (HB2.out.trans (zaU hown HB2.out.size hgrow5));have HQ5:=hide (HQ'.out (.slice so sl sc));clear hown hown5 hgrow5 hat5 hlt5 HG2 HRR HB2 HQ' HQ cu2;go_wp2;go_roundw
     case rel=>exact⟨k+1,_,by omega,by go_num,HN.out,HQ5,HB5.out⟩
     case measure=>simp [intOf];omega
  ·obtain rfl:k=zss.length:=by omega
   have HF:Hid (MatR wr u3 zss (3*n)):=by
    have:=HGM.out.mat;rw [HQ.out,List.take_length] at this;exact this
   clear HGM HQ;go_wp2;go_ret;exact⟨_,rfl,HF.out,HBE.out⟩
theorem NumR.nought (w:World)(n:Nat):NumR w (.agg #[.int .i64 0,.slice none 0 0]) 0 n:=
 ⟨0,.slice none 0 0,[],rfl,⟨none,0,rfl,Nat.le_refl _,by simp,by intro i;simp,fun h=>absurd h (by simp)⟩,.inl rfl,by simp,.inl ⟨rfl,rfl,rfl⟩,by simp⟩
theorem NumR.setTyped(h:NumR w v z n){c:Array Value}{t:TypeId}{fz:Nat × Nat}(hB:w.heap[B]?=some (.cells c t fz))(ht:t≠3)(k:Nat)(u:Value):NumR (w.setCell ⟨B,k,none⟩ u) v z n:=by
 obtain⟨s,sl,ds,h1,h2,h3⟩:=h;exact⟨s,sl,ds,h1,h2.setCell hB ht k u,h3⟩
def upR (r:List Int)(c:Nat):List Int:=if r.getD c 0<0 then List.zipWith (fun a b=>-1*a+0*b) r r else r
def outN (R:Nat→Option (List Int)):Nat→List (List Int)
 | 0=>[]
 | c+1=>match R c with
  | none=>outN R c
  | some r=>(outN R c).map (fun u=>lowRow u (upR r c) c)++[upR r c]
theorem zdj (r:List Int)(c:Nat):upR r c=r∨upR r c=r.map (-1*·):=by
 unfold upR;split
 ·right;exact zbF.symm
 ·exact .inl rfl
theorem zbL (r:List Int)(c:Nat):(upR r c).length=r.length:=by
 rcases zdj r c with h | h <;> rw [h]
 exact zM ..
theorem zmq(h:r.getD b 0=0):(upR r c).getD b 0=0:=by
 rcases zdj r c with e | e <;> rw [e]
 ·exact h
 ·rw [zG,List.getElem?_map] at *;cases e2:r[b]? with
  | none=>rfl
  | some x=>rw [e2] at h;simp at h ⊢;exact h
theorem zhu(hc:c<r.length)(h:r.getD c 0≠0):0<(upR r c).getD c 0:=by
 unfold upR;split
 ·rw [zl _ _ _ rfl c hc];omega
 ·omega
theorem zcd(h:u.length=r.length)(c:Nat):(lowRow u r c).length=u.length:=zj _ _ _ h
theorem zkg(h:u.length=r.length)(hb:b<u.length)(hz:r.getD b 0=0):(lowRow u r c).getD b 0=u.getD b 0:=by
 unfold lowRow;rw [zl _ _ _ h b hb,hz];omega
theorem zkh(h:u.length=r.length)(hc:c<u.length)(hp:0<r.getD c 0):0≤(lowRow u r c).getD c 0∧(lowRow u r c).getD c 0<r.getD c 0:=by
 unfold lowRow;rw [zl _ _ _ h c hc];generalize u.getD c 0=a at *;generalize r.getD c 0=y at *;have h1:=Int.emod_nonneg a (show y≠0 by omega);have h2:=Int.emod_lt_of_pos a hp;have h3:=Int.mul_ediv_add_emod a y;rw [Int.one_mul,Int.neg_mul,Int.mul_comm];omega
theorem zf5 {hs:List (List Int)}{f:List Int→List Int}(hk:k<hs.length):(hs.map f++[r]).getD k []=f hs[k]:=by
 rw [zG,List.getElem?_append_left (by simpa using hk),List.getElem?_map,List.getElem?_eq_getElem hk];rfl
theorem zdT {hs:List (List Int)}{f:List Int→List Int}:(hs.map f++[r]).getD hs.length []=r:=by
 rw [zG,List.getElem?_append_right (by simp)];simp
theorem zjp{hs:List (List Int)}{p:Nat→Nat}(h:FormL n hs p)(hlt:∀ k,k<hs.length→p k<c)(hc:c<n)(hr:r.length=n)(hz:∀ b,b<c→r.getD b 0=0)(hp:0<r.getD c 0):
  ∃ p',FormL n (hs.map (fun u=>lowRow u r c)++[r]) p'∧∀ k,k<(hs.map (fun u=>lowRow u r c)++[r]).length→p' k<c+1:=by
 have hlen:∀ k (hk:k<hs.length),hs[k].length=r.length:=fun k hk=>(h.len _ (List.getElem_mem hk)).trans hr.symm;have hL:(hs.map (fun u=>lowRow u r c)++[r]).length=hs.length+1:=by simp
 have ahead:∀ k (hk:k<hs.length) b,b<c→((hs.map (fun u=>lowRow u r c)++[r]).getD k []).getD b 0=(hs.getD k []).getD b 0:=fun k hk b hb=>by
  rw [zf5 hk,zm hk];exact zkg (hlen k hk) (by rw [hlen k hk,hr];omega) (hz b hb)
 refine⟨fun k=>if k=hs.length then c else p k,⟨fun u hu=>?_,⟨fun i k hik hk=>?_,fun i hi=>?_,fun i b hi hb=>?_,fun i hi=>?_,fun i k hik hk=>?_⟩⟩,fun k hk=>?_⟩
 ·rcases List.mem_append.1 hu with h1 | h1
  ·obtain⟨x,hx,rfl⟩:=List.mem_map.1 h1;have:=h.len x hx;rw [zcd (by omega)];exact this
  ·rw [List.mem_singleton] at h1;rw [h1];exact hr
 ·try dsimp only
  rw [hL] at hk;rw [if_neg (show i≠hs.length by omega)];by_cases e:k=hs.length
  ·rw [if_pos e];exact hlt i (by omega)
  ·rw [if_neg e];exact h.form.inc i k hik (by omega)
 ·try dsimp only
  rw [hL] at hi;by_cases e:i=hs.length
  ·rw [if_pos e];exact hc
  ·rw [if_neg e];exact h.form.lt i (by omega)
 ·try dsimp only at hb ⊢
  rw [hL] at hi;by_cases e:i=hs.length
  ·rw [if_pos e] at hb;rw [e,zdT];exact hz b hb
  ·rw [if_neg e] at hb;have h1:=hlt i (by omega);rw [ahead i (by omega) b (by omega)];exact h.form.zero i b (by omega) hb
 ·try dsimp only
  rw [hL] at hi;by_cases e:i=hs.length
  ·rw [if_pos e,e,zdT];exact hp
  ·rw [if_neg e,ahead i (by omega) _ (hlt i (by omega))];exact h.form.pos i (by omega)
 ·try dsimp only
  rw [hL] at hk;by_cases e:k=hs.length
  ·rw [if_pos e,e,zdT,zf5 (show i<hs.length by omega)];exact zkh (hlen i (by omega)) (by rw [hlen i (by omega),hr];exact hc) hp
  ·rw [if_neg e,ahead i (by omega) _ (hlt k (by omega)),ahead k (by omega) _ (hlt k (by omega))];exact h.form.red i k hik (by omega)
 ·try dsimp only
  rw [hL] at hk;by_cases e:k=hs.length
  ·rw [if_pos e];omega
  ·rw [if_neg e];have:=hlt k (by omega);omega
def NZ (R:Nat→Option (List Int)):Prop:=∀ i r,R i=some r→r.getD i 0≠0
theorem zkZ {R:Nat→Option (List Int)}(hE:Ech R n n)(hN:NZ R)(c:Nat)(hc:c≤n):∃ p,FormL n (outN R c) p∧∀ k,k<(outN R c).length→p k<c:=by
 induction c with
 | zero=>exact⟨fun _=>0,⟨fun r hr=>(by cases hr),⟨fun i k _ hk=>absurd hk (by simp [outN]),fun i hi=>absurd hi (by simp [outN]),fun i b hi=>absurd hi (by simp [outN]),fun i hi=>absurd hi (by simp [outN]),fun i k _ hk=>absurd hk (by simp [outN])⟩⟩,fun k hk=>absurd hk (by simp [outN])⟩
 | succ c ih=>
  obtain⟨p,h1,h2⟩:=ih (by omega);unfold outN;cases e:R c with
  | none=>exact⟨p,h1,fun k hk=>Nat.lt_succ_of_lt (h2 k hk)⟩
  | some r=>
   have hl:=hE.len c r e;exact zjp h1 h2 (by omega) ((zbL r c).trans hl) (fun b hb=>zmq (hE.zero c r e b hb)) (zhu (by omega) (hN c r e))
theorem zd7 {R:Nat→Option (List Int)}(hE:Ech R n n)(c:Nat):∀ u∈outN R c,u.length=n:=by
 induction c with
 | zero=>exact fun u hu=>by cases hu
 | succ c ih=>
  unfold outN;cases e:R c with
  | none=>exact ih
  | some r=>
   have hl:=(zbL r c).trans (hE.len c r e);intro u hu;rcases List.mem_append.1 hu with h | h
   ·obtain⟨x,hx,rfl⟩:=List.mem_map.1 h;have:=ih x hx;rw [zcd (by omega)];exact this
   ·rw [List.mem_singleton] at h;rw [h];exact hl
def RowsTo (R:Nat→Option (List Int))(c:Nat):List Int→Prop:=fun v=>∃ i,i<c∧R i=some v
theorem zg6{S:List Int→Prop}(h:Gens n S r):Gens n S (upR r c):=by
 rcases zdj r c with e | e <;> rw [e]
 ·exact h
 ·rw [zbF];exact .comb _ _ h h
theorem zlB{S:List Int→Prop}(h:Gens n S (upR r c)):Gens n S r:=by
 rcases zdj r c with e | e <;> rw [e] at h
 ·exact h
 ·have:=Gens.comb (-1) 0 h h;rw [← zbF,List.map_map] at this;have e2:((fun x:Int=>-1*x) ∘ fun x=>-1*x)=id:=by funext x;simp
  rwa [e2,List.map_id] at this
theorem zkX {R:Nat→Option (List Int)}(hE:Ech R n n)(c:Nat):Alikes n (InL (outN R c)) (RowsTo R c):=by
 induction c with
 | zero=>exact .of (fun v hv _=>by cases hv) (fun v hv _=>by obtain⟨i,hi,-⟩:=hv;omega)
 | succ c ih=>
  have up:∀ v,RowsTo R c v→RowsTo R (c+1) v:=fun v ⟨i,hi,e⟩=>⟨i,by omega,e⟩;unfold outN;cases e:R c with
  | none=>
   refine ih.trans (.of (fun v hv hvl=>.base (up v hv) hvl) (fun v hv hvl=>?_));obtain⟨i,hi,e'⟩:=hv;exact .base ⟨i,by
    by_cases h:i=c
    ·rw [h,e] at e';cases e'
    ·omega,e'⟩ hvl
  | some r=>
   have hl:=hE.len c r e;have gr:Gens n (RowsTo R (c+1)) r:=.base ⟨c,by omega,e⟩ hl;refine .of (fun v hv hvl=>?_) (fun v hv hvl=>?_)
   ·rcases List.mem_append.1 hv with h | h
    ·obtain⟨u,hu,rfl⟩:=List.mem_map.1 h;have hul:u.length=n:=zd7 hE c u hu;have gu:Gens n (RowsTo R (c+1)) u:=((ih u).1 (.base hu hul)).trans fun x hx hxl=>.base (up x hx) hxl;exact gu.low (zg6 gr) c
    ·rw [List.mem_singleton] at h;rw [h];exact zg6 gr
   ·have gp:Gens n (InL ((outN R c).map (fun u=>lowRow u (upR r c) c)++[upR r c])) (upR r c):=.base (List.mem_append_right _ (List.mem_singleton.2 rfl)) ((zbL r c).trans hl);obtain⟨i,hi,e'⟩:=hv;by_cases h:i=c
    ·rw [h,e] at e';obtain rfl:=zI e';exact zlB gp
    ·have g1:=(ih v).2 (.base ⟨i,by omega,e'⟩ hvl);refine g1.trans fun u hu hul=>?_;refine Gens.unlow (k:=c) (hul.trans ((zbL r c).trans hl).symm) (.base (List.mem_append_left _ (List.mem_map.2 ⟨u,hu,rfl⟩)) ?_) gp;rw [zcd (hul.trans ((zbL r c).trans hl).symm)];exact hul
theorem zkY {R:Nat→Option (List Int)}(hE:Ech R n n):Alikes n (InL (outN R n)) (RowsOf R):=
 (zkX hE n).trans (.of (fun v hv hvl=>by obtain⟨i,-,e⟩:=hv;exact .base ⟨i,e⟩ hvl) (fun v hv hvl=>by obtain⟨i,e⟩:=hv;exact .base ⟨i,hE.lt i v e,e⟩ hvl))
theorem zgt (R:Nat→Option (List Int))(c:Nat):(outN R c).length≤c:=by
 induction c with
 | zero=>exact Nat.le_refl _
 | succ c ih=>
  unfold outN;split
  ·omega
  ·simp;omega
theorem RowR.setTyped(h:RowR w v zs n){c:Array Value}{t:TypeId}{fz:Nat × Nat}(hB:w.heap[B]?=some (.cells c t fz))(h1:t≠3)(h2:t≠40)(k:Nat)(u:Value):RowR (w.setCell ⟨B,k,none⟩ u) v zs n:=by
 obtain⟨ao,cap,hv,h3,h4⟩:=h;refine⟨ao,cap,hv,h3,fun h0=>?_⟩;obtain⟨b,cur,fz',e,hh,hc⟩:=h4 h0;have hne:b≠B:=fun e=>by
  subst e;rw [hh] at hB;simp only [Option.some.injEq,Obj.cells.injEq] at hB;exact h2 hB.2.1.symm
 refine⟨b,cur,fz',e,(heap_setCell_other w ⟨B,k,none⟩ b u hne).trans hh,fun i hi=>?_⟩;obtain⟨s,o,l,c',h5,h6,h7⟩:=hc i hi;exact⟨s,o,l,c',(World.cell?_setCell_other (h:=fun e=>by simp at e <;> omega) ..).trans h5,(World.cell?_setCell_other (h:=fun e=>by simp at e <;> omega) ..).trans h6,h7.setTyped hB h1 k u⟩
theorem RowR.mono{m:Nat}(h:RowR w v zs n)(hm:n≤m):RowR w v zs m:=by
 obtain⟨ao,cap,hv,h3,h4⟩:=h;refine⟨ao,cap,hv,h3,fun h0=>?_⟩;obtain⟨b,cur,fz',e,hh,hc⟩:=h4 h0;refine⟨b,cur,fz',e,hh,fun i hi=>?_⟩;obtain⟨s,o,l,c',h5,h6,h7⟩:=hc i hi;exact⟨s,o,l,c',h5,h6,h7.mono hm⟩
theorem RowR.form(h:RowR w v zs n)(h0:0<zs.length):∃ b cap,v=.slice (some ⟨b,0,none⟩) zs.length cap:=by
 obtain⟨ao,cap,rfl,h3,h4⟩:=h;obtain⟨b,-,-,rfl,-⟩:=h4 h0;exact⟨b,cap,rfl⟩
def dT (a:Nat):Nat→Nat
 | 0=>a
 | j+1=>2*dT a j+8
theorem zZ{a j:Nat}(h:i≤j):dT a i≤dT a j:=by
 induction j with
 | zero => obtain rfl : i = 0 := by omega
           exact Nat.le_refl _
 | succ j ih=>
  by_cases e:i=j+1
  ·rw [e];exact Nat.le_refl _
  ·have:=ih (by omega);show dT a i≤2*dT a j+8;omega
structure StairR (w W:World)(sb n:Nat)(R:Nat→Option (List Int))(D:Nat→Nat):Prop where
 low:w.heap.size≤sb
 below:Below w.heap.size w W
 blk:∃ cs,W.heap[sb]?=some (.cells cs 106)
 nil:∀ i,i<n→R i=none→W.cell? ⟨sb,i,none⟩=some (.slice none 0 0)
 row:∀ i,i<n→∀ r,R i=some r→∃ b cap,W.cell? ⟨sb,i,none⟩=some (.slice (some ⟨b,0,none⟩) r.length cap)∧RowR W (.slice (some ⟨b,0,none⟩) r.length cap) r (D i)
theorem StairR.lt{R:Nat→Option (List Int)}(h:StairR w W sb n R D):sb<W.heap.size:=by
 obtain⟨cs,e⟩:=h.blk;exact zt e
theorem StairR.later{R:Nat→Option (List Int)}(h:StairR w W sb n R D)(hb:Below W.heap.size W W'):StairR w W' sb n R D where
 low:=h.low
 below:=h.below.trans (hb.mono h.below.size)
 blk:=by obtain⟨cs,e⟩:=h.blk;exact⟨cs,(hb.block _ (zt e)).trans e⟩
 nil:=fun i hi e=>(hb.cell (p:=⟨sb,i,none⟩) h.lt).trans (h.nil i hi e)
 row:=fun i hi r e=>by
  obtain⟨b,cap,hc,hv⟩:=h.row i hi r e;exact⟨b,cap,(hb.cell (p:=⟨sb,i,none⟩) h.lt).trans hc,hv.below hb zL⟩
theorem StairR.mono{R:Nat→Option (List Int)}{D':Nat→Nat}(h:StairR w W sb n R D)(hn:∀ i,i<n→D i≤D' i):StairR w W sb n R D':=
 ⟨h.low,h.below,h.blk,h.nil,fun i hi r e=>by
  obtain⟨b,cap,hc,hv⟩:=h.row i hi r e;exact⟨b,cap,hc,hv.mono (hn i hi)⟩⟩
theorem StairR.cell{R:Nat→Option (List Int)}(h:StairR w W sb n R D)(hi:i<n):∃ o l c,W.cell? ⟨sb,i,none⟩=some (.slice o l c):=by
 cases e:R i with
 | none=>exact⟨_,_,_,h.nil i hi e⟩
 | some r=>obtain⟨b,cap,hc,-⟩:=h.row i hi r e;exact⟨_,_,_,hc⟩
theorem StairR.thaw{R:Nat→Option (List Int)}(h:StairR w W sb n R D)(k:Nat):W.frozen? ⟨sb,k,none⟩=false:=by
 obtain⟨cs,e⟩:=h.blk;simp [World.frozen?,e]
theorem StairR.set{R:Nat→Option (List Int)}(h:StairR w W sb n R D)(hk:k<n)(hr:RowR W (.slice (some ⟨b,0,none⟩) r.length cap) r d):
  StairR w (W.setCell ⟨sb,k,none⟩ (.slice (some ⟨b,0,none⟩) r.length cap)) sb n (putRow R k r) (fun i=>if i=k then d else D i):=by
 obtain⟨cs,hcs⟩:=h.blk;obtain⟨o,l,c,hc⟩:=h.cell hk
 have oth:∀ i u,i≠k→W.cell? ⟨sb,i,none⟩=some u→(W.setCell ⟨sb,k,none⟩ (.slice (some ⟨b,0,none⟩) r.length cap)).cell? ⟨sb,i,none⟩=some u:=fun i u hi e=>
  (World.cell?_setCell_other (h:=fun e=>by simp at e <;> omega) ..).trans e
 refine⟨h.low,h.below.setCell h.low _,⟨_,heap_setCell_same W sb k _ _ _ hcs⟩,?_,?_⟩
 ·intro i hi e;unfold putRow at e;by_cases hik:i=k
  ·rw [if_pos hik] at e;cases e
  ·rw [if_neg hik] at e;exact oth i _ hik (h.nil i hi e)
 ·intro i hi r' e;unfold putRow at e;by_cases hik:i=k
  ·rw [if_pos hik] at e;obtain rfl:=zI e;subst hik;exact⟨b,cap,World.cell?_setCell_same (h:=hc) ..,by rw [if_pos rfl];exact hr.setTyped hcs (by decide) (by decide) _ _⟩
  ·rw [if_neg hik] at e;obtain⟨b',cap',hc',hv'⟩:=h.row i hi r' e;exact⟨b',cap',oth i _ hik hc',by rw [if_neg hik];exact hv'.setTyped hcs (by decide) (by decide) _ _⟩
theorem StairR.made (w:World)(n:Nat)(D:Nat→Nat):StairR w (w.alloc (.cells (madeCells #[.slice none 0 0] n) 106)) w.heap.size n (fun _=>none) D where
 low:=Nat.le_refl _
 below:=(zB _ _).alloc zL _
 blk:=⟨_,heap_alloc_new w _⟩
 nil:=fun i hi _=>by
  rw [World.cell?_alloc_new];simp [madeCells,hi,Nat.mod_one]
 row:=fun i hi r e=>by cases e
def cn (R:Nat→Option (List Int)):Nat→Nat
 | 0=>0
 | c+1=>cn R c+if (R c).isSome then 1 else 0
theorem ziu (c:Nat):cn (fun _=>none) c=0:=by
 induction c with
 | zero=>rfl
 | succ c ih=>show cn (fun _=>none) c+0=0;omega
theorem zfa (R:Nat→Option (List Int))(c:Nat):cn R c≤c:=by
 induction c with
 | zero=>exact Nat.le_refl _
 | succ c ih=>unfold cn;split <;> omega
theorem zdt (R:Nat→Option (List Int))(h:c≤d):cn R c≤cn R d:=by
 induction d with
 | zero => obtain rfl : c = 0 := by omega
           exact Nat.le_refl _
 | succ d ih=>
  by_cases e:c=d+1
  ·rw [e];exact Nat.le_refl _
  ·have:=ih (by omega);have e2:cn R (d+1)=cn R d+if (R d).isSome then 1 else 0:=rfl;omega
theorem ziv {R:Nat→Option (List Int)}(h:R c=some r):cn R (c+1)=cn R c+1:=by
 show cn R c+(if (R c).isSome then 1 else 0)=_;rw [h];rfl
theorem zds {R:Nat→Option (List Int)}(h:R c=some r)(t:List Int)(a:Nat):cn (putRow R c t) a=cn R a:=by
 induction a with
 | zero=>rfl
 | succ a ih=>
  show cn (putRow R c t) a+(if (putRow R c t a).isSome then 1 else 0)=cn R a+if (R a).isSome then 1 else 0;rw [ih];unfold putRow;by_cases e:a=c
  ·rw [if_pos e,e,h];rfl
  ·rw [if_neg e]
theorem zfb (R:Nat→Option (List Int))(c:Nat)(t:List Int)(a:Nat):cn R a≤cn (putRow R c t) a∧cn (putRow R c t) a≤cn R a+if c<a then 1 else 0:=by
 induction a with
 | zero=>exact⟨Nat.le_refl _,by rw [if_neg (Nat.not_lt_zero c)];exact Nat.le_refl _⟩
 | succ a ih=>
  have e1:cn (putRow R c t) (a+1)=cn (putRow R c t) a+(if (putRow R c t a).isSome then 1 else 0):=rfl;have e2:cn R (a+1)=cn R a+(if (R a).isSome then 1 else 0):=rfl;rw [e1,e2];unfold putRow at *;by_cases e:a=c
  ·rw [if_pos e];rw [if_neg (show ¬ c<a by omega)] at ih;rw [if_pos (show c<a+1 by omega)];have h1:(if (some t).isSome=true then 1 else 0)=1:=rfl;rw [h1];split <;> omega
  ·rw [if_neg e];by_cases h:c<a
   ·rw [if_pos h] at ih;rw [if_pos (show c<a+1 by omega)];omega
   ·rw [if_neg h] at ih;rw [if_neg (show ¬ c<a+1 by omega)];omega
structure InR (w wr:World)(sb n a0 k c:Nat)(rows R:Nat→Option (List Int))(us zs:List Int)(v:Value):Prop where
 st:StairR w wr sb n R (fun a=>if a<c then dT a0 (k+1+cn R a) else dT a0 (k+cn R a))
 ech:Ech R n n
 nz:NZ R
 zero:∀ j,j<c→zs.getD j 0=0
 vec:RowR wr v zs (dT a0 (k+cn R c))
 len:zs.length=n
 gen:Alikes n (RowsOr R zs) (RowsOr rows us)
 cnt:cn R n≤k
structure OutR (w wr:World)(sb n a0 k:Nat)(R:Nat→Option (List Int))(S:List Int→Prop):Prop where
 st:StairR w wr sb n R (fun a=>dT a0 (k+cn R a))
 ech:Ech R n n
 nz:NZ R
 gen:Alikes n (RowsOf R) S
 cnt:cn R n≤k
theorem NZ.set {R:Nat→Option (List Int)}(h:NZ R)(hr:r.getD k 0≠0):NZ (putRow R k r):=fun i v e=>by
 unfold putRow at e;by_cases hi:i=k
 ·rw [if_pos hi] at e;obtain rfl:=zI e;rw [hi];exact hr
 ·rw [if_neg hi] at e;exact h i v e
theorem InR.next{rows R:Nat→Option (List Int)}(h:InR w wr sb n a0 k c rows R us zs v)(h0:zs.getD c 0=0):InR w wr sb n a0 k (c+1) rows R us zs v:=
 ⟨h.st.mono fun i _=>by
  by_cases h1:i<c
  ·rw [if_pos h1,if_pos (by omega)];exact Nat.le_refl _
  ·rw [if_neg h1];split
   ·exact zZ (by omega)
   ·exact Nat.le_refl _,h.ech,h.nz,fun j hj=>by
  by_cases e:j=c
  ·rw [e];exact h0
  ·exact h.zero j (by omega),h.vec.mono (zZ (by have:=zdt R (show c≤c+1 by omega);omega)),h.len,h.gen,h.cnt⟩
theorem InR.last{rows R:Nat→Option (List Int)}(h:InR w wr sb n a0 k n rows R us zs v):OutR w wr sb n a0 (k+1) R (RowsOr rows us):=
 ⟨h.st.mono fun i hi=>by rw [if_pos hi];exact Nat.le_refl _,h.ech,h.nz,(zeM h.len h.zero).trans h.gen,Nat.le_succ_of_le h.cnt⟩
theorem InR.lay{rows R:Nat→Option (List Int)}(h:InR w wr sb n a0 k c rows R us zs (.slice (some ⟨b,0,none⟩) zs.length cap))(hc:c<n)(hr:R c=none)(h0:zs.getD c 0≠0):
  OutR w (wr.setCell ⟨sb,c,none⟩ (.slice (some ⟨b,0,none⟩) zs.length cap)) sb n a0 (k+1) (putRow R c zs) (RowsOr rows us):=by
 refine⟨(h.st.set hc h.vec).mono fun i _=>?_,h.ech.set h.len h.zero hc,h.nz.set h0,?_,?_⟩
 ·have hcp:=(zfb R c zs i).1;by_cases h1:i=c
  ·rw [if_pos h1];subst h1;exact zZ (by omega)
  ·rw [if_neg h1];split
   ·exact zZ (by omega)
   ·exact zZ (by omega)
 ·have:=zeO (R:=R) hr h.len (z:=1) (.inl rfl);have e:zs.map ((1:Int)*·)=zs:=by
   have:(fun x:Int=>1*x)=id:=by funext x;simp
   rw [this,List.map_id]
  rw [e] at this;exact this.trans h.gen
 ·have h1:=(zfb R c zs n).2;rw [if_pos hc] at h1;have:=h.cnt;omega
theorem zls (m:Nat)(hm:m≤1000)(W:World):(Instr.makeSlice 42 (.int .i64 (m:Int)) (.int .i64 (m:Int))).run Tryz.prog W=.ok (.slice (some ⟨W.heap.size,0,none⟩) m m) (W.alloc (.cells (madeCells #[.slice none 0 0] m) 106)):=by
 obtain⟨i0,hi,hz0,hz1,hz2⟩:=info_parts Tryz.infoRRow;have h:=run_make (P:=Tryz.prog) W 42 106 i0 (.slice none 0 0) (by kernel_rfl) hi hz0 .i64 .i64 m m (by omega) (by omega) (by rw [hz2];omega) (by omega);rw [hz1,Int.toNat_natCast,Nat.mul_one] at h;exact h
theorem zgX (w:World):Sem.run Tryz.prog (binOp .eql 106 (.slice none 0 0) (.slice none 0 0)) w=.ok (.bool true) w:=by kernel_rfl
theorem zg0 (w:World)(a:Addr)(l c:Nat):Sem.run Tryz.prog (binOp .eql 106 (.slice (some a) l c) (.slice none 0 0)) w=.ok (.bool false) w:=by kernel_rfl
end Go.Proofs.YtdedolkgcdlmeaaGreatDoor
