import Derived.Test.YtncamilanceahaaGreatRefH
import Derived.Test.YtncamilanceahaaGreatTl2
set_option maxRecDepth 100000
set_option maxHeartbeats 1600000
namespace Go.Proofs.YtncamilanceahaaGreat
open Go.RowKit Limbs Digs
variable{n c base B i g cap b k:Nat}{v:Value}{r zs u ds p:List Int}{W W' wr w3 w:World}{z A s:Int}
theorem zgP{sa sb B:Int}(ha:(A=0∧sa=0)∨(0<A∧(sa=1∨sa=-1)))(hb:(B=0∧sb=0)∨(0<B∧(sb=1∨sb=-1)))(hne:sa≠sb):cmpI (sa*A) (sb*B)=if sa<sb then -1 else 1:=by
 unfold cmpI;rcases ha with⟨rfl,rfl⟩ |⟨h1,rfl | rfl⟩ <;> rcases hb with⟨rfl,rfl⟩ |⟨h2,rfl | rfl⟩ <;>(repeat' split) <;> omega
theorem zgO{B:Int}(ha:(A=0∧s=0)∨(0<A∧(s=1∨s=-1)))(hb:(B=0∧s=0)∨(0<B∧(s=1∨s=-1))):s*cmpI A B=cmpI (s*A) (s*B):=by
 unfold cmpI;rcases ha with⟨rfl,rfl⟩ |⟨h1,rfl | rfl⟩ <;>(repeat' split) <;> omega
theorem zgJ (a b:Int):-1≤cmpI a b∧cmpI a b≤1:=by unfold cmpI;repeat' split;all_goals omega
theorem zbl{sl:Value}(hd:DB ds)(hn:Nrm ds)(h:(ds.length=0∧s=0∧sl=.slice none 0 0)∨(0<ds.length∧(s=1∨s=-1))):(dv ds=0∧s=0)∨(0<dv ds∧(s=1∨s=-1)):=by
 rcases h with⟨h1,h2,-⟩ |⟨h1,h2⟩
 ·exact .inl ⟨(zch hd hn).2 h1,h2⟩
 ·exact .inr ⟨zcg hd hn (by omega),h2⟩
theorem zgK (w:World)(va vb:Value)(x y:Int)(n m:Nat)(ha:NumR w va x n)(hb:NumR w vb y m):
  Calls Tryz.prog 65 #[va,vb] w fun e w'=>CmpPost w (cmpI x y) e w':=by
 obtain⟨sa,la,a,rfl,hla,nra,hx,hsa,hna⟩:=ha;obtain⟨sb,lb,b,rfl,hlb,nrb,hy,hsb,hnb⟩:=hb;have HA:=hide hla;have HB:=hide hlb;obtain⟨ao,acap,rfl,-,-,adb,-⟩:=hla;obtain⟨bo,bcap,rfl,-,-,bdb,-⟩:=hlb;have h1:=zbl adb nra hsa;have h2:=zbl bdb nrb hsb;clear hsa hsb;subst hx hy;have hW:Below w.heap.size w ((w.alloc (.cells #[.int .i64 sa,.slice ao a.length acap] 76)).alloc (.cells #[.int .i64 sb,.slice bo b.length bcap] 76)):=((zB _ _).alloc zL _).alloc (by simp) _;have HW:=hide hW;clear hW;by_cases hss:sa=sb
 ·subst hss;have HE:=hide (zgO h1 h2);have hs1:sa=0∨sa=1∨sa=-1:=by omega
  clear h1 h2;go_enter Tryz.func65,Tryz.ntmps65;have b1:Box ((w.alloc (.cells #[.int .i64 sa,.slice ao a.length acap] 76)).alloc (.cells #[.int .i64 sa,.slice bo b.length bcap] 76)) w.heap.size (.int .i64 sa) (.slice ao a.length acap):=(zl w _ _ _ _ rfl).later ((zB _ _).alloc (by simp) _:Below (w.heap.size+1) _ _) (by omega);have b2:Box ((w.alloc (.cells #[.int .i64 sa,.slice ao a.length acap] 76)).alloc (.cells #[.int .i64 sa,.slice bo b.length bcap] 76)) (w.heap.size+1) (.int .i64 sa) (.slice bo b.length bcap):=zl _ _ _ _ _ (by simp);have l1:w.heap.size+1<((w.alloc (.cells #[.int .i64 sa,.slice ao a.length acap] 76)).alloc (.cells #[.int .i64 sa,.slice bo b.length bcap] 76)).heap.size:=by simp
  go_wp2_with fail;generalize (w.alloc (.cells #[.int .i64 sa,.slice ao a.length acap] 76)).alloc (.cells #[.int .i64 sa,.slice bo b.length bcap] 76)=W at *;have B1:=hide b1;have B2:=hide b2;obtain⟨k0,k1,-,-⟩:=b1;obtain⟨l0,l2,-,-⟩:=b2
  go_region_held3 (fun w'=>w'.cell? ⟨w.heap.size,0,none⟩=some (.int .i64 sa)∧w'.cell? ⟨w.heap.size,1,none⟩=some (.slice ao a.length acap)∧w'.cell? ⟨w.heap.size+1,0,none⟩=some (.int .i64 sa)∧w'.cell? ⟨w.heap.size+1,1,none⟩=some (.slice bo b.length bcap)) (go_keep)
    (first |(go_at_call 76;refine(zcN _ _ _ a b (HA.out.below HW.out.drew zL) (HB.out.below HW.out.drew zL) nra nrb).mono ?_;rintro e w1 ⟨rfl,hb1⟩;have C1:=hide (B1.out.drew.later hb1 (by show _<W.heap.size;omega));have C2:=hide (B2.out.drew.later hb1 (by show _<W.heap.size;omega));have HW1:=hide (HW.out.drew.trans (hb1.mono HW.out.size));clear hb1;obtain⟨p0,p1,-,-⟩:=C1.out;obtain⟨q0,q1,-,-⟩:=C2.out))
  have hc:=zgJ (dv a) (dv b);have hm:IntKind.i64.wrap (sa*cmpI (dv a) (dv b))=sa*cmpI (dv a) (dv b):=by rw [IntKind.wrap_i64];rcases hs1 with h | h | h <;> subst h <;> omega
  have HE':=hide (show CmpPost w (cmpI (sa*dv a) (sa*dv b)) (.returned (.int .i64 (sa*cmpI (dv a) (dv b)))) w1 from⟨by rw [HE.out],HW1.out⟩);clear HE;generalize cmpI (dv a) (dv b)=z at *;go_wp2;go_ret;show CmpPost _ _ (.returned (.int .i64 (IntKind.i64.wrap (sa*z)))) _;rw [hm];exact HE'.out
 ·have hd1:(sa==sb)=false:=by simp [hss]
  have hd2:(sa != sb)=true:=by simp [hss]
  have HE:=hide (zgP h1 h2 hss);clear h1 h2;by_cases hlt:sa<sb
  ·rw [HE.out,if_pos hlt];clear HE;go_enter Tryz.func65,Tryz.ntmps65;go_wp2;go_ret;exact⟨rfl,HW.out⟩
  ·rw [HE.out,if_neg hlt];clear HE;go_enter Tryz.func65,Tryz.ntmps65;go_wp2;go_ret;exact⟨rfl,HW.out⟩
theorem zcl (w:World)(va vb:Value)(x y:Int)(n:Nat)(ha:NumR w va x n)(hb:NumR w vb y n)(hn:n<1000000000000):
  Calls Tryz.prog 62 #[va,vb] w fun e w'=>RefPost w (x-y) (n+1) e w':=by
 have HA:=hide ha;have HB:=hide hb;obtain⟨sa,ao,al,ac,rfl,-⟩:=ha.form;obtain⟨sb,bo,bl,bc,rfl,-⟩:=hb.form;clear ha hb;go_enter Tryz.func62,Tryz.ntmps62;go_wp2_with fail;have hT:=hide (threeR w (.int .i64 sa) (.slice ao al ac) (.int .i64 sb) (.slice bo bl bc) (.int .i64 0) (.slice none 0 0));generalize ((w.alloc (.cells #[.int .i64 sa,.slice ao al ac] 76)).alloc (.cells #[.int .i64 sb,.slice bo bl bc] 76)).alloc (.cells #[.int .i64 0,.slice none 0 0] 76)=W at *;obtain⟨k0,k1,-,-⟩:=hT.out.fst.box;obtain⟨l0,l1,-,-⟩:=hT.out.snd.box;have hn2:¬(w.heap.size+1+1=w.heap.size):=by omega
 have hn3:¬(w.heap.size=w.heap.size+1+1):=by omega
 go_region_held3 (fun w'=>w'.cell? ⟨w.heap.size,0,none⟩=some (.int .i64 sa)∧w'.cell? ⟨w.heap.size,1,none⟩=some (.slice ao al ac)∧w'.cell? ⟨w.heap.size+1,0,none⟩=some (.int .i64 sb)∧w'.cell? ⟨w.heap.size+1,1,none⟩=some (.slice bo bl bc)) (go_keep)
   (first
    |(go_at_call 47;refine(zaN _ _ y n (HB.out.below hT.out.drew.below zL)).mono ?_;rintro e w1 ⟨v1,rfl,hv1,hb1⟩;have hT1:=hide (hT.out.drew.later hb1);obtain⟨s1,o1,m1,c1,rfl,-⟩:=hv1.form;have HV:=hide hv1;clear hv1 hb1;obtain⟨p0,p1,-,-⟩:=hT1.out.fst.box;obtain⟨q0,q1,-,-⟩:=hT1.out.snd.box)
    |(go_at_call 64;refine(zcy _ _ _ x (-y) n (HA.out.below hT1.out.below zL) HV.out hn).mono ?_;rintro e w2 ⟨r,rfl,hr,hb2⟩;have hT2:=hide (hT1.out.later hb2);clear hb2;obtain⟨p0',p1',-,-⟩:=hT2.out.fst.box;obtain⟨q0',q1',-,-⟩:=hT2.out.snd.box;obtain⟨c0,c1,f0,f1⟩:=hT2.out.res.box;rw [← Int.sub_eq_add_neg] at hr;have HR:=hide hr;obtain⟨sr,o,l,c,rfl,-⟩:=hr.form;clear hr))
 have HF:=hide (boxedR (w:=w) HR.out hT2.out.res hT2.out.below (by omega));clear hT1 hT2 HR HV;go_wp2;exact bodyPost_ret (v:=.agg #[.int .i64 sr,.slice o l c]) (by simp [results,Tryz.results62,go_sem,c0,c1]) rfl HF.out
def Typed (W:World)(row:Option Nat)(ts:List TypeId):Prop:=∀ g,row=some g→∃ cur t fz,W.heap[g]?=some (.cells cur t fz)∧t ∉ ts
theorem Dig.grown{row:Option Nat}(h:Dig W v ds)(hg:W.grownBy W' row)(hr:Typed W row [3]):Dig W' v ds:=by
 obtain⟨ao,cap,hv,h1,h2,h3,h4⟩:=h;refine⟨ao,cap,hv,h1,h2,h3,fun h0=>?_⟩;obtain⟨b,off,cur,fz,e,hb,hc⟩:=h4 h0;have hne:some b≠row:=fun e=>by
  obtain⟨cur',t,fz',h5,h6⟩:=hr b e.symm;rw [hb] at h5;simp only [Option.some.injEq,Obj.cells.injEq] at h5;exact h6 (by rw [← h5.2.1];exact List.mem_singleton.2 rfl)
 exact⟨b,off,cur,fz,e,(hg.block b (zm hb) hne).trans hb,fun i hi=>hg.cell (hc i hi) hne⟩
theorem NumR.grown{row:Option Nat}(h:NumR W v z n)(hg:W.grownBy W' row)(hr:Typed W row [3]):NumR W' v z n:=by
 obtain⟨s,sl,ds,h1,h2,h3⟩:=h;exact⟨s,sl,ds,h1,h2.grown hg hr,h3⟩
structure Rn where
 s:Int
 o:Option Addr
 l:Nat
 c:Nat
def Rn.val (r:Rn):Value:=.agg #[.int .i64 r.s,.slice r.o r.l r.c]
def rcells (p:Rn × Int):List Value:=[.int .i64 p.1.s,.slice p.1.o p.1.l p.1.c]
def RowR (W:World)(v:Value)(zs:List Int)(n:Nat):Prop:=
 ∃ ao cap,v=.slice ao zs.length cap∧zs.length≤cap∧(0<zs.length→∃ b cur fz,ao=some ⟨b,0,none⟩∧W.heap[b]?=some (.cells cur 76 fz) ∧
  ∀ i,i<zs.length→∃(s:Int) (o:Option Addr) (l c:Nat),W.cell? ⟨b,i*2,none⟩=some (.int .i64 s)∧W.cell? ⟨b,i*2+1,none⟩=some (.slice o l c)∧NumR W (.agg #[.int .i64 s,.slice o l c]) (zs.getD i 0) n)
theorem RowR.below(h:RowR W v zs n)(hb:Below B W W')(hB:W.heap.size≤B):RowR W' v zs n:=by
 obtain⟨ao,cap,hv,h1,h2⟩:=h;refine⟨ao,cap,hv,h1,fun h0=>?_⟩;obtain⟨b,cur,fz,e,hh,hc⟩:=h2 h0;have hlt:=zm hh;refine⟨b,cur,fz,e,(hb.block _ (by omega)).trans hh,fun i hi=>?_⟩;obtain⟨s,o,l,c,h3,h4,h5⟩:=hc i hi;exact⟨s,o,l,c,(hb.cell (p:=⟨b,i*2,none⟩) (by show b<B;omega)).trans h3,(hb.cell (p:=⟨b,i*2+1,none⟩) (by show b<B;omega)).trans h4,h5.below hb hB⟩
theorem RowR.grown{row:Option Nat}(h:RowR W v zs n)(hg:W.grownBy W' row)(hr:Typed W row [3,76]):RowR W' v zs n:=by
 obtain⟨ao,cap,hv,h1,h2⟩:=h;refine⟨ao,cap,hv,h1,fun h0=>?_⟩;obtain⟨b,cur,fz,e,hh,hc⟩:=h2 h0;have hr':Typed W row [3]:=fun g hg=>by
  obtain⟨cur',t,fz',h5,h6⟩:=hr g hg;exact⟨cur',t,fz',h5,fun h=>h6 (by rw [List.mem_singleton] at h;rw [h];exact List.mem_cons_self)⟩
 have hne:some b≠row:=fun e=>by
  obtain⟨cur',t,fz',h5,h6⟩:=hr b e.symm;rw [hh] at h5;simp only [Option.some.injEq,Obj.cells.injEq] at h5;exact h6 (by rw [← h5.2.1];exact List.mem_cons_of_mem _ (List.mem_singleton.2 rfl))
 refine⟨b,cur,fz,e,(hg.block b (zm hh) hne).trans hh,fun i hi=>?_⟩;obtain⟨s,o,l,c,h3,h4,h5⟩:=hc i hi;exact⟨s,o,l,c,hg.cell h3 hne,hg.cell h4 hne,h5.grown hg hr'⟩
def GrowR (W:World)(base:Nat)(v:Value)(ps:List (Rn × Int))(n:Nat):Prop:=
 W.ownsRow base 76 2 v ps.length (ps.flatMap rcells)∧∀ p∈ps,NumR W p.1.val p.2 n
theorem GrowR.nil (W:World)(base n:Nat):GrowR W base (.slice none 0 0) [] n:=⟨World.ownsRow_nil _ _ _ _,fun _ h=>by cases h⟩
theorem zdk{e:TypeId}{size:Nat}{xs:List Value}{ts:List TypeId}(h:W.ownsRow base e size v n xs)(he:e ∉ ts):Typed W v.ownBlock ts:=fun g hg=>by
 rcases h.2 with⟨rfl,-⟩ |⟨g',cap,cur,rfl,hbg,hh,-⟩
 ·cases hg
 ·simp only [Value.ownBlock,Option.some.injEq] at hg;rw [← hg];exact⟨cur,e,_,hh,he⟩
theorem GrowR.later{ps:List (Rn × Int)}(h:GrowR W base v ps n)(hb:Below W.heap.size W W'):GrowR W' base v ps n:=
 ⟨zas h.1 hb,fun p hp=>(h.2 p hp).below hb zL⟩
theorem Typed.alloc{row:Option Nat}{ts:List TypeId}(h:Typed W row ts)(ob:Obj):Typed (W.alloc ob) row ts:=fun g hg=>by
 obtain⟨cur,t,fz,h1,h2⟩:=h g hg;exact⟨cur,t,fz,(((zB W.heap.size W).alloc zL ob).block _ (zm h1)).trans h1,h2⟩
theorem zex{ps:List (Rn × Int)}{r:Rn}{ob:Obj}(h:GrowR wr base v ps n)(hz:NumR wr r.val z n)
  (hown:w3.ownsRow base 76 2 (.slice (some ⟨g,0,none⟩) (ps.length+1) cap) (ps.length+1) (ps.flatMap rcells++rcells (r,z)))
  (hg:(wr.alloc ob).grownBy w3 v.ownBlock):GrowR w3 base (.slice (some ⟨g,0,none⟩) (ps.length+1) cap) (ps++[(r,z)]) n:=by
 have hty:Typed (wr.alloc ob) v.ownBlock [3]:=(zdk h.1 (by decide)).alloc ob;refine⟨by rw [List.length_append,List.length_singleton,List.flatMap_append,List.flatMap_singleton];exact hown,fun p hp=>?_⟩;rcases List.mem_append.1 hp with h' | h'
 ·exact((h.2 p h').below ((zB _ _).alloc zL ob) zL).grown hg hty
 ·rw [List.mem_singleton] at h';rw [h'];exact(hz.below ((zB _ _).alloc zL ob) zL).grown hg hty
theorem zi3 (ps:List (Rn × Int)):∀ i (h:i<ps.length),(ps.flatMap rcells)[i*2]?=some (.int .i64 ps[i].1.s)∧(ps.flatMap rcells)[i*2+1]?=some (.slice ps[i].1.o ps[i].1.l ps[i].1.c):=by
 induction ps with
 | nil=>intro i h;exact absurd h (by simp)
 | cons p ps ih=>
  intro i h;rw [List.flatMap_cons];cases i with
  | zero=>exact⟨rfl,rfl⟩
  | succ i=>
   obtain⟨h1,h2⟩:=ih i (by simpa using h);have e1:(i+1)*2=i*2+2:=by omega
   rw [e1,show i*2+2+1=i*2+1+2 by omega,List.getElem?_append_right (by simp [rcells]),List.getElem?_append_right (by simp [rcells])];exact⟨h1,h2⟩
theorem GrowR.row{ps:List (Rn × Int)}(h:GrowR W base v ps n):RowR W v (ps.map (·.2)) n:=by
 obtain⟨⟨-,h1⟩,h2⟩:=h;have hlen:(ps.map (·.2)).length=ps.length:=zM ..;rcases h1 with⟨rfl,hn⟩ |⟨g,cap,cur,rfl,hb,hh,hc1,hc2,hc3,hc4⟩
 ·exact⟨none,0,by rw [hlen,hn],by rw [hlen];omega,fun h0=>absurd h0 (by rw [hlen];omega)⟩
 ·refine⟨_,cap,by rw [hlen],by rw [hlen];exact hc1,fun h0=>⟨g,cur,_,rfl,hh,fun i hi=>?_⟩⟩;rw [hlen] at hi;obtain⟨e1,e2⟩:=zi3 ps i hi;have hcell:∀ k u,k<ps.length*2→(ps.flatMap rcells)[k]?=some u→W.cell? ⟨g,k,none⟩=some u:=fun k u hk hu=>by
   have:=World.news_of_block hh k u (by rw [← hc4,List.getElem?_take,if_pos hk] at hu;exact hu);have e:(⟨g,0,none⟩:Addr).add k=⟨g,k,none⟩:=by unfold Addr.add;split <;> simp_all
   rwa [e] at this
  refine⟨ps[i].1.s,ps[i].1.o,ps[i].1.l,ps[i].1.c,hcell _ _ (by omega) e1,hcell _ _ (by omega) e2,?_⟩;have e3:(ps.map (·.2)).getD i 0=ps[i].2:=by
   rw [zG,List.getElem?_map,List.getElem?_eq_getElem hi];rfl
  rw [e3];exact h2 _ (List.getElem_mem hi)
def MatR (W:World)(v:Value)(zss:List (List Int))(n:Nat):Prop:=
 ∃ ao cap,v=.slice ao zss.length cap∧zss.length≤cap∧(0<zss.length→∃ b,ao=some ⟨b,0,none⟩∧b<W.heap.size∧∀ i zs,zss[i]?=some zs→∃ u,W.cell? ⟨b,i,none⟩=some u∧RowR W u zs n)
theorem MatR.below{w':World}{zss:List (List Int)}(h:MatR w v zss n)(hb:Below B w w')(hB:w.heap.size≤B):MatR w' v zss n:=by
 obtain⟨ao,cap,hv,h1,h2⟩:=h;refine⟨ao,cap,hv,h1,fun h0=>?_⟩;obtain⟨b,e,hlt,hc⟩:=h2 h0;refine⟨b,e,zT hlt hb.size,fun i zs hi=>?_⟩;obtain⟨u,h3,h4⟩:=hc i zs hi;exact⟨u,(hb.cell (p:=⟨b,i,none⟩) (zT hlt hB)).trans h3,h4.below hb hB⟩
def GrowM (W:World)(base:Nat)(v:Value)(qs:List (Value × List Int))(n:Nat):Prop:=
 W.ownsRow base 74 1 v qs.length (qs.map (·.1))∧∀ q∈qs,RowR W q.1 q.2 n
theorem GrowM.later{qs:List (Value × List Int)}(h:GrowM W base v qs n)(hb:Below W.heap.size W W'):GrowM W' base v qs n:=
 ⟨zas h.1 hb,fun p hp=>(h.2 p hp).below hb zL⟩
theorem zhM{qs:List (Value × List Int)}{u:Value}{ob:Obj}(h:GrowM wr base v qs n)(hz:RowR wr u zs n)
  (hown:w3.ownsRow base 74 1 (.slice (some ⟨g,0,none⟩) (qs.length+1) cap) (qs.length+1) (qs.map (·.1)++[u]))
  (hg:(wr.alloc ob).grownBy w3 v.ownBlock):GrowM w3 base (.slice (some ⟨g,0,none⟩) (qs.length+1) cap) (qs++[(u,zs)]) n:=by
 have hty:Typed (wr.alloc ob) v.ownBlock [3,76]:=(zdk h.1 (by decide)).alloc ob;refine⟨by rw [List.length_append,List.length_singleton,List.map_append];exact hown,fun p hp=>?_⟩;rcases List.mem_append.1 hp with h' | h'
 ·exact((h.2 p h').below ((zB _ _).alloc zL ob) zL).grown hg hty
 ·rw [List.mem_singleton] at h';rw [h'];exact(hz.below ((zB _ _).alloc zL ob) zL).grown hg hty
theorem GrowM.mat{qs:List (Value × List Int)}(h:GrowM W base v qs n):MatR W v (qs.map (·.2)) n:=by
 obtain⟨⟨-,h1⟩,h2⟩:=h;have hlen:(qs.map (·.2)).length=qs.length:=zM ..;rcases h1 with⟨rfl,hn⟩ |⟨g,cap,cur,rfl,hb,hh,hc1,hc2,hc3,hc4⟩
 ·exact⟨none,0,by rw [hlen,hn],by rw [hlen];omega,fun h0=>absurd h0 (by rw [hlen];omega)⟩
 ·refine⟨_,cap,by rw [hlen],by rw [hlen];exact hc1,fun h0=>⟨g,rfl,zm hh,fun i zs hi=>?_⟩⟩;obtain⟨hi',e⟩:=List.getElem?_eq_some_iff.1 hi;rw [hlen] at hi';have e':zs=qs[i].2:=by rw [← e,List.getElem_map]
  have:=World.news_of_block hh i qs[i].1 (by
   have e:(qs.map (·.1))[i]?=some qs[i].1:=by rw [List.getElem?_map,List.getElem?_eq_getElem hi'];rfl
   rw [← hc4,List.getElem?_take,if_pos (by omega)] at e;exact e)
  have ea:(⟨g,0,none⟩:Addr).add i=⟨g,i,none⟩:=by unfold Addr.add;split <;> simp_all
  rw [ea] at this;exact⟨_,this,by rw [e'];exact h2 _ (List.getElem_mem hi')⟩
theorem Tryz.infoRNum:(Tryz.prog.info? 76).map (fun i=>(i.zero,i.size,i.bytes))=some (some (.agg #[.int .i64 0,.slice none 0 0]),2,32):=by kernel_rfl
theorem Tryz.infoRRow:(Tryz.prog.info? 74).map (fun i=>(i.zero,i.size,i.bytes))=some (some (.slice none 0 0),1,24):=by kernel_rfl
def RowPostN (w:World)(zs:List Int)(n:Nat)(e:Ending)(w':World):Prop:=∃ v,e=.returned v∧RowR w' v zs n∧Below w.heap.size w w'∧∀ a l c,v=.slice (some a) l c→w.heap.size≤a.block
theorem NumR.nought (w:World)(n:Nat):NumR w (.agg #[.int .i64 0,.slice none 0 0]) 0 n:=
 ⟨0,.slice none 0 0,[],rfl,⟨none,0,rfl,Nat.le_refl _,by simp,by intro i;simp,fun h=>absurd h (by simp)⟩,.inl rfl,by simp,.inl ⟨rfl,rfl,rfl⟩,by simp⟩
theorem NumR.setTyped(h:NumR w v z n){c:Array Value}{t:TypeId}{fz:Nat × Nat}(hB:w.heap[B]?=some (.cells c t fz))(ht:t≠3)(k:Nat)(u:Value):NumR (w.setCell ⟨B,k,none⟩ u) v z n:=by
 obtain⟨s,sl,ds,h1,h2,h3⟩:=h;exact⟨s,sl,ds,h1,h2.setCell hB ht k u,h3⟩
def upR (r:List Int)(c:Nat):List Int:=if r.getD c 0<0 then List.zipWith (fun a b=>-1*a+0*b) r r else r
def outN (R:Nat→Option (List Int)):Nat→List (List Int)
 | 0=>[]
 | c+1=>match R c with
  | none=>outN R c
  | some r=>(outN R c).map (fun u=>lowRow u (upR r c) c)++[upR r c]
theorem zcD (r:List Int)(c:Nat):upR r c=r∨upR r c=r.map (-1*·):=by
 unfold upR;split
 ·right;exact zbJ.symm
 ·exact .inl rfl
theorem zbq (r:List Int)(c:Nat):(upR r c).length=r.length:=by
 rcases zcD r c with h | h <;> rw [h]
 exact zM ..
theorem zjV(h:r.getD b 0=0):(upR r c).getD b 0=0:=by
 rcases zcD r c with e | e <;> rw [e]
 ·exact h
 ·rw [zG,List.getElem?_map] at *;cases e2:r[b]? with
  | none=>rfl
  | some x=>rw [e2] at h;simp at h ⊢;exact h
theorem zfF(hc:c<r.length)(h:r.getD c 0≠0):0<(upR r c).getD c 0:=by
 unfold upR;split
 ·rw [zp _ _ _ rfl c hc];omega
 ·omega
theorem zbI(h:u.length=r.length)(c:Nat):(lowRow u r c).length=u.length:=zz _ _ _ h
theorem zif(h:u.length=r.length)(hb:b<u.length)(hz:r.getD b 0=0):(lowRow u r c).getD b 0=u.getD b 0:=by
 unfold lowRow;rw [zp _ _ _ h b hb,hz];omega
theorem zig(h:u.length=r.length)(hc:c<u.length)(hp:0<r.getD c 0):0≤(lowRow u r c).getD c 0∧(lowRow u r c).getD c 0<r.getD c 0:=by
 unfold lowRow;rw [zp _ _ _ h c hc];generalize u.getD c 0=a at *;generalize r.getD c 0=y at *;have h1:=Int.emod_nonneg a (show y≠0 by omega);have h2:=Int.emod_lt_of_pos a hp;have h3:=Int.mul_ediv_add_emod a y;rw [Int.one_mul,Int.neg_mul,Int.mul_comm];omega
theorem zeP {hs:List (List Int)}{f:List Int→List Int}(hk:k<hs.length):(hs.map f++[r]).getD k []=f hs[k]:=by
 rw [zG,List.getElem?_append_left (by simpa using hk),List.getElem?_map,List.getElem?_eq_getElem hk];rfl
theorem zcY {hs:List (List Int)}{f:List Int→List Int}:(hs.map f++[r]).getD hs.length []=r:=by
 rw [zG,List.getElem?_append_right (by simp)];simp
theorem zhD{hs:List (List Int)}{p:Nat→Nat}(h:FormL n hs p)(hlt:∀ k,k<hs.length→p k<c)(hc:c<n)(hr:r.length=n)(hz:∀ b,b<c→r.getD b 0=0)(hp:0<r.getD c 0):
  ∃ p',FormL n (hs.map (fun u=>lowRow u r c)++[r]) p'∧∀ k,k<(hs.map (fun u=>lowRow u r c)++[r]).length→p' k<c+1:=by
 have hlen:∀ k (hk:k<hs.length),hs[k].length=r.length:=fun k hk=>(h.len _ (List.getElem_mem hk)).trans hr.symm;have hL:(hs.map (fun u=>lowRow u r c)++[r]).length=hs.length+1:=by simp
 have ahead:∀ k (hk:k<hs.length) b,b<c→((hs.map (fun u=>lowRow u r c)++[r]).getD k []).getD b 0=(hs.getD k []).getD b 0:=fun k hk b hb=>by
  rw [zeP hk,zax hk];exact zif (hlen k hk) (by rw [hlen k hk,hr];omega) (hz b hb)
 refine⟨fun k=>if k=hs.length then c else p k,⟨fun u hu=>?_,⟨fun i k hik hk=>?_,fun i hi=>?_,fun i b hi hb=>?_,fun i hi=>?_,fun i k hik hk=>?_⟩⟩,fun k hk=>?_⟩
 ·rcases List.mem_append.1 hu with h1 | h1
  ·obtain⟨x,hx,rfl⟩:=List.mem_map.1 h1;have:=h.len x hx;rw [zbI (by omega)];exact this
  ·rw [List.mem_singleton] at h1;rw [h1];exact hr
 ·try dsimp only
  rw [hL] at hk;rw [if_neg (show i≠hs.length by omega)];by_cases e:k=hs.length
  ·rw [if_pos e];exact hlt i (by omega)
  ·rw [if_neg e];exact h.form.inc i k hik (by omega)
 ·try dsimp only
  rw [hL] at hi;by_cases e:i=hs.length
  ·rw [if_pos e];exact hc
  ·rw [if_neg e];exact h.form.lt i (by omega)
 ·try dsimp only at hb ⊢
  rw [hL] at hi;by_cases e:i=hs.length
  ·rw [if_pos e] at hb;rw [e,zcY];exact hz b hb
  ·rw [if_neg e] at hb;have h1:=hlt i (by omega);rw [ahead i (by omega) b (by omega)];exact h.form.zero i b (by omega) hb
 ·try dsimp only
  rw [hL] at hi;by_cases e:i=hs.length
  ·rw [if_pos e,e,zcY];exact hp
  ·rw [if_neg e,ahead i (by omega) _ (hlt i (by omega))];exact h.form.pos i (by omega)
 ·try dsimp only
  rw [hL] at hk;by_cases e:k=hs.length
  ·rw [if_pos e,e,zcY,zeP (show i<hs.length by omega)];exact zig (hlen i (by omega)) (by rw [hlen i (by omega),hr];exact hc) hp
  ·rw [if_neg e,ahead i (by omega) _ (hlt k (by omega)),ahead k (by omega) _ (hlt k (by omega))];exact h.form.red i k hik (by omega)
 ·try dsimp only
  rw [hL] at hk;by_cases e:k=hs.length
  ·rw [if_pos e];omega
  ·rw [if_neg e];have:=hlt k (by omega);omega
def NZ (R:Nat→Option (List Int)):Prop:=∀ i r,R i=some r→r.getD i 0≠0
theorem ziR {R:Nat→Option (List Int)}(hE:Ech R n n)(hN:NZ R)(c:Nat)(hc:c≤n):∃ p,FormL n (outN R c) p∧∀ k,k<(outN R c).length→p k<c:=by
 induction c with
 | zero=>exact⟨fun _=>0,⟨fun r hr=>(by cases hr),⟨fun i k _ hk=>absurd hk (by simp [outN]),fun i hi=>absurd hi (by simp [outN]),fun i b hi=>absurd hi (by simp [outN]),fun i hi=>absurd hi (by simp [outN]),fun i k _ hk=>absurd hk (by simp [outN])⟩⟩,fun k hk=>absurd hk (by simp [outN])⟩
 | succ c ih=>
  obtain⟨p,h1,h2⟩:=ih (by omega);unfold outN;cases e:R c with
  | none=>exact⟨p,h1,fun k hk=>Nat.lt_succ_of_lt (h2 k hk)⟩
  | some r=>
   have hl:=hE.len c r e;exact zhD h1 h2 (by omega) ((zbq r c).trans hl) (fun b hb=>zjV (hE.zero c r e b hb)) (zfF (by omega) (hN c r e))
theorem zdj {R:Nat→Option (List Int)}(hE:Ech R n n)(c:Nat):∀ u∈outN R c,u.length=n:=by
 induction c with
 | zero=>exact fun u hu=>by cases hu
 | succ c ih=>
  unfold outN;cases e:R c with
  | none=>exact ih
  | some r=>
   have hl:=(zbq r c).trans (hE.len c r e);intro u hu;rcases List.mem_append.1 hu with h | h
   ·obtain⟨x,hx,rfl⟩:=List.mem_map.1 h;have:=ih x hx;rw [zbI (by omega)];exact this
   ·rw [List.mem_singleton] at h;rw [h];exact hl
def RowsTo (R:Nat→Option (List Int))(c:Nat):List Int→Prop:=fun v=>∃ i,i<c∧R i=some v
theorem zfs{S:List Int→Prop}(h:Gens n S r):Gens n S (upR r c):=by
 rcases zcD r c with e | e <;> rw [e]
 ·exact h
 ·rw [zbJ];exact .comb _ _ h h
theorem zjk{S:List Int→Prop}(h:Gens n S (upR r c)):Gens n S r:=by
 rcases zcD r c with e | e <;> rw [e] at h
 ·exact h
 ·have:=Gens.comb (-1) 0 h h;rw [← zbJ,List.map_map] at this;have e2:((fun x:Int=>-1*x) ∘ fun x=>-1*x)=id:=by funext x;simp
  rwa [e2,List.map_id] at this
theorem ziP {R:Nat→Option (List Int)}(hE:Ech R n n)(c:Nat):Alikes n (InL (outN R c)) (RowsTo R c):=by
 induction c with
 | zero=>exact .of (fun v hv _=>by cases hv) (fun v hv _=>by obtain⟨i,hi,-⟩:=hv;omega)
 | succ c ih=>
  have up:∀ v,RowsTo R c v→RowsTo R (c+1) v:=fun v ⟨i,hi,e⟩=>⟨i,by omega,e⟩;unfold outN;cases e:R c with
  | none=>
   refine ih.trans (.of (fun v hv hvl=>.base (up v hv) hvl) (fun v hv hvl=>?_));obtain⟨i,hi,e'⟩:=hv;exact .base ⟨i,by
    by_cases h:i=c
    ·rw [h,e] at e';cases e'
    ·omega,e'⟩ hvl
  | some r=>
   have hl:=hE.len c r e;have gr:Gens n (RowsTo R (c+1)) r:=.base ⟨c,by omega,e⟩ hl;refine .of (fun v hv hvl=>?_) (fun v hv hvl=>?_)
   ·rcases List.mem_append.1 hv with h | h
    ·obtain⟨u,hu,rfl⟩:=List.mem_map.1 h;have hul:u.length=n:=zdj hE c u hu;have gu:Gens n (RowsTo R (c+1)) u:=((ih u).1 (.base hu hul)).trans fun x hx hxl=>.base (up x hx) hxl;exact gu.low (zfs gr) c
    ·rw [List.mem_singleton] at h;rw [h];exact zfs gr
   ·have gp:Gens n (InL ((outN R c).map (fun u=>lowRow u (upR r c) c)++[upR r c])) (upR r c):=.base (List.mem_append_right _ (List.mem_singleton.2 rfl)) ((zbq r c).trans hl);obtain⟨i,hi,e'⟩:=hv;by_cases h:i=c
    ·rw [h,e] at e';obtain rfl:=zI e';exact zjk gp
    ·have g1:=(ih v).2 (.base ⟨i,by omega,e'⟩ hvl);refine g1.trans fun u hu hul=>?_;refine Gens.unlow (k:=c) (hul.trans ((zbq r c).trans hl).symm) (.base (List.mem_append_left _ (List.mem_map.2 ⟨u,hu,rfl⟩)) ?_) gp;rw [zbI (hul.trans ((zbq r c).trans hl).symm)];exact hul
theorem ziQ {R:Nat→Option (List Int)}(hE:Ech R n n):Alikes n (InL (outN R n)) (RowsOf R):=
 (ziP hE n).trans (.of (fun v hv hvl=>by obtain⟨i,-,e⟩:=hv;exact .base ⟨i,e⟩ hvl) (fun v hv hvl=>by obtain⟨i,e⟩:=hv;exact .base ⟨i,hE.lt i v e,e⟩ hvl))
theorem ze2 (R:Nat→Option (List Int))(c:Nat):(outN R c).length≤c:=by
 induction c with
 | zero=>exact Nat.le_refl _
 | succ c ih=>
  unfold outN;split
  ·omega
  ·simp;omega
def dT (a:Nat):Nat→Nat
 | 0=>a
 | j+1=>2*dT a j+8
theorem zae{a j:Nat}(h:i≤j):dT a i≤dT a j:=by
 induction j with
 | zero => obtain rfl : i = 0 := by omega
           exact Nat.le_refl _
 | succ j ih=>
  by_cases e:i=j+1
  ·rw [e];exact Nat.le_refl _
  ·have:=ih (by omega);show dT a i≤2*dT a j+8;omega
def cn (R:Nat→Option (List Int)):Nat→Nat
 | 0=>0
 | c+1=>cn R c+if (R c).isSome then 1 else 0
theorem zgR (c:Nat):cn (fun _=>none) c=0:=by
 induction c with
 | zero=>rfl
 | succ c ih=>show cn (fun _=>none) c+0=0;omega
theorem zd8 (R:Nat→Option (List Int))(c:Nat):cn R c≤c:=by
 induction c with
 | zero=>exact Nat.le_refl _
 | succ c ih=>unfold cn;split <;> omega
theorem zcP (R:Nat→Option (List Int)){d:Nat}(h:c≤d):cn R c≤cn R d:=by
 induction d with
 | zero => obtain rfl : c = 0 := by omega
           exact Nat.le_refl _
 | succ d ih=>
  by_cases e:c=d+1
  ·rw [e];exact Nat.le_refl _
  ·have:=ih (by omega);have e2:cn R (d+1)=cn R d+if (R d).isSome then 1 else 0:=rfl;omega
theorem zgS {R:Nat→Option (List Int)}(h:R c=some r):cn R (c+1)=cn R c+1:=by
 show cn R c+(if (R c).isSome then 1 else 0)=_;rw [h];rfl
theorem zcO {R:Nat→Option (List Int)}(h:R c=some r)(t:List Int)(a:Nat):cn (putRow R c t) a=cn R a:=by
 induction a with
 | zero=>rfl
 | succ a ih=>
  show cn (putRow R c t) a+(if (putRow R c t a).isSome then 1 else 0)=cn R a+if (R a).isSome then 1 else 0;rw [ih];unfold putRow;by_cases e:a=c
  ·rw [if_pos e,e,h];rfl
  ·rw [if_neg e]
theorem zd9 (R:Nat→Option (List Int))(c:Nat)(t:List Int)(a:Nat):cn R a≤cn (putRow R c t) a∧cn (putRow R c t) a≤cn R a+if c<a then 1 else 0:=by
 induction a with
 | zero=>exact⟨Nat.le_refl _,by rw [if_neg (Nat.not_lt_zero c)];exact Nat.le_refl _⟩
 | succ a ih=>
  have e1:cn (putRow R c t) (a+1)=cn (putRow R c t) a+(if (putRow R c t a).isSome then 1 else 0):=rfl;have e2:cn R (a+1)=cn R a+(if (R a).isSome then 1 else 0):=rfl;rw [e1,e2];unfold putRow at *;by_cases e:a=c
  ·rw [if_pos e];rw [if_neg (show ¬ c<a by omega)] at ih;rw [if_pos (show c<a+1 by omega)];have h1:(if (some t).isSome=true then 1 else 0)=1:=rfl;rw [h1];split <;> omega
  ·rw [if_neg e];by_cases h:c<a
   ·rw [if_pos h] at ih;rw [if_pos (show c<a+1 by omega)];omega
   ·rw [if_neg h] at ih;rw [if_neg (show ¬ c<a+1 by omega)];omega
theorem NZ.set {R:Nat→Option (List Int)}(h:NZ R)(hr:r.getD k 0≠0):NZ (putRow R k r):=fun i v e=>by
 unfold putRow at e;by_cases hi:i=k
 ·rw [if_pos hi] at e;obtain rfl:=zI e;rw [hi];exact hr
 ·rw [if_neg hi] at e;exact h i v e
theorem zjc (m:Nat)(hm:m≤1000)(W:World):(Instr.makeSlice 71 (.int .i64 (m:Int)) (.int .i64 (m:Int))).run Tryz.prog W=.ok (.slice (some ⟨W.heap.size,0,none⟩) m m) (W.alloc (.cells (madeCells #[.slice none 0 0] m) 74)):=by
 obtain⟨i0,hi,hz0,hz1,hz2⟩:=info_parts Tryz.infoRRow;have h:=run_make (P:=Tryz.prog) W 71 74 i0 (.slice none 0 0) (by kernel_rfl) hi hz0 .i64 .i64 m m (by omega) (by omega) (by rw [hz2];omega) (by omega);rw [hz1,Int.toNat_natCast,Nat.mul_one] at h;exact h
theorem zfk (w:World):Sem.run Tryz.prog (binOp .eql 74 (.slice none 0 0) (.slice none 0 0)) w=.ok (.bool true) w:=by kernel_rfl
theorem zfn (w:World)(a:Addr)(l c:Nat):Sem.run Tryz.prog (binOp .eql 74 (.slice (some a) l c) (.slice none 0 0)) w=.ok (.bool false) w:=by kernel_rfl
def partL (L:List (List Int))(p:List Int)(c i:Nat):List (List Int):=(L.take i).map (fun u=>lowRow u p c)++L.drop i
theorem ze8 (L:List (List Int))(p:List Int)(c:Nat):partL L p c 0=L:=by simp [partL]
theorem ze5 (L:List (List Int))(p:List Int)(c:Nat):partL L p c L.length=L.map (fun u=>lowRow u p c):=by simp [partL]
theorem ze6 {L:List (List Int)}(hi:i<L.length):(partL L p c i)[i]?=some L[i]:=by
 unfold partL;rw [List.getElem?_append_right (by simp;omega),zM,List.length_take,Nat.min_eq_left (by omega),Nat.sub_self,List.getElem?_drop,Nat.add_zero,List.getElem?_eq_getElem hi]
theorem ze7 {L:List (List Int)}(hi:i<L.length):(partL L p c i).set i (lowRow L[i] p c)=partL L p c (i+1):=by
 unfold partL;rw [List.set_append_right _ _ (by simp;omega),zM,List.length_take,Nat.min_eq_left (by omega),Nat.sub_self,List.drop_eq_getElem_cons hi,List.set_cons_zero,List.take_succ_eq_append_getElem hi,List.map_append,List.append_assoc];rfl
end Go.Proofs.YtncamilanceahaaGreat
