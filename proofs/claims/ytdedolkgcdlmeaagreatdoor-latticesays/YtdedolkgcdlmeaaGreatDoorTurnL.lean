import Derived.Test.YtdedolkgcdlmeaaGreatDoorLatE
set_option maxRecDepth 100000
set_option maxHeartbeats 1600000
set_option linter.unusedSimpArgs false
namespace Go.Proofs.YtdedolkgcdlmeaaGreatDoor
open Go.RowKit Limbs
variable{n base P cap:Nat}{W w W' wr w3:World}{v s:Value}{zs:List Int}{z:Int}{row:Option Nat}{p:Nat→Nat}
def LatN (w:World)(v:Value)(n:Nat)(hs:List (List Int))(nv:Nat):Prop:=(∃ u,v=.agg #[.int .i64 (n:Int),u]∧MatN w u hs nv)∧∃ p,FormL n hs p
theorem LatN.below{w':World}{hs:List (List Int)}{nv:Nat}(h:LatN w v n hs nv)(hb:Below w.heap.size w w'):LatN w' v n hs nv:=by
 obtain⟨⟨u,e,hu⟩,hp⟩:=h;exact⟨⟨u,e,hu.below hb zL⟩,hp⟩
theorem zdV (w:World)(n:Int):Calls Tryz.prog 74 #[.int .i64 n] w fun e w'=>e=.returned (.bool (decide (1≤n∧n≤4)))∧Below w.heap.size w w':=by
 by_cases h1:1≤n
 ·by_cases h2:n≤4
  ·have e:decide (1≤n∧n≤4)=true:=decide_eq_true ⟨h1,h2⟩;rw [e];clear e;have g1:decide (1≤n)=true:=decide_eq_true h1;have g2:decide (n≤4)=true:=decide_eq_true h2;go_enter Tryz.func74,Tryz.ntmps74;go_wp2;go_ret;exact⟨rfl,zB _ _⟩
  ·have e:decide (1≤n∧n≤4)=false:=decide_eq_false (fun h=>h2 h.2);rw [e];clear e;have g1:decide (1≤n)=true:=decide_eq_true h1;have g2:decide (n≤4)=false:=decide_eq_false h2;go_enter Tryz.func74,Tryz.ntmps74;go_wp2;go_ret;exact⟨rfl,zB _ _⟩
 ·have e:decide (1≤n∧n≤4)=false:=decide_eq_false (fun h=>h1 h.1);rw [e];clear e;have g1:decide (1≤n)=false:=decide_eq_false h1;go_enter Tryz.func74,Tryz.ntmps74;go_wp2;go_ret;exact⟨rfl,zB _ _⟩
theorem zdk (n:Nat):FormL n [] (fun _=>0):=
 ⟨(fun _ h=>by cases h),⟨fun i k _ hk=>absurd hk (by simp),fun i hi=>absurd hi (by simp),fun i b hi _=>absurd hi (by simp),fun i hi=>absurd hi (by simp),fun i k _ hk=>absurd hk (by simp)⟩⟩
theorem zfo (w:World)(n:Nat):MatN w (.slice none 0 0) [] n:=⟨none,0,rfl,Nat.le_refl _,fun h=>absurd h (by simp)⟩
theorem zjt (w:World)(n nv:Nat)(h1:1≤n)(h4:n≤4):
  Calls Tryz.prog 71 #[.int .i64 (n:Int)] w fun e w'=>e=.returned (.tuple #[.agg #[.int .i64 (n:Int),.slice none 0 0],.nilIface])∧LatN w' (.agg #[.int .i64 (n:Int),.slice none 0 0]) n [] nv∧Below w.heap.size w w':=by
 have HB0:=hide ((zB w.heap.size w).alloc zL (.cells #[.int .i64 0,.slice none 0 0] 55));have HC:=hide (zf w (.int .i64 0) (.slice none 0 0) 55 _ rfl);have HSZ:Hid (w.heap.size<(w.alloc (.cells #[.int .i64 0,.slice none 0 0] 55)).heap.size):=by show _<_;simp
 go_enter Tryz.func71,Tryz.ntmps71;go_wp2_with fail;generalize w.alloc (.cells #[.int .i64 0,.slice none 0 0] 55)=W0 at *;refine(zdV W0 (n:Int)).mono ?_;rintro e w1 ⟨rfl,hb1⟩;have e:decide (1≤(n:Int)∧(n:Int)≤4)=true:=decide_eq_true ⟨by omega,by omega⟩;rw [e];clear e;have HB1:=hide (HB0.out.trans (hb1.mono HB0.out.size));obtain⟨c0,c1,z0,z1⟩:=HC.out.later hb1 HSZ.out;have HB2:=hide ((HB1.out.setCell (p:=⟨w.heap.size,0,none⟩) (by simp) (.int .i64 (n:Int))).setCell (p:=⟨w.heap.size,1,none⟩) (by simp) (.slice none 0 0));clear hb1 HC HSZ HB0 HB1;go_wp2;exact bodyPost_ret (v:=.tuple #[.agg #[.int .i64 (n:Int),.slice none 0 0],.nilIface]) (by simp [results,Tryz.results71,go_sem,c0,c1]) rfl ⟨rfl,⟨⟨_,rfl,zfo _ _⟩,_,zdk _⟩,HB2.out⟩
theorem zaA (w:World)(v:Value)(n nv:Nat)(hs:List (List Int))(h:LatN w v n hs nv)(h1:1≤n)(h4:n≤4):
  Calls Tryz.prog 25 #[v] w fun e w'=>e=.returned .nilIface∧Below w.heap.size w w':=by
 obtain⟨⟨u,rfl,hu⟩,p,hF⟩:=h;have HU:=hide hu;have HF:=hide hF;have hlen:=hF.short;obtain⟨uo,ucap,rfl,-,-⟩:=hu;clear hF;have HB0:=hide ((zB w.heap.size w).alloc zL (.cells #[.int .i64 (n:Int),.slice uo hs.length ucap] 55));have HC:=hide (zf w (.int .i64 (n:Int)) (.slice uo hs.length ucap) 55 _ rfl);have HSZ:Hid (w.heap.size<(w.alloc (.cells #[.int .i64 (n:Int),.slice uo hs.length ucap] 55)).heap.size):=by show _<_;simp
 go_enter Tryz.func25,Tryz.ntmps25;go_wp2_with fail;generalize w.alloc (.cells #[.int .i64 (n:Int),.slice uo hs.length ucap] 55)=W0 at *;refine(zdV W0 (n:Int)).mono ?_;rintro e w1 ⟨rfl,hb1⟩;have e:decide (1≤(n:Int)∧(n:Int)≤4)=true:=decide_eq_true ⟨by omega,by omega⟩;rw [e];clear e;have HB1:=hide (HB0.out.trans (hb1.mono HB0.out.size));have HD:=hide (HC.out.later hb1 HSZ.out);have HS1:=hide (zT HSZ.out hb1.size);obtain⟨c0,c1,z0,z1⟩:=HD.out;clear hb1 HC HSZ HB0;go_wp2_with fail;refine(zcY w1 _ hs n nv (by exact HU.out.below HB1.out zL) h1 (by omega) (by omega) HF.out.len).mono ?_;rintro e w2 ⟨rfl,hb2⟩;have HB2:=hide (HB1.out.trans (hb2.mono HB1.out.size));obtain⟨d0,d1,y0,y1⟩:=HD.out.later hb2 HS1.out;clear hb2 HB1 HD c0 c1 z0 z1;go_wp2_with fail;refine(ziD w2 _ hs n nv p (by exact HU.out.below HB2.out zL) HF.out (by omega) (by omega)).mono ?_;rintro e w3 ⟨rfl,hb3⟩;have HB3:=hide (HB2.out.trans (hb3.mono HB2.out.size));clear hb3 HB2 d0 d1 y0 y1;go_wp2;go_ret;exact⟨rfl,HB3.out⟩
def BoxL (W:World)(B:Nat)(u0 u1:Value):Prop:=Box W B u0 u1∧B<W.heap.size
theorem BoxL.later{B:Nat}{u0 u1:Value}(h:BoxL W B u0 u1)(hb:Below W.heap.size W W'):BoxL W' B u0 u1:=⟨h.1.later hb h.2,zT h.2 hb.size⟩
theorem BoxL.new (W:World)(u0 u1:Value)(t:TypeId):BoxL (W.alloc (.cells #[u0,u1] t)) W.heap.size u0 u1:=⟨zf W u0 u1 t _ rfl,by simp⟩
theorem zQ (W:World)(ob:Obj):Below W.heap.size W (W.alloc ob):=(zB _ _).alloc zL _
theorem zcl (w:World)(v:Value)(n N:Nat)(zss:List (List Int))(p:Nat→Nat)(F:FormL n zss p)(h1:1≤n)(hc:∀ W,Below w.heap.size w W→Calls Tryz.prog 73 #[v] W fun e w'=>∃ u,e=.returned u∧MatN w' u zss N∧Below W.heap.size W w'):
  Calls Tryz.prog 24 #[.int .i64 (n:Int),v] w fun e w'=>∃ o c,e=.returned (.agg #[.int .i64 (n:Int),.slice o zss.length c])∧LatN w' (.agg #[.int .i64 (n:Int),.slice o zss.length c]) n zss N∧Below w.heap.size w w':=by
 have HF:=hide F;have HC:=hide hc;have HB0:=hide (zQ w (.cells #[.int .i64 0,.slice none 0 0] 55));have HX0:=hide (BoxL.new w (.int .i64 0) (.slice none 0 0) 55);clear F hc;go_enter Tryz.func24,Tryz.ntmps24;go_wp2_with fail;generalize w.alloc (.cells #[.int .i64 0,.slice none 0 0] 55)=W0 at *;refine(HC.out W0 HB0.out).mono ?_;rintro e w1 ⟨u,rfl,hu,hb1⟩;have HX1:=hide (HX0.out.later hb1);have HB1:=hide (HB0.out.trans (hb1.mono HB0.out.size));have HU:=hide hu;obtain⟨o,c,rfl,-,-⟩:=hu;have HB2:=hide ((HB1.out.setCell (p:=⟨w.heap.size,0,none⟩) zL (.int .i64 (n:Int))).setCell (p:=⟨w.heap.size,1,none⟩) zL (.slice o zss.length c));have Z:=hide (HX1.out.1.write (.int .i64 (n:Int)) (.slice o zss.length c));obtain⟨x0,x1,x2,x3⟩:=HX1.out.1;obtain⟨z0,z1,-,-⟩:=Z.out;have HM:=hide (HU.out.setBasis (.int .i64 (n:Int)) (.slice o zss.length c) (fun zs hz=>by rw [HF.out.len zs hz];omega) x0 x1);clear hb1 HC;go_wp2;exact bodyPost_ret (v:=.agg #[.int .i64 (n:Int),.slice o zss.length c]) (by simp [results,Tryz.results24,go_sem,z0,z1]) rfl ⟨o,c,rfl,⟨⟨_,rfl,HM.out⟩,p,HF.out⟩,HB2.out⟩
def apart (og:Option Nat)(s:Value):Prop:=∀ a l c,s=.slice (some a) l c→0<l→some a.block≠og
theorem Lim.grown(h:Lim W s zs)(hg:W.grownBy W' row)(hne:apart row s):Lim W' s zs:=by
 obtain⟨ao,cap,rfl,h1,h2,h3,h4⟩:=h;refine⟨ao,cap,rfl,h1,h2,h3,fun h0=>?_⟩;obtain⟨b,off,rfl,hlt,hc⟩:=h4 h0;have hb:=hne _ _ _ rfl h0;exact⟨b,off,rfl,zT hlt hg.size,fun i hi=>hg.cell (hc i hi) hb⟩
def Nm.val (r:Nm):Value:=.agg #[.bool r.neg,.slice r.o r.l r.c]
def Nm.sl (r:Nm):Value:=.slice r.o r.l r.c
def ncells (p:Nm × Int):List Value:=[.bool p.1.neg,.slice p.1.o p.1.l p.1.c]
theorem NumL.grown{r:Nm}(h:NumL W r.val z n)(hg:W.grownBy W' row)(hne:apart row r.sl):NumL W' r.val z n:=by
 obtain⟨neg,s,zs,e,hl,h3⟩:=h;simp only [Nm.val,Value.agg.injEq,Array.mk.injEq,List.cons.injEq,Value.bool.injEq,and_true] at e;obtain⟨rfl,rfl⟩:=e;exact⟨_,_,zs,rfl,hl.grown hg hne,h3⟩
theorem NumL.inside{r:Nm}(h:NumL W r.val z n):∀ a l c,r.sl=.slice (some a) l c→0<l→a.block<W.heap.size:=fun a l c e h0=>by
 obtain⟨neg,s,zs,e1,hl,-⟩:=h;simp only [Nm.val,Value.agg.injEq,Array.mk.injEq,List.cons.injEq,Value.bool.injEq,and_true] at e1;obtain⟨rfl,rfl⟩:=e1;obtain⟨ao,cap,e2,-,-,-,h4⟩:=hl;unfold Nm.sl at e;rw [e] at e2;simp only [zV] at e2;obtain⟨rfl,rfl,rfl⟩:=e2;obtain⟨b,off,e3,hlt,-⟩:=h4 h0;simp only [Option.some.injEq] at e3;rw [e3];exact hlt
def Grow (W:World)(base:Nat)(v:Value)(ps:List (Nm × Int))(n:Nat):Prop:=
 W.ownsRow base 29 2 v ps.length (ps.flatMap ncells)∧∀ p∈ps,NumL W p.1.val p.2 n∧apart v.ownBlock p.1.sl
theorem Grow.nil (W:World)(base n:Nat):Grow W base (.slice none 0 0) [] n:=⟨World.ownsRow_nil _ _ _ _,fun _ h=>by cases h⟩
theorem Grow.later{ps:List (Nm × Int)}(h:Grow W base v ps n)(hb:Below W.heap.size W W'):Grow W' base v ps n:=by
 refine⟨?_,fun p hp=>⟨(h.2 p hp).1.below hb zL,(h.2 p hp).2⟩⟩;refine⟨h.1.1,?_⟩;rcases h.1.2 with hn |⟨g,cap,cur,e,hbg,hh,rest⟩
 ·exact .inl hn
 ·exact .inr ⟨g,cap,cur,e,hbg,(hb.block _ (zj hh)).trans hh,rest⟩
theorem Grow.fresh{W0:World}{ps:List (Nm × Int)}(h:Grow W base v ps n)(hs:W.heap.size≤W0.heap.size)(hn:NewSl W0 s):apart v.ownBlock s:=fun a l c e _ hb=>by
 have h1:=hn a l c e;have h2:=(h.1.lt _ hb.symm).2;omega
theorem zig{ps:List (Nm × Int)}{r:Nm}{g:Nat}{ob:Obj}(h:Grow wr base v ps n)(hz:NumL wr r.val z n)(ha:apart v.ownBlock r.sl)
  (hown:w3.ownsRow base 29 2 (.slice (some ⟨g,0,none⟩) (ps.length+1) cap) (ps.length+1) (ps.flatMap ncells++ncells (r,z)))
  (hg:(wr.alloc ob).grownBy w3 v.ownBlock) (hat:v.ownBlock=some g∨g=wr.heap.size+1):Grow w3 base (.slice (some ⟨g,0,none⟩) (ps.length+1) cap) (ps++[(r,z)]) n:=by
 refine⟨by rw [List.length_append,List.length_singleton,List.flatMap_append,List.flatMap_singleton];exact hown,fun p hp=>?_⟩;have key:∀ p:Nm × Int,NumL wr p.1.val p.2 n→apart v.ownBlock p.1.sl→NumL w3 p.1.val p.2 n∧apart (some g) p.1.sl:=fun p h1 h2=>by
  refine⟨(h1.below ((zB _ _).alloc zL ob) zL).grown hg h2,fun a l c e h0 hb=>?_⟩;rcases hat with h | h
  ·exact h2 a l c e h0 (hb.trans h.symm)
  ·have:=h1.inside a l c e h0;simp only [Option.some.injEq] at hb;omega
 rcases List.mem_append.1 hp with h' | h'
 ·exact key p (h.2 p h').1 (h.2 p h').2
 ·rw [List.mem_singleton] at h';rw [h'];exact key (r,z) hz ha
theorem zie{ps:List (Nm × Int)}{ob:Obj}(h:Grow wr base v ps n)(hB:base≤wr.heap.size)(hg:(wr.alloc ob).grownBy w3 v.ownBlock):Below base wr w3:=
 ((zB _ _).alloc hB _).grown hg (by simp;omega) (fun k hk=>(h.1.lt k hk).1)
theorem zfv (ps:List (Nm × Int)):∀ i (h:i<ps.length),(ps.flatMap ncells)[i*2]?=some (.bool ps[i].1.neg)∧(ps.flatMap ncells)[i*2+1]?=some (.slice ps[i].1.o ps[i].1.l ps[i].1.c):=by
 induction ps with
 | nil=>intro i h;exact absurd h (by simp)
 | cons p ps ih=>
  intro i h;rw [List.flatMap_cons];cases i with
  | zero=>exact⟨rfl,rfl⟩
  | succ i=>
   obtain⟨h1,h2⟩:=ih i (by simpa using h);have e1:(i+1)*2=i*2+2:=by omega
   rw [e1,show i*2+2+1=i*2+1+2 by omega,List.getElem?_append_right (by simp [ncells]),List.getElem?_append_right (by simp [ncells])];exact⟨h1,h2⟩
theorem Grow.vec{ps:List (Nm × Int)}(h:Grow W base v ps n):VecN W v (ps.map (·.2)) n:=by
 obtain⟨⟨-,h1⟩,h2⟩:=h;have hlen:(ps.map (·.2)).length=ps.length:=zM ..;rcases h1 with⟨rfl,hn⟩ |⟨g,cap,cur,rfl,hb,hh,hc1,hc2,hc3,hc4⟩
 ·exact⟨none,0,by rw [hlen,hn],by rw [hlen];omega,fun h0=>absurd h0 (by rw [hlen];omega)⟩
 ·refine⟨_,cap,by rw [hlen],by rw [hlen];exact hc1,fun h0=>⟨g,0,rfl,zj hh,fun i hi=>?_⟩⟩;rw [hlen] at hi;obtain⟨e1,e2⟩:=zfv ps i hi;have hcell:∀ k u,k<ps.length*2→(ps.flatMap ncells)[k]?=some u→W.cell? ⟨g,0+k,none⟩=some u:=fun k u hk hu=>by
   have:=World.news_of_block hh k u (by rw [← hc4,List.getElem?_take,if_pos hk] at hu;exact hu);have e:(⟨g,0,none⟩:Addr).add k=⟨g,0+k,none⟩:=by unfold Addr.add;split <;> simp_all
   rwa [e] at this
  refine⟨ps[i].1.neg,ps[i].1.o,ps[i].1.l,ps[i].1.c,hcell _ _ (by omega) e1,hcell _ _ (by omega) e2,?_⟩;have e3:(ps.map (·.2)).getD i 0=ps[i].2:=by
   rw [zG,List.getElem?_map,List.getElem?_eq_getElem hi];rfl
  rw [e3];exact(h2 _ (List.getElem_mem hi)).1
def pcells (p:Nm × Int):List Value:=[.bool p.1.neg,.slice p.1.o p.1.l p.1.c]
theorem zjR (ps:List (Nm × Int)):∀ i (h:i<ps.length),(ps.flatMap pcells)[i*2]?=some (.bool ps[i].1.neg)∧(ps.flatMap pcells)[i*2+1]?=some (.slice ps[i].1.o ps[i].1.l ps[i].1.c):=by
 induction ps with
 | nil=>intro i h;exact absurd h (by simp)
 | cons p ps ih=>
  intro i h;rw [List.flatMap_cons];cases i with
  | zero=>exact⟨rfl,rfl⟩
  | succ i=>
   obtain⟨h1,h2⟩:=ih i (by simpa using h);have e1:(i+1)*2=i*2+2:=by omega
   rw [e1,show i*2+2+1=i*2+1+2 by omega,List.getElem?_append_right (by simp [pcells]),List.getElem?_append_right (by simp [pcells])];exact⟨h1,h2⟩
theorem zdI (ps:List (Nm × Int)):(ps.flatMap pcells).length=ps.length*2:=by
 induction ps with
 | nil=>rfl
 | cons p ps ih=>rw [List.flatMap_cons,List.length_append,ih];simp [pcells];omega
theorem zjS (ps:List (Nm × Int)):∀ v∈ps.flatMap pcells,v.oneCell'=true:=fun v hv=>by
 obtain⟨p,-,hp⟩:=List.mem_flatMap.1 hv;simp only [pcells,List.mem_cons,List.mem_nil_iff,or_false] at hp;rcases hp with rfl | rfl <;> rfl
theorem VecN.pairs{b off:Nat}{us:List Int}(h:VecN W (.slice (some ⟨b,off,none⟩) us.length cap) us n):
  ∃ ps:List (Nm × Int),ps.map (·.2)=us∧(∀ p∈ps,NumL W (.agg #[.bool p.1.neg,.slice p.1.o p.1.l p.1.c]) p.2 n)∧∀ j v,(ps.flatMap pcells)[j]?=some v→W.cell? ⟨b,off+j,none⟩=some v:=by
 have H:∀ i:Fin us.length,∃ r:Nm,W.cell? ⟨b,off+i*2,none⟩=some (.bool r.neg)∧W.cell? ⟨b,off+i*2+1,none⟩=some (.slice r.o r.l r.c)∧NumL W (.agg #[.bool r.neg,.slice r.o r.l r.c]) (us.getD i 0) n:=fun i=>by
  obtain⟨-,neg,o,l,c,h1,h2,h3⟩:=h.at i i.2;exact⟨⟨neg,o,l,c⟩,h1,h2,h3⟩
 obtain⟨f,hf⟩:=Classical.axiomOfChoice H;have hl:(List.ofFn fun i:Fin us.length=>((f i,us.getD i 0):Nm × Int)).length=us.length:=List.length_ofFn;refine⟨List.ofFn fun i:Fin us.length=>(f i,us.getD i 0),?_,fun p hp=>?_,fun j v hj=>?_⟩
 ·apply List.ext_getElem (by rw [zM,hl]);intro i h1 h2;rw [List.getElem_map,List.getElem_ofFn];show us.getD i 0=us[i];rw [zG,List.getElem?_eq_getElem h2];rfl
 ·obtain⟨i,rfl⟩:=(List.mem_ofFn).1 hp;exact(hf i).2.2
 ·have hjl:=(List.getElem?_eq_some_iff.1 hj).1;rw [zdI,hl] at hjl;have hi:j/2<us.length:=by omega
  obtain⟨e1,e2⟩:=zjR (List.ofFn fun i:Fin us.length=>(f i,us.getD i 0)) (j/2) (by rw [hl];exact hi);obtain⟨k1,k2,-⟩:=hf ⟨j/2,hi⟩;rw [List.getElem_ofFn] at e1 e2;by_cases hm:j%2=0
  ·have ej:j=j/2*2:=by omega
   rw [← ej] at e1;rw [e1] at hj;rw [← zI hj];have:(⟨b,off+j,none⟩:Addr)=⟨b,off+j/2*2,none⟩:=by rw [← ej]
   rw [this];exact k1
  ·have ej:j=j/2*2+1:=by omega
   rw [← ej] at e2;rw [e2] at hj;rw [← zI hj];have:(⟨b,off+j,none⟩:Addr)=⟨b,off+j/2*2+1,none⟩:=by rw [Nat.add_assoc,← ej]
   rw [this];exact k2
theorem zkw (zs us:List Int)(k:Nat)(u:Int)(hk:k<zs.length):splice (zs.set k u) (k+1) us=splice zs k (u::us):=by
 unfold splice;have hk':k<(zs.set k u).length:=by rw [List.length_set];exact hk
 rw [List.take_succ_eq_append_getElem hk',List.getElem_set_self,List.take_set_of_le zL,List.drop_set_of_lt (by omega),List.length_cons,show k+1+us.length=k+(us.length+1) by omega,List.append_assoc];rfl
theorem NumL.laid(h:VecO w W P zs n){k:Nat}(hk:k<zs.length)(neg:Bool)(o:Option Addr)(l c:Nat){y:Int}{m:Nat}(hv:NumL W v y m):
  NumL ((W.setCell ⟨P,k*2,none⟩ (.bool neg)).setCell ⟨P,k*2+1,none⟩ (.slice o l c)) v y m:=by
 obtain⟨neg0,o0,l0,c0,k0,k1,-⟩:=h.at k hk;have k1':(W.setCell ⟨P,k*2,none⟩ (.bool neg)).cell? ⟨P,k*2+1,none⟩=some (.slice o0 l0 c0):=(World.cell?_setCell_other (h:=fun e=>by simp at e) ..).trans k1;exact(hv.setCell k0 (fun z e=>by cases e)).setCell k1' (fun z e=>by cases e)
theorem VecO.lay {w:World}{P n:Nat}:∀(ps:List (Nm × Int)) (k:Nat) (W:World) (zs:List Int),VecO w W P zs n→k+ps.length≤zs.length→(∀ p∈ps,NumL W (.agg #[.bool p.1.neg,.slice p.1.o p.1.l p.1.c]) p.2 n)→VecO w (W.setCells P (k*2) (ps.flatMap pcells)) P (splice zs k (ps.map (·.2))) n
 | [],k,W,zs,h,_,_=>by simpa [splice,World.setCells] using h
 | p::ps,k,W,zs,h,hk,hn=>by
  rw [List.length_cons] at hk;have hset:=h.set (k:=k) (by omega) (hn p (by simp));have hrest:=VecO.lay ps (k+1) _ _ hset (by rw [List.length_set];omega) (fun q hq=>NumL.laid h (by omega) _ _ _ _ (hn q (by simp [hq])));rw [zkw _ _ _ _ (by omega),show(k+1)*2=k*2+1+1 by omega] at hrest;exact hrest
theorem zgb {B b:Nat}{w0:World}(hB:B≤b):∀(vs:List Value) (o:Nat) (W:World),Below B w0 W→Below B w0 (W.setCells b o vs)
 | [],_,_,h=>h
 | v::r,o,_,h=>zgb hB r (o+1) _ (h.setCell (p:=⟨b,o,none⟩) hB v)
theorem zgc (b:Nat):∀(vs:List Value) (o:Nat) (W:World),(W.setCells b o vs).heap.size=W.heap.size
 | [],_,_=>rfl
 | v::r,o,_=>by rw [World.setCells,zgc b r (o+1)];simp
theorem Tryz.sizeNum:(Tryz.prog.info? 29).map (·.size)=some 2:=by kernel_rfl
theorem zj6 {P:Program}(w:World)(dT sT ty elem:TypeId)(b o dLen dCap:Nat)(a:Addr)(sLen sCap:Nat)(cs:List Value)
  (hu:P.underlying dT=some (.slice elem)) (hs:(P.info? elem).map (·.size)=some 2) (hle:sLen≤dLen) (hn:cs.length=sLen*2)
  (hsrc:∀ j v,cs[j]?=some v→w.cell? (a.add j)=some v) (hc:∀ j,j<cs.length→(w.cell? ⟨b,o+j,none⟩).isSome=true) (hf:∀ j,j<cs.length→w.frozen? ⟨b,o+j,none⟩=false) (h1:∀ v∈cs,v.oneCell'=true):
  (Builtin.copy_ #[dT,sT] ty #[.slice (some ⟨b,o,none⟩) dLen dCap,.slice (some a) sLen sCap]).run P w=.ok (goInt sLen) (w.setCells b o cs):=by
 have hl:=run_loadCells_list (P:=P) w a cs hsrc;have hst:=run_storeCells_cells (P:=P) b o cs 0 w (by simpa using hc) (by simpa using hf) h1;have hm:Nat.min sLen dLen=sLen:=Nat.min_eq_left hle;cases hq:P.info? elem with
 | none=>simp [hq] at hs
 | some i=>
  have hi:i.size=2:=by simpa [hq] using hs
  simp [Builtin.copy_,run_underlying hu,Builtin.lenOf,Builtin.firstCells,sizeOf,typeInfo,hq,hi,hm,← hn,hl,hst]
theorem zj7 {P:Program}(w:World)(dT sT ty elem:TypeId)(d a:Option Addr)(dLen dCap sCap:Nat)(hu:P.underlying dT=some (.slice elem))(hs:(P.info? elem).map (·.size)=some 2):
  (Builtin.copy_ #[dT,sT] ty #[.slice d dLen dCap,.slice a 0 sCap]).run P w=.ok (goInt 0) w:=by
 cases hq:P.info? elem with
 | none=>simp [hq] at hs
 | some i=>
  have hl:∀(x:Addr),(loadCells x 0).run P w=.ok #[] w:=fun x=>by simpa using run_loadCells_list (P:=P) w x [] (by simp)
  cases d <;> cases a <;> simp [Builtin.copy_,run_underlying hu,Builtin.lenOf,Builtin.firstCells,sizeOf,typeInfo,hq,storeCells,hl]
theorem zht(h:VecO w W P zs n)(k dl dc:Nat)(v:Value)(us:List Int)(hv:VecN W v us n)(hk:k+us.length≤zs.length)(hd:us.length≤dl):
  ∃ W',(∀ ty,(Builtin.copy_ #[72,72] ty #[.slice (some ⟨P,k*2,none⟩) dl dc,v]).run Tryz.prog W=.ok (goInt us.length) W')∧VecO w W' P (splice zs k us) n∧W'.heap.size=W.heap.size∧Below P W W':=by
 by_cases h0:us.length=0
 ·obtain rfl:us=[]:=List.eq_nil_of_length_eq_zero h0;obtain⟨ao,cap,rfl,-,-⟩:=hv;exact⟨W,fun ty=>zj7 W _ _ ty 29 _ _ _ _ _ (by kernel_rfl) Tryz.sizeNum,by simpa [splice] using h,rfl,zB _ _⟩
 ·obtain⟨b,off,cap,rfl⟩:=hv.form (by omega);obtain⟨ps,e1,e2,e3⟩:=hv.pairs;have hlen:ps.length=us.length:=by rw [← e1,zM]
  have ha:∀ j,(⟨b,off,none⟩:Addr).add j=⟨b,off+j,none⟩:=fun j=>by unfold Addr.add;split <;> simp_all
  refine⟨W.setCells P (k*2) (ps.flatMap pcells),fun ty=>zj6 W _ _ ty 29 P (k*2) dl dc ⟨b,off,none⟩ us.length cap _ (by kernel_rfl) Tryz.sizeNum hd (by rw [zdI,hlen]) (fun j u hj=>by rw [ha];exact e3 j u hj) (fun j hj=>?_) (fun j _=>h.thaw _) (zjS ps),?_,zgc _ _ _ _,zgb zL _ _ _ (zB _ _)⟩
  ·rw [zdI] at hj;obtain⟨neg,o,l,c,q1,q2,-⟩:=h.at (k+j/2) (by omega);by_cases hm:j%2=0
   ·rw [show k*2+j=(k+j/2)*2 by omega,q1];rfl
   ·rw [show k*2+j=(k+j/2)*2+1 by omega,q2];rfl
  ·have:=VecO.lay ps k W zs h (by omega) e2
   rwa [e1] at this
theorem zeI(h:VecO w W P zs n)(k o dl dc:Nat)(ho:o=k*2)(v:Value)(us:List Int)(hv:VecN W v us n)(hk:k+us.length≤zs.length)(hd:us.length≤dl):
  ∃ W',(∀ ty,(Builtin.copy_ #[72,72] ty #[.slice (some ⟨P,o,none⟩) dl dc,v]).run Tryz.prog W=.ok (goInt us.length) W')∧VecO w W' P (splice zs k us) n∧W'.heap.size=W.heap.size∧Below P W W':=by
 subst ho;exact zht h k dl dc v us hv hk hd
theorem zgj {P:Program}{ops:Array Oper}{o:Oper}{a:Act}{K:Act→World→Prop}{Q:Exit→Act→World→Prop}{E:Prop}(hgd:o.guard=none)(dd:Nat)(hdst:o.dst=some dd)(d s:Operand)(dT sT:TypeId)
  (ho:o.op=.call { callee:=.builtin .copy,args:=#[d,s],argTypes:=#[dT,sT] }) (dv sv v:Value) (w':World) (hd:a.eval d=dv) (hs:a.eval s=sv)
  (hrun:∀ ty,(Builtin.copy_ #[dT,sT] ty #[dv,sv]).run P w=.ok v w') (h:K (a.put (some dd) v) w'):
  if Region.wanted o (yielded ops a.tmps)=true then Oper.wp P o a w K Q else E:=by
 rw [← hdst] at h;have hw:Region.wanted o (yielded ops a.tmps)=true:=by simp [Region.wanted,hgd]
 rw [if_pos hw];unfold Oper.wp;simp [execOp,ho,resolve,invoke,builtin,hd,hs,hrun,Result.andThen];exact h
def leftN (H:Nat→Nat→Int)(p:Nat→Nat)(v:Nat→Int):Nat→Nat→Int
 | 0=>v
 | i+1=>fun b=>leftN H p v i b-leftN H p v i (p i)/H i (p i)*H i b
def oftenN (H:Nat→Nat→Int)(p:Nat→Nat)(v:Nat→Int)(i:Nat):Int:=leftN H p v i (p i)/H i (p i)
theorem zfc (H:Nat→Nat→Int)(p:Nat→Nat)(v:Nat→Int)(b:Nat):∀ i,v b=leftN H p v i b+sumN i (fun k=>oftenN H p v k*H k b)
 | 0=>by simp [leftN,sumN]
 | i+1=>by
  have h:=zfc H p v b i;have e:leftN H p v (i+1) b=leftN H p v i b-oftenN H p v i*H i b:=rfl;have e2:sumN (i+1) (fun k=>oftenN H p v k*H k b)=sumN i (fun k=>oftenN H p v k*H k b)+oftenN H p v i*H i b:=rfl;rw [e,e2];omega
theorem zdu {r n:Nat}{H:Nat→Nat→Int}{p:Nat→Nat}(F:Form r n H p){v d:Nat→Int}(hv:∀ b,b<n→v b=sumN r (fun k=>d k*H k b)):∀ i,i≤r→(∀ k,k<i→oftenN H p v k=d k)∧∀ b,b<n→leftN H p v i b=sumN r (fun k=>(if k<i then 0 else d k)*H k b)
 | 0,_=>⟨fun k hk=>absurd hk (by omega),fun b hb=>by
  rw [show leftN H p v 0 b=v b from rfl,hv b hb];exact zm fun k _=>by rw [if_neg (by omega)]⟩
 | i+1,hi=>by
  obtain⟨h1,h2⟩:=zdu F hv i (by omega);have hp:=F.lt i (by omega);have hat:leftN H p v i (p i)=d i*H i (p i):=by
   rw [h2 _ hp];have:=F.at_pivot (fun k=>if k<i then 0 else d k) i (by omega) (fun k hk=>if_pos hk);rw [this,if_neg (by omega)]
  have hof:oftenN H p v i=d i:=by
   unfold oftenN;rw [hat,Int.mul_ediv_cancel _ (by have:=F.pos i (by omega);omega)]
  refine⟨fun k hk=>?_,fun b hb=>?_⟩
  ·by_cases hki:k=i
   ·rw [hki];exact hof
   ·exact h1 k (by omega)
  ·have e:leftN H p v (i+1) b=leftN H p v i b-oftenN H p v i*H i b:=rfl;rw [e,h2 b hb,hof];have e1:sumN r (fun k=>(if k<i then 0 else d k)*H k b)=sumN r (fun k=>(if k<i+1 then 0 else d k)*H k b)+sumN r (fun k=>(if k=i then d k else 0)*H k b):=by
    rw [← zca];refine zm fun k _=>?_;by_cases h3:k<i
    ·rw [if_pos h3,if_pos (by omega),if_neg (by omega)];simp
    ·by_cases h4:k=i
     ·rw [if_neg h3,if_pos (by omega),if_pos h4];simp
     ·rw [if_neg h3,if_neg (by omega),if_neg h4];simp
   have e2:sumN r (fun k=>(if k=i then d k else 0)*H k b)=d i*H i b:=by
    rw [za9 r i (by omega) _ (fun k _ hk=>by rw [if_neg hk,Int.zero_mul]),if_pos rfl]
   rw [e1,e2];omega
theorem ziL{r:Nat}{H:Nat→Nat→Int}(F:Form r n H p)(v:Nat→Int):Lat r n H v↔(∀ i,i<r→leftN H p v i (p i)%H i (p i)=0)∧∀ b,b<n→leftN H p v r b=0:=by
 constructor
 ·rintro ⟨d,hv⟩;refine⟨fun i hi=>?_,fun b hb=>?_⟩
  ·rw [(zdu F hv i (by omega)).2 _ (F.lt i hi),F.at_pivot (fun k=>if k<i then 0 else d k) i hi (fun k hk=>if_pos hk)];exact Int.mul_emod_left _ _
  ·rw [(zdu F hv r zL).2 b hb];exact(zm (g:=fun _=>0) fun k hk=>by rw [if_pos hk,Int.zero_mul]).trans (zav r)
 ·rintro ⟨-,h⟩;exact⟨oftenN H p v,fun b hb=>by rw [zfc H p v b r,h b hb,Int.zero_add]⟩
def oftL (hs:List (List Int))(p:Nat→Nat)(xs:List Int)(k:Nat):Int:=xs.getD (p k) 0/(hs.getD k []).getD (p k) 0
def leftL (hs:List (List Int))(p:Nat→Nat)(zs:List Int):Nat→List Int
 | 0=>zs
 | k+1=>List.zipWith (fun x y=>x-y) (leftL hs p zs k) ((hs.getD k []).map (oftL hs p (leftL hs p zs k) k*·))
def muchL (hs:List (List Int))(p:Nat→Nat)(zs:List Int):List Int:=(List.range hs.length).map fun k=>oftL hs p (leftL hs p zs k) k
theorem zat (hs:List (List Int))(p:Nat→Nat)(zs:List Int):(muchL hs p zs).length=hs.length:=by unfold muchL;simp
theorem zbv (m:Nat)(f:Nat→Int)(k:Nat)(hk:k<m):((List.range m).map f).getD k 0=f k:=by
 rw [zG,List.getElem?_map,List.getElem?_range hk];rfl
theorem zfu (hs:List (List Int))(p:Nat→Nat)(zs:List Int)(k:Nat)(hk:k<hs.length):(muchL hs p zs).getD k 0=oftL hs p (leftL hs p zs k) k:=zbv _ _ k hk
theorem zaV {n:Nat}{hs:List (List Int)}{p:Nat→Nat}(hF:FormL n hs p){zs:List Int}(hz:zs.length=n):∀ k,k≤hs.length→(leftL hs p zs k).length=n
 | 0,_=>hz
 | k+1,hk=>by
  have h1:=zaV hF hz k (by omega);have h2:=hF.len _ (zF (show k<hs.length by omega));have el:leftL hs p zs (k+1)=List.zipWith (fun x y=>x-y) (leftL hs p zs k) ((hs.getD k []).map (oftL hs p (leftL hs p zs k) k*·)):=rfl;rw [el,zg _ _ _ (by rw [zM,h1,h2])];exact h1
theorem zbS {n:Nat}{hs:List (List Int)}{p:Nat→Nat}(hF:FormL n hs p){zs:List Int}(hz:zs.length=n):∀ k,k≤hs.length→∀ b,b<n→(leftL hs p zs k).getD b 0=leftN (fun k b=>(hs.getD k []).getD b 0) p (fun b=>zs.getD b 0) k b
 | 0,_,_,_=>rfl
 | k+1,hk,b,hb=>by
  have h1:=zaV hF hz k (by omega);have h2:=hF.len _ (zF (show k<hs.length by omega));have h3:=zbS hF hz k (by omega);have h4:=hF.form.lt k (by omega);have e:leftN (fun k b=>(hs.getD k []).getD b 0) p (fun b=>zs.getD b 0) (k+1) b=leftN (fun k b=>(hs.getD k []).getD b 0) p (fun b=>zs.getD b 0) k b-leftN (fun k b=>(hs.getD k []).getD b 0) p (fun b=>zs.getD b 0) k (p k)/(hs.getD k []).getD (p k) 0 *(hs.getD k []).getD b 0:=rfl;have el:leftL hs p zs (k+1)=List.zipWith (fun x y=>x-y) (leftL hs p zs k) ((hs.getD k []).map (oftL hs p (leftL hs p zs k) k*·)):=rfl;rw [e,← h3 b hb,← h3 (p k) h4,el];rw [zi _ _ _ (by rw [zM,h1,h2]) b (by omega),zdA _ _ _ (by omega)];rfl
theorem zcu:∀(zs:List Int),first zs<0↔∀ b,b<zs.length→zs.getD b 0=0
 | []=>⟨fun _ b hb=>absurd hb (by simp),fun _=>by decide⟩
 | z::zs=>by
  have ih:=zcu zs;have hge:=zdi zs;rw [first];by_cases h:z=0
  ·rw [if_pos h];constructor
   ·intro h1 b hb;have h2:first zs<0:=by
     by_cases h3:first zs<0
     ·exact h3
     ·rw [if_neg h3] at h1;omega
    cases b with
    | zero=>simpa using h
    | succ b=>simpa using ih.1 h2 b (by simpa using hb)
   ·intro h1;have h2:first zs<0:=ih.2 fun b hb=>by simpa using h1 (b+1) (by simpa using hb)
    rw [if_pos h2];decide
  ·rw [if_neg h];exact⟨fun h1=>absurd h1 (by decide),fun h1=>absurd (by simpa using h1 0 (by simp)) h⟩
theorem zdT{hs:List (List Int)}(hF:FormL n hs p)(hz:zs.length=n):Lat hs.length n (fun k b=>(hs.getD k []).getD b 0) (fun b=>zs.getD b 0)↔(∀ k,k<hs.length→(leftL hs p zs k).getD (p k) 0%(hs.getD k []).getD (p k) 0=0)∧first (leftL hs p zs hs.length)<0:=by
 rw [ziL hF.form,zcu];have hl:=zaV hF hz hs.length zL;constructor
 ·rintro ⟨h1,h2⟩;exact⟨fun k hk=>by rw [zbS hF hz k (by omega) _ (hF.form.lt k hk)];exact h1 k hk,fun b hb=>by rw [zbS hF hz _ zL b (by omega)];exact h2 b (by omega)⟩
 ·rintro ⟨h1,h2⟩;exact⟨fun k hk=>by rw [← zbS hF hz k (by omega) _ (hF.form.lt k hk)];exact h1 k hk,fun b hb=>by rw [← zbS hF hz _ zL b hb];exact h2 b (by omega)⟩
theorem zcw{hs:List (List Int)}(hl:∀ r∈hs,r.length=n){v:List Int}(hv:v.length=n)(h:Lat hs.length n (fun k b=>(hs.getD k []).getD b 0) (fun b=>v.getD b 0)):Gens n (InL hs) v:=by
 obtain⟨c,hc⟩:=h;have key:∀ m,m≤hs.length→Gens n (InL hs) ((List.range n).map fun b=>sumN m (fun k=>c k *(hs.getD k []).getD b 0)):=by
  intro m
  induction m with
  | zero=>
   intro _;have e:((List.range n).map fun b=>sumN 0 (fun k=>c k *(hs.getD k []).getD b 0))=List.replicate n 0:=by
    apply zK (by simp);intro k hk;have hk':k<n:=by simpa using hk
    rw [zbv _ _ k hk',zG,List.getElem?_replicate,if_pos hk'];rfl
   rw [e];exact .zero
  | succ m ih=>
   intro hm;have g:=ih (by omega);have hmm:=zF (show m<hs.length by omega);have hml:=hl _ hmm;have e:((List.range n).map fun b=>sumN (m+1) (fun k=>c k *(hs.getD k []).getD b 0))=List.zipWith (fun a b=>1*a+c m*b) ((List.range n).map fun b=>sumN m (fun k=>c k *(hs.getD k []).getD b 0)) (hs.getD m []):=by
    apply zK (by rw [zg _ _ _ (by rw [zM,List.length_range,hml]),zM,zM]);intro k hk;have hk':k<n:=by simpa using hk
    rw [zbv _ _ k hk',zi _ _ _ (by rw [zM,List.length_range,hml]) k (by simpa using hk'),zbv _ _ k hk',Int.one_mul];rfl
   rw [e];exact .comb _ _ g (.base hmm hml)
 have e:v=((List.range n).map fun b=>sumN hs.length (fun k=>c k *(hs.getD k []).getD b 0)):=by
  apply zK (by simp [hv]);intro k hk;rw [zbv _ _ k (by omega)];exact hc k (by omega)
 rw [e];exact key _ zL
theorem zbn{hs:List (List Int)}(hl:∀ r∈hs,r.length=n){v:List Int}(hv:v.length=n):Lat hs.length n (fun k b=>(hs.getD k []).getD b 0) (fun b=>v.getD b 0)↔Gens n (InL hs) v:=⟨zcw hl hv,zas⟩
theorem Gens.scale{S:List Int→Prop}{u:List Int}(h:Gens n S u)(z:Int):Gens n S (u.map (z*·)):=by
 rw [zbs];exact .comb z 0 h h
end Go.Proofs.YtdedolkgcdlmeaaGreatDoor
