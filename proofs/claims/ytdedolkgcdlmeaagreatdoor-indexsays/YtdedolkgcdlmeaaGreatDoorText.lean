import Derived.Test.YtdedolkgcdlmeaaGreatDoorHermR
set_option maxRecDepth 100000
set_option maxHeartbeats 1600000
namespace Go.Proofs.YtdedolkgcdlmeaaGreatDoor
open Go.RowKit Limbs Digs
variable {n k base km g cap:Nat}{v m u s:Value}{W0 W wr w w3 W' w':World}{z:Int}{r rk gs:List Int}{row:Option Nat}
def RowsS (w:World)(v:Value)(rs:List (List Int)):Prop:=
 ∃ ao cap,v=.slice ao rs.length cap∧rs.length≤cap∧(0<rs.length→∃ b off,ao=some ⟨b,off,none⟩∧b<w.heap.size∧∀ i r,rs[i]?=some r→∃ u,w.cell? ⟨b,off+i,none⟩=some u∧RowS w u r)
theorem RowsS.below{rs:List (List Int)}(h:RowsS w v rs)(hb:Below w.heap.size w w'):RowsS w' v rs:=by
 obtain⟨ao,cap,hv,h1,h2⟩:=h
 refine⟨ao,cap,hv,h1,fun h0=>?_⟩
 obtain⟨b,off,e,hlt,hc⟩:=h2 h0
 refine⟨b,off,e,zT hlt hb.size,fun i r hi=>?_⟩
 obtain⟨u,h3,h4⟩:=hc i r hi
 exact⟨u,(hb.cell (p:=⟨b,off+i,none⟩) hlt).trans h3,h4.below hb zL⟩
theorem RowsS.at{rs:List (List Int)}(h:RowsS w v rs)(i:Nat)(hi:i<rs.length):∃ b off cap,v=.slice (some ⟨b,off,none⟩) rs.length cap∧b<w.heap.size∧∃ u,w.cell? ⟨b,off+i,none⟩=some u∧RowS w u rs[i]:=by
 obtain⟨ao,cap,hv,h1,h2⟩:=h
 obtain⟨b,off,e,hlt,hc⟩:=h2 (by omega)
 subst e
 exact⟨b,off,cap,hv,hlt,hc i rs[i] (by simp [hi])⟩
def small (z:Int):Bool:=decide (-1000000≤z∧z≤1000000)
def goodRow (n:Int)(r:List Int):Bool:=decide ((r.length:Int)=n) && r.all small
def goodG (n:Int)(rs:List (List Int)):Bool:=decide (1≤n∧n≤4∧rs.length≤8) && rs.all (goodRow n)
theorem zbV{n:Int}:goodRow n r=true↔(r.length:Int)=n∧∀ z∈r,-1000000≤z∧z≤1000000:=by
 simp [goodRow,small]
theorem zdt{n:Int}{rs:List (List Int)}(hr:r∈rs)(h:goodRow n r=false):goodG n rs=false:=by
 unfold goodG
 rw [Bool.and_eq_false_iff]
 right
 rw [List.all_eq_false]
 exact⟨r,hr,by rw [h];decide⟩
theorem ze5{n:Int}(hz:z∈r)(h:z < -1000000∨1000000<z):goodRow n r=false:=by
 cases e:goodRow n r with
 | false=>rfl
 | true=>have:=(zbV.1 e).2 z hz;omega
def MadePostR (w:World)(n:Int)(rs:List (List Int))(e:Ending)(w':World):Prop:=
 Below w.heap.size w w'∧((goodG n rs=false∧e=(.returned (.tuple #[.agg #[.int .i64 0,.slice none 0 0],.slice none 0 0,.bool false]))) ∨
  (goodG n rs=true∧∃ u m hs,e=.returned (.tuple #[.agg #[.int .i64 n,u],m,.bool true])∧LatN w' (.agg #[.int .i64 n,u]) n.toNat hs 6∧Alikes n.toNat (InL hs) (InL rs)∧MatR w' m hs 18))
structure MadeI (W0 wr:World)(n:Nat)(rs:List (List Int))(km k:Nat)(m:Value)(qs:List (Value × List Int))(u:Value)(hs:List (List Int)):Prop where
 grow:GrowM wr (W0.heap.size+1) m qs 5
 all:AllSl wr m.ownBlock
 rows:qs.map (·.2)=rs.take km
 var:BVar wr W0.heap.size n u
 mat:MatN wr u hs 6
 form:∃ p,FormL n hs p
 alike:Alikes n (InL hs) (InL (rs.take k))
 sep:0<hs.length→Sep u m.ownBlock
 below:Below W0.heap.size W0 wr
 good:∀ r∈rs.take km,goodRow n r=true
theorem MadeI.later{rs:List (List Int)}{qs:List (Value × List Int)}{hs:List (List Int)}(h:MadeI W0 wr n rs km k m qs u hs)(hb:Below wr.heap.size wr w'):MadeI W0 w' n rs km k m qs u hs:=
 ⟨h.grow.later hb,h.all.later hb,h.rows,h.var.later hb h.var.lt,h.mat.below hb zL,h.form,h.alike,h.sep,h.below.trans (hb.mono h.below.size),h.good⟩
theorem MadeI.len{rs:List (List Int)}{qs:List (Value × List Int)}{hs:List (List Int)}(h:MadeI W0 wr n rs km k m qs u hs)(hk:km≤rs.length):qs.length=km:=by
 have:=congrArg List.length h.rows
 rw [List.length_map,List.length_take] at this
 omega
theorem MadeI.start(n:Nat)(rs:List (List Int)):MadeI W0 (W0.alloc (.cells #[.int .i64 (n:Int),.slice none 0 0] 55)) n rs 0 0 (.slice none 0 0) [] (.slice none 0 0) [] where
 grow:=⟨World.ownsRow_nil _ _ _ _,fun _ h=>by cases h⟩
 all:=zek _
 rows:=by simp
 var:=⟨zj W0 _ _ _ _ rfl,_,heap_alloc_new W0 _⟩
 mat:=zfB _ _
 form:=⟨_,zeY n⟩
 alike:=fun v=>by rw [List.take_zero]
 sep:=fun _ a l c e=>by cases e
 below:=(Below.refl _ _).alloc zL _
 good:=fun r h=>by rw [List.take_zero] at h;cases h
theorem zg0{l l':List (List Int)}{us:List Int}(h:Alikes n (InL l) (InL l')):Alikes n (InL (l++[us])) (InL (l'++[us])):=by
 refine .of (fun v hv hvl=>?_) (fun v hv hvl=>?_)
 ·rcases List.mem_append.1 hv with hv | hv
  ·exact((h v).1 (.base hv hvl)).trans (fun x hx hxl=>.base (List.mem_append_left _ hx) hxl)
  ·exact .base (List.mem_append_right _ hv) hvl
 ·rcases List.mem_append.1 hv with hv | hv
  ·exact((h v).2 (.base hv hvl)).trans (fun x hx hxl=>.base (List.mem_append_left _ hx) hxl)
  ·exact .base (List.mem_append_right _ hv) hvl
theorem zd0 {rs:List (List Int)}(h:rs[k]?=some rk):rs.take (k+1)=rs.take k++[rk]:=by
 rw [List.take_add_one,h];rfl
theorem MadeI.grew{w5:World}{rs:List (List Int)}{qs:List (Value × List Int)}{hs:List (List Int)}{ob:Obj}{x:Value}(h:MadeI W0 wr n rs k k m qs u hs)(hk:rs[k]?=some rk)
  (hz:RowR wr x rk 5) (hg:goodRow n rk=true)
  (hown:w5.ownsRow (W0.heap.size+1) 106 1 (.slice (some ⟨g,0,none⟩) (qs.length+1) cap) (qs.length+1) (qs.map (·.1)++[x]))
  (hgr:(wr.alloc ob).grownBy w5 m.ownBlock) (hall:AllSl w5 (some g)) (hat:m.ownBlock=some g∨g=wr.heap.size+1):
  MadeI W0 w5 n rs (k+1) k (.slice (some ⟨g,0,none⟩) (qs.length+1) cap) (qs++[(x,rk)]) u hs where
 grow:=zcA h.grow hz hown hgr
 all:=hall
 rows:=by rw [List.map_append,h.rows,zd0 hk];rfl
 var:=(h.var.later ((Below.refl _ _).alloc zL ob) h.var.lt).grown hgr (h.all.later ((Below.refl _ _).alloc zL ob))
 mat:=(h.mat.below ((Below.refl _ _).alloc zL ob) zL).grownH hgr (h.all.later ((Below.refl _ _).alloc zL ob)) h.sep
 form:=h.form
 alike:=h.alike
 sep:=fun h0=>by
  rcases hat with e | e
  ·have:=h.sep h0
   rw [e] at this
   exact this
  ·intro a l c ea e'
   obtain⟨ao,cap',e1,-,h2⟩:=h.mat
   obtain⟨b,off,e2,hlt,-⟩:=h2 h0
   rw [e1,e2] at ea
   simp only [Value.slice.injEq,Option.some.injEq] at ea
   obtain⟨rfl,-⟩:=ea
   simp only [Value.ownBlock,Option.some.injEq] at e'
   rw [e] at e'
   omega
 below:=h.below.trans ((zaa h.grow.1 h.var.lt hgr).mono (by omega))
 good:=fun r hr=>by
  rw [zd0 hk] at hr
  rcases List.mem_append.1 hr with hr | hr
  ·exact h.good r hr
  ·rw [List.mem_singleton] at hr;rw [hr];exact hg
theorem zkS(h:-1000000≤z∧z≤1000000):ab z<bp 1:=by
 have e:bp 1=4294967296:=by decide
 rw [e]
 unfold ab
 split <;> omega
theorem MadeI.put{rs:List (List Int)}{qs:List (Value × List Int)}{hs:List (List Int)}{u':Value}{hs':List (List Int)}{nv:Nat}(h:MadeI W0 w3 n rs (k+1) k m qs u hs)(hk:rs[k]?=some rk)(hn:n≤4)
  (hu:MatN w3 u' hs' nv) (hF:∃ p,FormL n hs' p) (hA:Alikes n (InL hs') (InL (hs++[rk]))) (hfr:Fresh base u') (hb1:W0.heap.size<base) (hb2:∀ g,m.ownBlock=some g→g<base) (hsl:∃ o l c,u=.slice o l c):
  MadeI W0 ((w3.setCell ⟨W0.heap.size,0,none⟩ (.int .i64 (n:Int))).setCell ⟨W0.heap.size,1,none⟩ u') n rs (k+1) (k+1) m qs u' hs':=by
 have hA':Alikes n (InL hs') (InL (rs.take (k+1))):=fun v=>(hA v).trans (by
  rw [zd0 hk]
  exact zg0 h.alike v)
 obtain⟨p,hF⟩:=hF
 have hl:∀ us∈rs.take (k+1),us.length=n:=fun us hus=>by have:=(zbV.1 (h.good us hus)).1;omega
 have ht:MatN w3 u' hs' 6:=by
  refine hu.tight fun zs hz j hj=>?_
  have h1:=ziw (nv:=1) hF hA' hl (fun us hus j hj=>zkS ((zbV.1 (h.good us hus)).2 _ (by
   have hj':j<us.length:=by rw [hl us hus];exact hj
   rw [List.getD_eq_getElem?_getD,List.getElem?_eq_getElem hj',Option.getD_some]
   exact List.getElem_mem hj'))) (by omega) zs hz j hj
  exact Int.lt_of_lt_of_le h1 (zam (by omega))
 obtain⟨o,l,c,rfl⟩:=hsl
 exact
  {grow:=h.grow.setVar h.var _ _
   all:=(h.all.setCell (h.var.apart h.all) _ _).setCell (h.var.apart h.all) _ _
   rows:=h.rows
   var:=h.var.write _ _
   mat:=ht.setVar _ _ (fun _=>hfr.sep hb1) h.var.1.1 h.var.1.2.1
   form:=⟨p,hF⟩
   alike:=hA'
   sep:=fun _ a l c e e'=>by
    have h1:=hfr a l c e
    have h2:=hb2 a.block e'.symm
    omega
   below:=(h.below.setCell (by exact Nat.le_refl _) _).setCell (by exact Nat.le_refl _) _
   good:=h.good }
theorem zaR (w:World)(a0 a1 b0 b1:Value)(t t':TypeId):Box ((w.alloc (.cells #[a0,a1] t)).alloc (.cells #[b0,b1] t')) w.heap.size a0 a1∧Box ((w.alloc (.cells #[a0,a1] t)).alloc (.cells #[b0,b1] t')) (w.heap.size+1) b0 b1∧Below w.heap.size w ((w.alloc (.cells #[a0,a1] t)).alloc (.cells #[b0,b1] t'))∧w.heap.size+1<((w.alloc (.cells #[a0,a1] t)).alloc (.cells #[b0,b1] t')).heap.size:=
 ⟨(zj w a0 a1 t _ rfl).later ((Below.refl (w.heap.size+1) _).alloc (by simp) _) (by omega),zj _ b0 b1 t' _ (by simp),((Below.refl w.heap.size w).alloc zL _).alloc (by simp) _,by simp⟩
theorem zgI {P:Program}{ops:Array Oper}{Q:Exit→Act→World→Prop}{md:Region.Mode}{S:World→Prop}(i j:Nat){oi oj:Oper}{fuel:Nat}{listed:Array Bool}{a:Act}(hr:Region.ready md ops listed=[i,j])(hoi:ops[i]?=some oi)(hoj:ops[j]?=some oj)
  (h1:∀ K':Act→World→Prop,Shut (∀ a w,(i<k→S w)→wpUpto P md ops Q S k fuel (listed.setIfInBounds i true) a w→K' a w)→if Region.wanted oi (yielded ops a.tmps)=true then Oper.wp P oi a w K' Q else K' (a.put oi.dst undef) w)
  (h2:∀ K':Act→World→Prop,Shut (∀ a w,(j<k→S w)→wpUpto P md ops Q S k fuel (listed.setIfInBounds j true) a w→K' a w)→if Region.wanted oj (yielded ops a.tmps)=true then Oper.wp P oj a w K' Q else K' (a.put oj.dst undef) w):
  wpUpto P md ops Q S k (fuel+1) listed a w:=by
 refine⟨fun h0=>absurd (hr.symm.trans h0) (by simp),fun x hx=>?_⟩
 rw [hr] at hx
 have hx':x=i∨x=j:=by simpa using hx
 rcases hx' with rfl | rfl
 ·exact wpOp_step hoi (fun K' hK=>h1 K' (fun a w hS hW=>hK a w ⟨hS,hW⟩))
 ·exact wpOp_step hoj (fun K' hK=>h2 K' (fun a w hS hW=>hK a w ⟨hS,hW⟩))
theorem zjy (w:World)(nI:Int)(go:Option Addr)(gcap:Nat)(rs:List (List Int))(h:¬(1≤nI∧nI≤4∧rs.length≤8)):
  Calls Tryz.prog 22 #[.agg #[.int .i64 nI,.slice go rs.length gcap]] w fun e w'=>MadePostR w nI rs e w':=by
 have HE:Hid (goodG nI rs=false):=by show _=_;unfold goodG;rw [decide_eq_false h,Bool.false_and]
 have HX:=hide (zaR w (.int .i64 nI) (.slice go rs.length gcap) (.int .i64 0) (.slice none 0 0) 53 55)
 obtain⟨⟨c0,c1,z0,z1⟩,⟨d0,d1,y0,y1⟩,-,-⟩:=HX.out
 have HB:=hide HX.out.2.2.1
 by_cases h1:nI<1
 ·clear h
  have g1:decide (nI<1)=true:=decide_eq_true h1
  clear HX
  go_enter Tryz.func22,Tryz.ntmps22
  go_wp2
  exact bodyPost_ret (v:=.tuple #[.agg #[.int .i64 0,.slice none 0 0],.slice none 0 0,.bool false]) (by simp [results,Tryz.results22,go_sem,d0,d1]) rfl ⟨HB.out,.inl ⟨HE.out,rfl⟩⟩
 ·by_cases h2:4<nI
  ·clear h
   have g1:decide (nI<1)=false:=decide_eq_false h1;have g2:decide (4<nI)=true:=decide_eq_true h2
   clear HX
   go_enter Tryz.func22,Tryz.ntmps22
   go_wp2
   exact bodyPost_ret (v:=.tuple #[.agg #[.int .i64 0,.slice none 0 0],.slice none 0 0,.bool false]) (by simp [results,Tryz.results22,go_sem,d0,d1]) rfl ⟨HB.out,.inl ⟨HE.out,rfl⟩⟩
  ·have h3:8<(rs.length:Int):=by omega
   clear h
   have g1:decide (nI<1)=false:=decide_eq_false h1;have g2:decide (4<nI)=false:=decide_eq_false h2;have g3:decide (8<(rs.length:Int))=true:=decide_eq_true h3
   clear HX
   go_enter Tryz.func22,Tryz.ntmps22
   go_wp2
   exact bodyPost_ret (v:=.tuple #[.agg #[.int .i64 0,.slice none 0 0],.slice none 0 0,.bool false]) (by simp [results,Tryz.results22,go_sem,d0,d1]) rfl ⟨HB.out,.inl ⟨HE.out,rfl⟩⟩
def apart (og:Option Nat)(s:Value):Prop:=∀ a l c,s=.slice (some a) l c→0<l→some a.block≠og
theorem Lim.grown{zs:List Int}(h:Lim W s zs)(hg:W.grownBy W' row)(hne:apart row s):Lim W' s zs:=by
 obtain⟨ao,cap,rfl,h1,h2,h3,h4⟩:=h
 refine⟨ao,cap,rfl,h1,h2,h3,fun h0=>?_⟩
 obtain⟨b,off,rfl,hlt,hc⟩:=h4 h0
 have hb:=hne _ _ _ rfl h0
 exact⟨b,off,rfl,zT hlt hg.size,fun i hi=>hg.cell (hc i hi) hb⟩
def Nm.val (r:Nm):Value:=.agg #[.bool r.neg,.slice r.o r.l r.c]
def Nm.sl (r:Nm):Value:=.slice r.o r.l r.c
def ncells (p:Nm × Int):List Value:=[.bool p.1.neg,.slice p.1.o p.1.l p.1.c]
theorem NumL.grown{r:Nm}(h:NumL W r.val z n)(hg:W.grownBy W' row)(hne:apart row r.sl):NumL W' r.val z n:=by
 obtain⟨neg,s,zs,e,hl,h3⟩:=h
 simp only [Nm.val,Value.agg.injEq,Array.mk.injEq,List.cons.injEq,Value.bool.injEq,and_true] at e
 obtain⟨rfl,rfl⟩:=e
 exact⟨_,_,zs,rfl,hl.grown hg hne,h3⟩
theorem NumL.inside{r:Nm}(h:NumL W r.val z n):∀ a l c,r.sl=.slice (some a) l c→0<l→a.block<W.heap.size:=fun a l c e h0=>by
 obtain⟨neg,s,zs,e1,hl,-⟩:=h
 simp only [Nm.val,Value.agg.injEq,Array.mk.injEq,List.cons.injEq,Value.bool.injEq,and_true] at e1
 obtain⟨rfl,rfl⟩:=e1
 obtain⟨ao,cap,e2,-,-,-,h4⟩:=hl
 unfold Nm.sl at e
 rw [e] at e2
 simp only [Value.slice.injEq] at e2
 obtain⟨rfl,rfl,rfl⟩:=e2
 obtain⟨b,off,e3,hlt,-⟩:=h4 h0
 simp only [Option.some.injEq] at e3
 rw [e3]
 exact hlt
def Grow (W:World)(base:Nat)(v:Value)(ps:List (Nm × Int))(n:Nat):Prop:=
 W.ownsRow base 29 2 v ps.length (ps.flatMap ncells)∧∀ p∈ps,NumL W p.1.val p.2 n∧apart v.ownBlock p.1.sl
theorem Grow.nil (W:World)(base n:Nat):Grow W base (.slice none 0 0) [] n:=⟨World.ownsRow_nil _ _ _ _,fun _ h=>by cases h⟩
theorem Grow.later{ps:List (Nm × Int)}(h:Grow W base v ps n)(hb:Below W.heap.size W W'):Grow W' base v ps n:=by
 refine⟨?_,fun p hp=>⟨(h.2 p hp).1.below hb zL,(h.2 p hp).2⟩⟩
 refine⟨h.1.1,?_⟩
 rcases h.1.2 with hn |⟨g,cap,cur,e,hbg,hh,rest⟩
 ·exact .inl hn
 ·exact .inr ⟨g,cap,cur,e,hbg,(hb.block _ (zq hh)).trans hh,rest⟩
theorem Grow.fresh{ps:List (Nm × Int)}(h:Grow W base v ps n)(hs:W.heap.size≤W0.heap.size)(hn:NewSl W0 s):apart v.ownBlock s:=fun a l c e _ hb=>by
 have h1:=hn a l c e
 have h2:=(h.1.lt _ hb.symm).2
 omega
theorem ze9{ps:List (Nm × Int)}{r:Nm}{ob:Obj}(h:Grow wr base v ps n)(hz:NumL wr r.val z n)(ha:apart v.ownBlock r.sl)
  (hown:w3.ownsRow base 29 2 (.slice (some ⟨g,0,none⟩) (ps.length+1) cap) (ps.length+1) (ps.flatMap ncells++ncells (r,z)))
  (hg:(wr.alloc ob).grownBy w3 v.ownBlock) (hat:v.ownBlock=some g∨g=wr.heap.size+1):Grow w3 base (.slice (some ⟨g,0,none⟩) (ps.length+1) cap) (ps++[(r,z)]) n:=by
 refine⟨by rw [List.length_append,List.length_singleton,List.flatMap_append,List.flatMap_singleton];exact hown,fun p hp=>?_⟩
 have key:∀ p:Nm × Int,NumL wr p.1.val p.2 n→apart v.ownBlock p.1.sl→NumL w3 p.1.val p.2 n∧apart (some g) p.1.sl:=fun p h1 h2=>by
  refine⟨(h1.below ((Below.refl _ _).alloc zL ob) zL).grown hg h2,fun a l c e h0 hb=>?_⟩
  rcases hat with h | h
  ·exact h2 a l c e h0 (hb.trans h.symm)
  ·have:=h1.inside a l c e h0
   simp only [Option.some.injEq] at hb
   omega
 rcases List.mem_append.1 hp with h' | h'
 ·exact key p (h.2 p h').1 (h.2 p h').2
 ·rw [List.mem_singleton] at h'
  rw [h']
  exact key (r,z) hz ha
theorem ze8{ps:List (Nm × Int)}{ob:Obj}(h:Grow wr base v ps n)(hB:base≤wr.heap.size)(hg:(wr.alloc ob).grownBy w3 v.ownBlock):Below base wr w3:=
 ((Below.refl _ _).alloc hB _).grown hg (by simp;omega) (fun k hk=>(h.1.lt k hk).1)
theorem zjO (ps:List (Nm × Int)):∀ i (h:i<ps.length),(ps.flatMap ncells)[i*2]?=some (.bool ps[i].1.neg)∧(ps.flatMap ncells)[i*2+1]?=some (.slice ps[i].1.o ps[i].1.l ps[i].1.c):=by
 induction ps with
 | nil=>intro i h;exact absurd h (by simp)
 | cons p ps ih=>
  intro i h
  rw [List.flatMap_cons]
  cases i with
  | zero=>exact⟨rfl,rfl⟩
  | succ i=>
   obtain⟨h1,h2⟩:=ih i (by simpa using h)
   have e1:(i+1)*2=i*2+2:=by omega
   rw [e1,show i*2+2+1=i*2+1+2 by omega,List.getElem?_append_right (by simp [ncells]),List.getElem?_append_right (by simp [ncells])]
   exact⟨h1,h2⟩
theorem Grow.vec{ps:List (Nm × Int)}(h:Grow W base v ps n):VecN W v (ps.map (·.2)) n:=by
 obtain⟨⟨-,h1⟩,h2⟩:=h
 have hlen:(ps.map (·.2)).length=ps.length:=List.length_map ..
 rcases h1 with⟨rfl,hn⟩ |⟨g,cap,cur,rfl,hb,hh,hc1,hc2,hc3,hc4⟩
 ·exact⟨none,0,by rw [hlen,hn],by rw [hlen];omega,fun h0=>absurd h0 (by rw [hlen];omega)⟩
 ·refine⟨_,cap,by rw [hlen],by rw [hlen];exact hc1,fun h0=>⟨g,0,rfl,zq hh,fun i hi=>?_⟩⟩
  rw [hlen] at hi
  obtain⟨e1,e2⟩:=zjO ps i hi
  have hcell:∀ k u,k<ps.length*2→(ps.flatMap ncells)[k]?=some u→W.cell? ⟨g,0+k,none⟩=some u:=fun k u hk hu=>by
   have:=World.news_of_block hh k u (by rw [← hc4,List.getElem?_take,if_pos hk] at hu;exact hu)
   have e:(⟨g,0,none⟩:Addr).add k=⟨g,0+k,none⟩:=by unfold Addr.add;split <;> simp_all
   rwa [e] at this
  refine⟨ps[i].1.neg,ps[i].1.o,ps[i].1.l,ps[i].1.c,hcell _ _ (by omega) e1,hcell _ _ (by omega) e2,?_⟩
  have e3:(ps.map (·.2)).getD i 0=ps[i].2:=by
   rw [List.getD_eq_getElem?_getD,List.getElem?_map,List.getElem?_eq_getElem hi];rfl
  rw [e3]
  exact(h2 _ (List.getElem_mem hi)).1
theorem Tryz.asErrno (v:Value)(w:World):(Instr.typeAssert (.iface 102 v) 31 102 true).run Tryz.prog w=.ok (.tuple #[v,.bool true]) w:=by kernel_rfl
theorem zkC (n f:Int)(w:World):
  Calls Tryz.prog 13 #[.iface 102 (.int .i64 n),.int .i64 f] w fun e w'=>e=.returned (.bool (decide (0<f) && n==f))∧w'=w:=by
 have has:=Tryz.asErrno
 by_cases h1:0<f
 ·have e1:decide (0<f)=true:=decide_eq_true h1
  go_enter Tryz.func13,Tryz.ntmps13
  go_wp2
  go_ret
  exact⟨zf9 (by simp [e1]),rfl⟩
 ·have e1:decide (0<f)=false:=decide_eq_false h1
  go_enter Tryz.func13,Tryz.ntmps13
  go_wp2
  go_ret
  exact⟨zf9 (by simp),rfl⟩
theorem zkD (f:Int)(w:World):
  Calls Tryz.prog 13 #[.nilIface,.int .i64 f] w fun e w'=>e=.returned (.bool (f==0))∧w'=w:=by
 go_enter Tryz.func13,Tryz.ntmps13
 go_wp2
 go_ret
 exact⟨rfl,rfl⟩
theorem zdO (n:Int)(hn:0<n)(w:World):Calls Tryz.prog 13 #[.iface 102 (.int .i64 n),.int .i64 n] w fun e w'=>e=.returned (.bool true)∧w'=w:=by
 refine(zkC n n w).mono ?_
 rintro e w' ⟨rfl,rfl⟩
 refine⟨?_,rfl⟩
 rw [decide_eq_true hn,beq_self_eq_true];rfl
theorem zdP (w:World):Calls Tryz.prog 13 #[.nilIface,.int .i64 0] w fun e w'=>e=.returned (.bool true)∧w'=w:=zkD 0 w
open Go.ChangeShapes Go.WideShapes Go.ChangeAt Go.Joins
def limbsV (rs:List Raw):Nat:=(rs.map (·.zs.length)).sum
def limbsM (rss:List (List Raw)):Nat:=(rss.map limbsV).sum
def pad:Nat→Nat→List UInt8
 | 0,_=>[]
 | k+1,g=>pad k (g/10)++[UInt8.ofNat (48+g%10)]
theorem zcL (k g:Nat):(pad k g).length=k:=by
 induction k generalizing g with
 | zero=>rfl
 | succ k ih=>simp [pad,ih]
theorem zeF (k:Nat):∀ q g:Nat,1≤q→g<10 ^ k→Lib.decDigits (q*10 ^ k+g)=Lib.decDigits q++pad k g:=by
 induction k with
 | zero => intro q g _ hg; have : g = 0 := by simpa using hg
           subst this;simp [pad]
 | succ k ih=>
  intro q g hq hg
  have e1:q*10 ^ (k+1)=10 *(q*10 ^ k):=by rw [Nat.pow_succ,← Nat.mul_assoc,Nat.mul_comm]
  have e0:0<q*10 ^ k:=Nat.mul_pos (by omega) (Nat.pow_pos (by decide))
  have hg':g/10<10 ^ k:=by rw [Nat.pow_succ] at hg;omega
  rw [Lib.decDigits,dif_neg (by omega)]
  have e2:(q*10 ^ (k+1)+g)/10=q*10 ^ k+g/10:=by omega
  have e3:(q*10 ^ (k+1)+g)%10=g%10:=by omega
  rw [e2,e3,ih q (g/10) hq hg',List.append_assoc]
  rfl
theorem zdf (u:Nat):(Lib.decDigits u).length≤u+1∧1≤(Lib.decDigits u).length:=by
 induction u using Nat.strongRecOn with
 | _ u ih=>
  rw [Lib.decDigits]
  by_cases h:u<10
  ·rw [dif_pos h];simp
  ·rw [dif_neg h]
   have:=ih (u/10) (by omega)
   simp
   omega
theorem nine (g:Nat)(hg:g<1000000000):(Lib.decDigits (1000000000+g)).drop 1=pad 9 g:=by
 have:=zeF 9 1 g zL hg
 rw [show 1*10 ^ 9+g=1000000000+g by omega] at this
 rw [this,Lib.decDigits_one (by decide)]
 rfl
theorem ziI (q g:Nat)(hq:1≤q)(hg:g<1000000000):Lib.decDigits (q*1000000000+g)=Lib.decDigits q++pad 9 g:=zeF 9 q g hq hg
theorem zfc(h:∀ g∈gs,0≤g∧g<1000000000):0≤gv gs:=by
 induction gs with
 | nil=>simp [gv]
 | cons x xs ih=>have:=ih fun g hg=>h g (by simp [hg]);have:=h x (by simp);simp only [gv];omega
theorem ziN(h:∀ g∈gs,0≤g∧g<1000000000)(hl:gs.length≠0)(hn:gs.getD (gs.length-1) 0≠0):0<gv gs:=by
 induction gs with
 | nil=>simp at hl
 | cons x xs ih=>
  have hx:=h x (by simp)
  have hxs:∀ g∈xs,0≤g∧g<1000000000:=fun g hg=>h g (by simp [hg])
  have h0:=zfc hxs
  simp only [gv]
  by_cases e:xs.length=0
  ·have:xs=[]:=List.eq_nil_of_length_eq_zero e
   subst this
   simp at hn
   simp [gv];omega
  ·have:=ih hxs e (by
    have e2:(x::xs).length-1=(xs.length-1)+1:=by simp;omega
    rw [e2,List.getD_cons_succ] at hn;exact hn)
   omega
theorem zle(h:∀ g∈gs,0≤g∧g<1000000000)(hn:gs.getD (gs.length-1) 0≠0){p:Nat}(hp:p+1<gs.length):
  Lib.decDigits (gv (gs.drop p)).toNat=Lib.decDigits (gv (gs.drop (p+1))).toNat++pad 9 (gs.getD p 0).toNat:=by
 have hm:gs.getD p 0∈gs:=by rw [List.getD_eq_getElem?_getD,List.getElem?_eq_getElem (by omega)];exact List.getElem_mem _
 have hg:=h _ hm
 have hd:∀ g∈gs.drop (p+1),0≤g∧g<1000000000:=fun g hg=>h g (List.mem_of_mem_drop hg)
 have hl:(gs.drop (p+1)).length=gs.length-(p+1):=List.length_drop
 have h1:=ziN hd (by omega) (by rw [zdp,hl,show p+1+(gs.length-(p+1)-1)=gs.length-1 by omega];exact hn)
 have e:gs.drop p=gs.getD p 0::gs.drop (p+1):=zJ gs p (by omega)
 rw [e]
 simp only [gv]
 rw [← ziI _ _ (by omega) (by omega)]
 congr 1
 omega
def txt (z:Int):List UInt8:=Lib.itoa z
def TextPost (w:World)(z:Int)(e:Ending)(w':World):Prop:=e=.returned (.string ⟨(txt z).toArray⟩)∧Below w.heap.size w w'
end Go.Proofs.YtdedolkgcdlmeaaGreatDoor
