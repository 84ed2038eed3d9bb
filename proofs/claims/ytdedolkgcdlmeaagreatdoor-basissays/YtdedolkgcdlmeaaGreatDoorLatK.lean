import Derived.Test.YtdedolkgcdlmeaaGreatDoorLatQ
set_option maxRecDepth 100000
set_option maxHeartbeats 1600000
namespace Go.Proofs.YtdedolkgcdlmeaaGreatDoor
open Go.RowKit Limbs Digs
variable {u v m:Value}{W W0 w W' wr:World}{B n k base g nv km:Nat}{row:Option Nat}{r rk:List Int}{z:Int}
theorem zmE {P:Program}{ops:Array Oper}{rest:List Oper}{op:Oper}{a:Act}{Q:Exit→Act→World→Prop}(hgd:op.guard=none)(s x:Operand)(t:TypeId)
  (ho:op.op=.call { callee:=.builtin .append,args:=#[s,x],argTypes:=#[t,t] })
  (base:Nat) (e:TypeId) (i:TypeInfo) (bytes:Nat) (ht:P.underlying t=some (.slice e)) (hi:P.info? e=some i) (hz:i.zero=some (.slice none 0 0))
  (hsize:i.size=1) (hby:i.bytes=bytes) (v:Value) (n:Nat) (xs:List Value) (hs:a.eval s=v) (hown:w.ownsRow base e 1 v n xs) (hall:AllSl w v.ownBlock)
  (ad:Addr) (cc:Nat) (o:Option Addr) (l c:Nat) (hx:a.eval x=.slice (some ad) 1 cc) (hnews:∀ j u,[Value.slice o l c][j]?=some u→w.cell? (ad.add j)=some u)
  (h63:n+1≤maxLen) (hbytes:(n+1)*bytes≤140737488355328) (hbase:base≤w.heap.size)
  (h:∀ g cap w',w'.ownsRow base e 1 (.slice (some ⟨g,0,none⟩) (n+1) cap) (n+1) (xs++[.slice o l c])→w.grownBy w' v.ownBlock→AllSl w' (some g)→(v.ownBlock=some g∨g=w.heap.size)→wpList P ops Q rest (a.put op.dst (.slice (some ⟨g,0,none⟩) (n+1) cap)) w'):wpList P ops Q (op::rest) a w:=by
 refine wpList_plain hgd fun K hK=>?_;subst hby;obtain⟨g,cap,w',hr,h2,h3,h4,h5⟩:=run_append_lies (P:=P) w t op.type base e i (.slice none 0 0) 1 i.bytes ht hi hz hsize rfl rfl (by decide) v n xs hown ad 1 cc [.slice o l c] rfl hnews (fun u hu=>by rw [List.mem_singleton] at hu;rw [hu];rfl) (by decide) h63 hbytes hbase _ rfl;have hA:=zgV w t op.type base e i ht hi hz hsize v n xs hown hall ad o l c cc hnews h63 hbytes g cap w' hr;unfold Oper.wp execOp;simp only [ho,resolve,invoke,builtin,Sem.run_bind,Sem.run_pure,Result.andThen_ok,List.map_toArray,List.map_cons,List.map_nil,hs,hx,hr];exact hK _ _ (h g cap w' h2 h3 hA h4)
def Sep (u:Value)(row:Option Nat):Prop:=∀ a l c,u=.slice (some a) l c→some a.block≠row
theorem Fresh.sep(h:Fresh base u)(hg:g<base):Sep u (some g):=fun a l c e h'=>by
 have:=h a l c e;simp only [Option.some.injEq] at h';omega
theorem MatN.grownH{hs:List (List Int)}(h:MatN W u hs n)(hg:W.grownBy W' row)(hr:AllSl W row)(hsep:0<hs.length→Sep u row):MatN W' u hs n:=by
 obtain⟨ao,cap,rfl,h1,h2⟩:=h;refine⟨ao,cap,rfl,h1,fun h0=>?_⟩;obtain⟨b,off,rfl,hlt,hc⟩:=h2 h0;refine⟨b,off,rfl,zT hlt hg.size,fun i zs hi=>?_⟩;obtain⟨v,cv,hv⟩:=hc i zs hi;exact⟨v,hg.cell cv (show some b≠row from hsep h0 _ _ _ rfl),hv.grownS hg hr⟩
theorem MatN.setVar{hs:List (List Int)}{x:Int}{o:Option Addr}{l c:Nat}(y z:Value)(h:MatN W u hs nv)(hsep:0<hs.length→Sep u (some B))(c0:W.cell? ⟨B,0,none⟩=some (.int .i64 x))(c1:W.cell? ⟨B,1,none⟩=some (.slice o l c)):
  MatN ((W.setCell ⟨B,0,none⟩ y).setCell ⟨B,1,none⟩ z) u hs nv:=by
 have k1:(W.setCell ⟨B,0,none⟩ y).cell? ⟨B,1,none⟩=some (.slice o l c):=Eq.trans (World.cell?_setCell_other (h:=fun e=>by simp at e) ..) c1
 have stay:∀(b o:Nat) (v:Value),W.cell? ⟨b,o,none⟩=some v→¬(b=B∧o=0)→¬(b=B∧o=1)→((W.setCell ⟨B,0,none⟩ y).setCell ⟨B,1,none⟩ z).cell? ⟨b,o,none⟩=some v:=fun b o v hv h0 h1=>
  Eq.trans (World.cell?_setCell_other (h:=fun e=>h1 (by simp only [Addr.mk.injEq,and_true] at e;exact⟨e.1.symm,e.2.symm⟩)) ..) (Eq.trans (World.cell?_setCell_other (h:=fun e=>h0 (by simp only [Addr.mk.injEq,and_true] at e;exact⟨e.1.symm,e.2.symm⟩)) ..) hv)
 have hsz:((W.setCell ⟨B,0,none⟩ y).setCell ⟨B,1,none⟩ z).heap.size=W.heap.size:=by simp
 obtain⟨ao,cap,rfl,h1,h2⟩:=h;refine⟨ao,cap,rfl,h1,fun hh=>?_⟩;obtain⟨b,off,rfl,hlt,hc⟩:=h2 hh;have hbB:b≠B:=fun e=>hsep hh _ _ _ rfl (by rw [e]);refine⟨b,off,rfl,by rw [hsz];exact hlt,fun i zs hi=>?_⟩;obtain⟨v,cv,hv⟩:=hc i zs hi;refine⟨_,stay _ _ _ cv (fun h=>hbB h.1) (fun h=>hbB h.1),?_⟩;obtain⟨vo,vcap,ev,g1,g2⟩:=hv;refine⟨vo,vcap,ev,g1,fun h0=>?_⟩;obtain⟨vb,voff,e,vlt,hat⟩:=g2 h0;refine⟨vb,voff,e,by rw [hsz];exact vlt,fun j hj=>?_⟩;obtain⟨neg,o',l',c',d0,d1,hn⟩:=hat j hj;refine⟨neg,o',l',c',stay _ _ _ d0 (fun⟨e1,e2⟩=>?_) (fun⟨e1,e2⟩=>?_),stay _ _ _ d1 (fun⟨e1,e2⟩=>?_) (fun⟨e1,e2⟩=>?_),(hn.setCell c0 (by simp)).setCell k1 (by simp)⟩
 ·rw [e1,e2,c0] at d0;cases d0
 ·rw [e1,e2,c1] at d0;cases d0
 ·rw [e1,e2,c0] at d1;cases d1
 ·have e3:voff+j*2=0:=by omega
  rw [e1,e3,c0] at d0;cases d0
theorem GrowM.setTyped{qs:List (Value × List Int)}(h:GrowM W base v qs n){c:Array Value}{t:TypeId}{fz:Nat × Nat}(hB:W.heap[B]?=some (.cells c t fz))(ht:t≠3)(ht':t≠40)(ht2:t≠106)(k:Nat)(u:Value):GrowM (W.setCell ⟨B,k,none⟩ u) base v qs n:=by
 refine⟨⟨h.1.1,?_⟩,fun q hq=>(h.2 q hq).setTyped hB ht ht' k u⟩;rcases h.1.2 with h' |⟨g,cap,cur,e,hb,hh,rest⟩
 ·exact .inl h'
 ·have hne:g≠B:=fun e=>by
   rw [e,hB] at hh;simp only [Option.some.injEq,Obj.cells.injEq] at hh;exact ht2 hh.2.1
  exact .inr ⟨g,cap,cur,e,hb,(Below.heap_setCell W ⟨B,k,none⟩ u g hne).trans hh,rest⟩
theorem AllSl.setCell(h:AllSl W row)(hne:row≠some B)(k:Nat)(u:Value):AllSl (W.setCell ⟨B,k,none⟩ u) row:=fun g hg=>by
 obtain⟨cur,t,fz,hh,hs⟩:=h g hg;exact⟨cur,t,fz,(Below.heap_setCell W ⟨B,k,none⟩ u g (fun e=>hne (by rw [hg,e]))).trans hh,hs⟩
def BVar (W:World)(B:Nat)(n:Int)(u:Value):Prop:=Box W B (.int .i64 n) u∧∃ cs,W.heap[B]?=some (.cells cs 55 (0,0))
theorem BVar.later{C:Nat}{n:Int}(h:BVar W B n u)(hb:Below C W W')(hB:B<C):BVar W' B n u:=by
 obtain⟨h1,cs,h2⟩:=h;exact⟨h1.later hb hB,cs,(hb.block _ hB).trans h2⟩
theorem BVar.lt{n:Int}(h:BVar W B n u):B<W.heap.size:=by
 obtain⟨-,cs,h2⟩:=h;exact zt h2
theorem BVar.apart{n:Int}(h:BVar W B n u)(hr:AllSl W row):row≠some B:=fun e=>by
 subst e;obtain⟨o,l,c,e⟩:=hr.cell h.1.1;cases e
theorem BVar.grown{n:Int}(h:BVar W B n u)(hg:W.grownBy W' row)(hr:AllSl W row):BVar W' B n u:=by
 have hne:=h.apart hr;have hlt:=h.lt;obtain⟨⟨h1,h2,h3,h4⟩,cs,h5⟩:=h;have hb:=hg.block B hlt (fun e=>hne e.symm);exact⟨⟨(World.cell?_of_block (a:=⟨B,0,none⟩) hb).trans h1,(World.cell?_of_block (a:=⟨B,1,none⟩) hb).trans h2,(World.frozen?_of_block (a:=⟨B,0,none⟩) hb).trans h3,(World.frozen?_of_block (a:=⟨B,1,none⟩) hb).trans h4⟩,cs,hb.trans h5⟩
theorem BVar.write{n:Int}(h:BVar W B n u)(n':Int)(u':Value):BVar ((W.setCell ⟨B,0,none⟩ (.int .i64 n')).setCell ⟨B,1,none⟩ u') B n' u':=by
 obtain⟨h1,cs,h2⟩:=h;exact⟨h1.write _ _,_,heap_setCell_same _ B 1 _ _ _ (heap_setCell_same W B 0 _ _ _ h2)⟩
theorem GrowM.setVar{qs:List (Value × List Int)}(h:GrowM W base v qs n){m:Int}(hB:BVar W B m u)(y z:Value):GrowM ((W.setCell ⟨B,0,none⟩ y).setCell ⟨B,1,none⟩ z) base v qs n:=by
 obtain⟨-,cs,h2⟩:=hB;exact(h.setTyped h2 (by decide) (by decide) (by decide) 0 y).setTyped (heap_setCell_same W B 0 _ _ y h2) (by decide) (by decide) (by decide) 1 z
theorem MatR.setVarAt{zss:List (List Int)}(h:MatR W v zss n){m:Int}(hB:BVar W B m u)(k:Nat)(y:Value):MatR (W.setCell ⟨B,k,none⟩ y) v zss n:=by
 obtain⟨⟨c0,-,-,-⟩,cs,h2⟩:=hB;obtain⟨ao,cap,hv,h3,h4⟩:=h;refine⟨ao,cap,hv,h3,fun h0=>?_⟩;obtain⟨b,e,hlt,hc⟩:=h4 h0;have hne:b≠B:=fun e=>by
  obtain⟨u0,g1,g2⟩:=hc 0 zss[0] (List.getElem?_eq_getElem h0);rw [e,c0] at g1;obtain⟨_,_,g3,-⟩:=g2;rw [g3] at g1;cases g1
 refine⟨b,e,by simpa using hlt,fun i zs hi=>?_⟩;obtain⟨u',g1,g2⟩:=hc i zs hi;exact⟨u',(World.cell?_of_block (a:=⟨b,i,none⟩) (Below.heap_setCell W ⟨B,k,none⟩ y b hne)).trans g1,g2.setTyped h2 (by decide) (by decide) k y⟩
theorem MatR.setVar{zss:List (List Int)}(h:MatR W v zss n){m:Int}(hB:BVar W B m u)(x:Int)(z:Value):MatR ((W.setCell ⟨B,0,none⟩ (.int .i64 x)).setCell ⟨B,1,none⟩ z) v zss n:=by
 have hB':BVar (W.setCell ⟨B,0,none⟩ (.int .i64 x)) B x u:=by
  obtain⟨⟨c0,c1,c2,c3⟩,cs,h2⟩:=hB;have hw:=(show Box W B (.int .i64 m) u from⟨c0,c1,c2,c3⟩).write (.int .i64 x) u;have hh:=heap_setCell_same W B 0 _ _ (.int .i64 x) h2;refine⟨⟨?_,?_,?_,?_⟩,_,hh⟩
  ·have:=hw.1;rw [World.cell?_setCell_other (h:=fun e=>by simp at e)] at this;exact this
  ·exact Eq.trans (World.cell?_setCell_other (h:=fun e=>by simp at e) ..) c1
  ·simpa using c2
  ·simpa using c3
 exact(h.setVarAt hB 0 _).setVarAt hB' 1 z
def RowsS (w:World)(v:Value)(rs:List (List Int)):Prop:=
 ∃ ao cap,v=.slice ao rs.length cap∧rs.length≤cap∧(0<rs.length→∃ b off,ao=some ⟨b,off,none⟩∧b<w.heap.size∧∀ i r,rs[i]?=some r→∃ u,w.cell? ⟨b,off+i,none⟩=some u∧RowS w u r)
theorem RowsS.at{rs:List (List Int)}(h:RowsS w v rs)(i:Nat)(hi:i<rs.length):∃ b off cap,v=.slice (some ⟨b,off,none⟩) rs.length cap∧b<w.heap.size∧∃ u,w.cell? ⟨b,off+i,none⟩=some u∧RowS w u rs[i]:=by
 obtain⟨ao,cap,hv,h1,h2⟩:=h;obtain⟨b,off,e,hlt,hc⟩:=h2 (by omega);subst e;exact⟨b,off,cap,hv,hlt,hc i rs[i] (by simp [hi])⟩
def small (z:Int):Bool:=decide (-1000000≤z∧z≤1000000)
def goodRow (n:Int)(r:List Int):Bool:=decide ((r.length:Int)=n) && r.all small
def goodG (n:Int)(rs:List (List Int)):Bool:=decide (1≤n∧n≤4∧rs.length≤8) && rs.all (goodRow n)
theorem zb9{n:Int}:goodRow n r=true↔(r.length:Int)=n∧∀ z∈r,-1000000≤z∧z≤1000000:=by
 simp [goodRow,small]
theorem zdM{n:Int}{rs:List (List Int)}(hr:r∈rs)(h:goodRow n r=false):goodG n rs=false:=by
 unfold goodG;rw [Bool.and_eq_false_iff];right;rw [List.all_eq_false];exact⟨r,hr,by rw [h];decide⟩
theorem zfz{n:Int}(hz:z∈r)(h:z < -1000000∨1000000<z):goodRow n r=false:=by
 cases e:goodRow n r with
 | false=>rfl
 | true=>have:=(zb9.1 e).2 z hz;omega
def MadePostR (w:World)(n:Int)(rs:List (List Int))(e:Ending)(w':World):Prop:=
 Below w.heap.size w w'∧((goodG n rs=false∧e=(.returned (.tuple #[.agg #[.int .i64 0,.slice none 0 0],.slice none 0 0,.bool false]))) ∨
  (goodG n rs=true∧∃ u m hs,e=.returned (.tuple #[.agg #[.int .i64 n,u],m,.bool true])∧LatN w' (.agg #[.int .i64 n,u]) n.toNat hs 6∧Alikes n.toNat (InL hs) (InL rs)∧MatR w' m hs 18))
structure MadeI (W0 wr:World)(n:Nat)(rs:List (List Int))(km k:Nat)(m:Value)(qs:List (Value × List Int))(u:Value)(hs:List (List Int)):Prop where
 grow:GrowM wr (W0.heap.size+1) m qs 5
 all:AllSl wr m.ownBlock
 rows:qs.map (·.2)=rs.take km
 var:BVar wr W0.heap.size n u
 mat:MatN wr u hs 6
 form:∃ p,FormL n hs p
 alike:Alikes n (InL hs) (InL (rs.take k))
 sep:0<hs.length→Sep u m.ownBlock
 below:Below W0.heap.size W0 wr
 good:∀ r∈rs.take km,goodRow n r=true
theorem MadeI.later{w':World}{rs:List (List Int)}{qs:List (Value × List Int)}{hs:List (List Int)}(h:MadeI W0 wr n rs km k m qs u hs)(hb:Below wr.heap.size wr w'):MadeI W0 w' n rs km k m qs u hs:=
 ⟨h.grow.later hb,h.all.later hb,h.rows,h.var.later hb h.var.lt,h.mat.below hb zL,h.form,h.alike,h.sep,h.below.trans (hb.mono h.below.size),h.good⟩
theorem MadeI.len{rs:List (List Int)}{qs:List (Value × List Int)}{hs:List (List Int)}(h:MadeI W0 wr n rs km k m qs u hs)(hk:km≤rs.length):qs.length=km:=by
 have:=congrArg List.length h.rows;rw [zM,List.length_take] at this;omega
theorem MadeI.start(n:Nat)(rs:List (List Int)):MadeI W0 (W0.alloc (.cells #[.int .i64 (n:Int),.slice none 0 0] 55)) n rs 0 0 (.slice none 0 0) [] (.slice none 0 0) [] where
 grow:=⟨World.ownsRow_nil _ _ _ _,fun _ h=>by cases h⟩
 all:=zeR _
 rows:=by simp
 var:=⟨zg W0 _ _ _ _ rfl,_,heap_alloc_new W0 _⟩
 mat:=zf6 _ _
 form:=⟨_,zft n⟩
 alike:=fun v=>by rw [List.take_zero]
 sep:=fun _ a l c e=>by cases e
 below:=(zB _ _).alloc zL _
 good:=fun r h=>by rw [List.take_zero] at h;cases h
theorem zhO{l l':List (List Int)}{us:List Int}(h:Alikes n (InL l) (InL l')):Alikes n (InL (l++[us])) (InL (l'++[us])):=by
 refine .of (fun v hv hvl=>?_) (fun v hv hvl=>?_)
 ·rcases List.mem_append.1 hv with hv | hv
  ·exact((h v).1 (.base hv hvl)).trans (fun x hx hxl=>.base (List.mem_append_left _ hx) hxl)
  ·exact .base (List.mem_append_right _ hv) hvl
 ·rcases List.mem_append.1 hv with hv | hv
  ·exact((h v).2 (.base hv hvl)).trans (fun x hx hxl=>.base (List.mem_append_left _ hx) hxl)
  ·exact .base (List.mem_append_right _ hv) hvl
theorem zeo {rs:List (List Int)}(h:rs[k]?=some rk):rs.take (k+1)=rs.take k++[rk]:=by
 rw [List.take_add_one,h];rfl
theorem MadeI.grew{w5:World}{rs:List (List Int)}{qs:List (Value × List Int)}{hs:List (List Int)}{ob:Obj}{x:Value}{cap:Nat}(h:MadeI W0 wr n rs k k m qs u hs)(hk:rs[k]?=some rk)
  (hz:RowR wr x rk 5) (hg:goodRow n rk=true)
  (hown:w5.ownsRow (W0.heap.size+1) 106 1 (.slice (some ⟨g,0,none⟩) (qs.length+1) cap) (qs.length+1) (qs.map (·.1)++[x]))
  (hgr:(wr.alloc ob).grownBy w5 m.ownBlock) (hall:AllSl w5 (some g)) (hat:m.ownBlock=some g∨g=wr.heap.size+1):
  MadeI W0 w5 n rs (k+1) k (.slice (some ⟨g,0,none⟩) (qs.length+1) cap) (qs++[(x,rk)]) u hs where
 grow:=zfC h.grow hz hown hgr
 all:=hall
 rows:=by rw [List.map_append,h.rows,zeo hk];rfl
 var:=(h.var.later ((zB _ _).alloc zL ob) h.var.lt).grown hgr (h.all.later ((zB _ _).alloc zL ob))
 mat:=(h.mat.below ((zB _ _).alloc zL ob) zL).grownH hgr (h.all.later ((zB _ _).alloc zL ob)) h.sep
 form:=h.form
 alike:=h.alike
 sep:=fun h0=>by
  rcases hat with e | e
  ·have:=h.sep h0;rw [e] at this;exact this
  ·intro a l c ea e';obtain⟨ao,cap',e1,-,h2⟩:=h.mat;obtain⟨b,off,e2,hlt,-⟩:=h2 h0;rw [e1,e2] at ea;simp only [zV,Option.some.injEq] at ea;obtain⟨rfl,-⟩:=ea;simp only [Value.ownBlock,Option.some.injEq] at e';rw [e] at e';omega
 below:=h.below.trans ((zaU h.grow.1 h.var.lt hgr).mono (by omega))
 good:=fun r hr=>by
  rw [zeo hk] at hr;rcases List.mem_append.1 hr with hr | hr
  ·exact h.good r hr
  ·rw [List.mem_singleton] at hr;rw [hr];exact hg
theorem zlN(h:-1000000≤z∧z≤1000000):ab z<bp 1:=by
 have e:bp 1=4294967296:=by decide
 rw [e];unfold ab;split <;> omega
theorem MadeI.put{w3:World}{rs:List (List Int)}{qs:List (Value × List Int)}{hs:List (List Int)}{u':Value}{hs':List (List Int)}(h:MadeI W0 w3 n rs (k+1) k m qs u hs)(hk:rs[k]?=some rk)(hn:n≤4)
  (hu:MatN w3 u' hs' nv) (hF:∃ p,FormL n hs' p) (hA:Alikes n (InL hs') (InL (hs++[rk]))) (hfr:Fresh base u') (hb1:W0.heap.size<base) (hb2:∀ g,m.ownBlock=some g→g<base) (hsl:∃ o l c,u=.slice o l c):
  MadeI W0 ((w3.setCell ⟨W0.heap.size,0,none⟩ (.int .i64 (n:Int))).setCell ⟨W0.heap.size,1,none⟩ u') n rs (k+1) (k+1) m qs u' hs':=by
 have hA':Alikes n (InL hs') (InL (rs.take (k+1))):=fun v=>(hA v).trans (by
  rw [zeo hk];exact zhO h.alike v)
 obtain⟨p,hF⟩:=hF;have hl:∀ us∈rs.take (k+1),us.length=n:=fun us hus=>by have:=(zb9.1 (h.good us hus)).1;omega
 have ht:MatN w3 u' hs' 6:=by
  refine hu.tight fun zs hz j hj=>?_;have h1:=zfs (nv:=1) hF hA' hl (fun us hus j hj=>zlN ((zb9.1 (h.good us hus)).2 _ (by
   have hj':j<us.length:=by rw [hl us hus];exact hj
   rw [zG,List.getElem?_eq_getElem hj',Option.getD_some];exact List.getElem_mem hj'))) (by omega) zs hz j hj
  exact Int.lt_of_lt_of_le h1 (zaj (by omega))
 obtain⟨o,l,c,rfl⟩:=hsl;exact
  {grow:=h.grow.setVar h.var _ _
   all:=(h.all.setCell (h.var.apart h.all) _ _).setCell (h.var.apart h.all) _ _
   rows:=h.rows
   var:=h.var.write _ _
   mat:=ht.setVar _ _ (fun _=>hfr.sep hb1) h.var.1.1 h.var.1.2.1
   form:=⟨p,hF⟩
   alike:=hA'
   sep:=fun _ a l c e e'=>by
    have h1:=hfr a l c e;have h2:=hb2 a.block e'.symm;omega
   below:=(h.below.setCell (by exact Nat.le_refl _) _).setCell (by exact Nat.le_refl _) _
   good:=h.good }
theorem zhv {P:Program}{ops:Array Oper}{Q:Exit→Act→World→Prop}{md:Region.Mode}{S:World→Prop}(i j:Nat){oi oj:Oper}{fuel:Nat}{listed:Array Bool}{a:Act}(hr:Region.ready md ops listed=[i,j])(hoi:ops[i]?=some oi)(hoj:ops[j]?=some oj)
  (h1:∀ K':Act→World→Prop,Shut (∀ a w,(i<k→S w)→wpUpto P md ops Q S k fuel (listed.setIfInBounds i true) a w→K' a w)→if Region.wanted oi (yielded ops a.tmps)=true then Oper.wp P oi a w K' Q else K' (a.put oi.dst undef) w)
  (h2:∀ K':Act→World→Prop,Shut (∀ a w,(j<k→S w)→wpUpto P md ops Q S k fuel (listed.setIfInBounds j true) a w→K' a w)→if Region.wanted oj (yielded ops a.tmps)=true then Oper.wp P oj a w K' Q else K' (a.put oj.dst undef) w):
  wpUpto P md ops Q S k (fuel+1) listed a w:=by
 refine⟨fun h0=>absurd (hr.symm.trans h0) (by simp),fun x hx=>?_⟩;rw [hr] at hx;have hx':x=i∨x=j:=by simpa using hx
 rcases hx' with rfl | rfl
 ·exact wpOp_step hoi (fun K' hK=>h1 K' (fun a w hS hW=>hK a w ⟨hS,hW⟩))
 ·exact wpOp_step hoj (fun K' hK=>h2 K' (fun a w hS hW=>hK a w ⟨hS,hW⟩))
theorem zko (w:World)(nI:Int)(go:Option Addr)(gcap:Nat)(rs:List (List Int))(h:¬(1≤nI∧nI≤4∧rs.length≤8)):
  Calls Tryz.prog 22 #[.agg #[.int .i64 nI,.slice go rs.length gcap]] w fun e w'=>MadePostR w nI rs e w':=by
 have HE:Hid (goodG nI rs=false):=by show _=_;unfold goodG;rw [decide_eq_false h,Bool.false_and]
 have HX:=hide (zJ w (.int .i64 nI) (.slice go rs.length gcap) (.int .i64 0) (.slice none 0 0) 53 55);obtain⟨⟨c0,c1,z0,z1⟩,⟨d0,d1,y0,y1⟩,-,-⟩:=HX.out;have HB:=hide HX.out.2.2.1;by_cases h1:nI<1
 ·clear h;have g1:decide (nI<1)=true:=decide_eq_true h1;clear HX;go_enter Tryz.func22,Tryz.ntmps22;go_wp2;exact bodyPost_ret (v:=.tuple #[.agg #[.int .i64 0,.slice none 0 0],.slice none 0 0,.bool false]) (by simp [results,Tryz.results22,go_sem,d0,d1]) rfl ⟨HB.out,.inl ⟨HE.out,rfl⟩⟩
 ·by_cases h2:4<nI
  ·clear h;have g1:decide (nI<1)=false:=decide_eq_false h1;have g2:decide (4<nI)=true:=decide_eq_true h2;clear HX;go_enter Tryz.func22,Tryz.ntmps22;go_wp2;exact bodyPost_ret (v:=.tuple #[.agg #[.int .i64 0,.slice none 0 0],.slice none 0 0,.bool false]) (by simp [results,Tryz.results22,go_sem,d0,d1]) rfl ⟨HB.out,.inl ⟨HE.out,rfl⟩⟩
  ·have h3:8<(rs.length:Int):=by omega
   clear h;have g1:decide (nI<1)=false:=decide_eq_false h1;have g2:decide (4<nI)=false:=decide_eq_false h2;have g3:decide (8<(rs.length:Int))=true:=decide_eq_true h3;clear HX;go_enter Tryz.func22,Tryz.ntmps22;go_wp2;exact bodyPost_ret (v:=.tuple #[.agg #[.int .i64 0,.slice none 0 0],.slice none 0 0,.bool false]) (by simp [results,Tryz.results22,go_sem,d0,d1]) rfl ⟨HB.out,.inl ⟨HE.out,rfl⟩⟩
end Go.Proofs.YtdedolkgcdlmeaaGreatDoor
