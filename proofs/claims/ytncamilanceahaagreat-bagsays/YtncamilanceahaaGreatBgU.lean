import Derived.Test.YtncamilanceahaaGreatBiA
set_option maxRecDepth 100000
set_option maxHeartbeats 1600000
set_option linter.unusedSimpArgs false
namespace Go.Proofs.YtncamilanceahaaGreat
open Go.RowKit
variable{W W' w:World}{B C base:Nat}
def NcAway (B:Nat)(W:World)(q:Nc):Prop:=
 ∃(ps:List Gc) (b:Nat),q.o=some ⟨b,0,none⟩∧(0<q.l→b≠B)∧ps.map (·.2)=q.x.gens∧ps.length=q.l∧SeqV W (.slice q.o q.l q.c) q.l (ps.map (·.1))∧∀ g∈ps,GcIn W g∧∀ a l c,0<g.2.length→g.1=.slice (some a) l c→a.block≠B
theorem NcAway.ins{q:Nc}(h:NcAway B W q):NcIn W q:=by
 obtain⟨ps,b,h1,h2,h3,h4,h5,h6⟩:=h;have:=zbj (v:=.slice q.o q.l q.c) (by rw [h4];exact h5) (fun g hg=>(h6 g hg).1)
 rwa [h3] at this
theorem NcAway.later{q:Nc}(h:NcAway B W q)(hb:Below W.heap.size W W'):NcAway B W' q:=by
 obtain⟨ps,b,h1,h2,h3,h4,h5,h6⟩:=h;exact⟨ps,b,h1,h2,h3,h4,h5.below hb zL,fun g hg=>⟨(h6 g hg).1.below hb zL,(h6 g hg).2⟩⟩
theorem RowS.setAway{v:Value}{ks:List Int}(h:RowS W v ks){p:Addr}(hp:∀ a l c,0<ks.length→v=.slice (some a) l c→a.block≠p.block)(x:Value):RowS (W.setCell p x) v ks:=by
 obtain⟨ao,cap,e,hn,h6,hh⟩:=h;refine⟨ao,cap,e,hn,h6,fun h0=>?_⟩;obtain⟨b,off,e',hlt,hcell⟩:=hh h0;subst e';refine⟨b,off,rfl,by simpa using hlt,fun i hi=>(World.cell?_setCell_other _ _ _ _ fun e2=>?_).trans (hcell i hi)⟩;exact hp _ _ _ h0 e (by rw [e2])
theorem NcAway.set{q:Nc}(h:NcAway B W q){p:Addr}(hp:p.block=B)(x:Value):NcAway B (W.setCell p x) q:=by
 obtain⟨ps,b,h1,h2,h3,h4,h5,h6⟩:=h;refine⟨ps,b,h1,h2,h3,h4,?_,fun g hg=>⟨RowS.setAway (h6 g hg).1 (fun a l c h0 e=>by rw [hp];exact(h6 g hg).2 a l c h0 e) x,(h6 g hg).2⟩⟩;obtain⟨ao,cap,e,hn,hh⟩:=h5;refine⟨ao,cap,e,hn,fun h0=>?_⟩;obtain⟨b',off,e',hlt,hc⟩:=hh h0;refine⟨b',off,e',by simpa using hlt,fun j u hu=>(World.cell?_setCell_other _ _ _ _ fun e2=>?_).trans (hc j u hu)⟩;simp only [zV] at e;rw [e',h1] at e;simp only [Option.some.injEq,Addr.mk.injEq,and_true] at e;have h7:p.block=b':=by rw [e2]
 exact h2 h0 (by rw [e.1.1,← h7,hp])
theorem NcFresh.away_lt{q:Nc}(h:NcFresh base W q)(hB:B<base):NcAway B W q:=by
 obtain⟨ps,b,h1,h2,h3,h4,h5,h6⟩:=h;exact⟨ps,b,h1,fun _=>by omega,h3,h4,h5,fun g hg=>⟨(h6 g hg).1,fun a l c _ e=>by have:=(h6 g hg).2 a l c e;omega⟩⟩
theorem NcFresh.away_new{q:Nc}(h:NcFresh base W q)(hB:W.heap.size≤B):NcAway B W q:=by
 obtain⟨ps,b,h1,h2,h3,h4,h5,h6⟩:=h;refine⟨ps,b,h1,fun h0=>?_,h3,h4,h5,fun g hg=>⟨(h6 g hg).1,fun a l c h0 e=>?_⟩⟩
 ·obtain⟨ao,cap,e,hn,hh⟩:=h5;obtain⟨b',off,e',hlt,hc⟩:=hh h0;simp only [zV] at e;rw [e',h1] at e;simp only [Option.some.injEq,Addr.mk.injEq,and_true] at e;have:=e.1.1;omega
 ·obtain⟨ao,cap,e2,hn,-,hh⟩:=(h6 g hg).1;obtain⟨b',off,e',hlt,hc⟩:=hh h0;rw [e,e'] at e2;simp only [zV,Option.some.injEq] at e2;rw [e2.1];show b'≠B;omega
theorem BoxT.fill{x0 x1 x2:Value}(h:BoxT W B x0 x1 x2)(u0 u1 u2:Value):BoxT (((W.setCell ⟨B,0,none⟩ u0).setCell ⟨B,1,none⟩ u1).setCell ⟨B,2,none⟩ u2) B u0 u1 u2:=by
 obtain⟨⟨h0,h1,h2,h3⟩,h4⟩:=h;have n01:(⟨B,0,none⟩:Addr)≠⟨B,1,none⟩:=fun e=>by simp at e
 have n02:(⟨B,0,none⟩:Addr)≠⟨B,2,none⟩:=fun e=>by simp at e
 have n12:(⟨B,1,none⟩:Addr)≠⟨B,2,none⟩:=fun e=>by simp at e
 have a1:(W.setCell ⟨B,0,none⟩ u0).cell? ⟨B,1,none⟩=some x1:=(World.cell?_setCell_other _ _ _ _ n01).trans h1;have a2:((W.setCell ⟨B,0,none⟩ u0).setCell ⟨B,1,none⟩ u1).cell? ⟨B,2,none⟩=some x2:=(World.cell?_setCell_other _ _ _ _ n12).trans ((World.cell?_setCell_other _ _ _ _ n02).trans h2);refine⟨⟨?_,?_,?_,by simpa using h3⟩,fun k=>by simpa using h4 k⟩
 ·exact(World.cell?_setCell_other _ _ _ _ n02.symm).trans ((World.cell?_setCell_other _ _ _ _ n01.symm).trans (World.cell?_setCell_same _ _ _ h0))
 ·exact(World.cell?_setCell_other _ _ _ _ n12.symm).trans (World.cell?_setCell_same _ _ _ a1)
 ·exact World.cell?_setCell_same _ _ _ a2
def fiD:Nat→List Nat
 | 3=>[1,2]
 | 4=>[3]
 | 5=>[4]
 | 6=>[0,5]
 | 7=>[6]
 | 8=>[7]
 | 9=>[7]
 | 11=>[8,10]
 | 12=>[9]
 | _=>[]
def fiS (X:Nmd)(C:Nat)(b:Bool)(i:Nat)(c:Nat→Value)(W:World):Prop:=
 (i=6→∃ q:Nc,c 6=.tuple #[q.val,.nilIface]∧q.x=X∧(b=false→∃ base,NcFresh base W q)) ∧
 (i=7→c 7=c 6) ∧
 (i=8→∃ u e,c 7=.tuple #[u,e]∧c 8=u) ∧
 (i=9→∃ u e,c 7=.tuple #[u,e]∧c 9=e) ∧
 (i=10→∃ B,c 10=.pointer (some ⟨B,0,none⟩)∧C≤B∧B<W.heap.size∧(b=false→BoxT W B (.string ⟨#[]⟩) (.int .i64 0) (.slice none 0 0))) ∧
 (i=11→∃ B u0 u1 u2,c 10=.pointer (some ⟨B,0,none⟩)∧c 8=.agg #[u0,u1,u2]∧C≤B∧BoxT W B u0 u1 u2) ∧
 (i=12→c 12=c 9)
section
variable {X:Nmd}{C:Nat}{b:Bool}{c:Nat→Value}{W:World}
theorem zba{i:Nat}(hi:i<6):fiS X C b i c W:=⟨fun e=>absurd e (by omega),fun e=>absurd e (by omega),fun e=>absurd e (by omega),fun e=>absurd e (by omega),fun e=>absurd e (by omega),fun e=>absurd e (by omega),fun e=>absurd e (by omega)⟩
theorem zho (h:∃ q:Nc,c 6=.tuple #[q.val,.nilIface]∧q.x=X∧(b=false→∃ base,NcFresh base W q)):fiS X C b 6 c W:=⟨fun _=>h,fun e=>absurd e (by omega),fun e=>absurd e (by omega),fun e=>absurd e (by omega),fun e=>absurd e (by omega),fun e=>absurd e (by omega),fun e=>absurd e (by omega)⟩
theorem zhp (h:c 7=c 6):fiS X C b 7 c W:=⟨fun e=>absurd e (by omega),fun _=>h,fun e=>absurd e (by omega),fun e=>absurd e (by omega),fun e=>absurd e (by omega),fun e=>absurd e (by omega),fun e=>absurd e (by omega)⟩
theorem zhq (h:∃ u e,c 7=.tuple #[u,e]∧c 8=u):fiS X C b 8 c W:=⟨fun e=>absurd e (by omega),fun e=>absurd e (by omega),fun _=>h,fun e=>absurd e (by omega),fun e=>absurd e (by omega),fun e=>absurd e (by omega),fun e=>absurd e (by omega)⟩
theorem zhr (h:∃ u e,c 7=.tuple #[u,e]∧c 9=e):fiS X C b 9 c W:=⟨fun e=>absurd e (by omega),fun e=>absurd e (by omega),fun e=>absurd e (by omega),fun _=>h,fun e=>absurd e (by omega),fun e=>absurd e (by omega),fun e=>absurd e (by omega)⟩
theorem zhs (h:∃ B,c 10=.pointer (some ⟨B,0,none⟩)∧C≤B∧B<W.heap.size∧(b=false→BoxT W B (.string ⟨#[]⟩) (.int .i64 0) (.slice none 0 0))):fiS X C b 10 c W:=⟨fun e=>absurd e (by omega),fun e=>absurd e (by omega),fun e=>absurd e (by omega),fun e=>absurd e (by omega),fun _=>h,fun e=>absurd e (by omega),fun e=>absurd e (by omega)⟩
theorem zht (h:∃ B u0 u1 u2,c 10=.pointer (some ⟨B,0,none⟩)∧c 8=.agg #[u0,u1,u2]∧C≤B∧BoxT W B u0 u1 u2):fiS X C b 11 c W:=⟨fun e=>absurd e (by omega),fun e=>absurd e (by omega),fun e=>absurd e (by omega),fun e=>absurd e (by omega),fun e=>absurd e (by omega),fun _=>h,fun e=>absurd e (by omega)⟩
theorem zhu (h:c 12=c 9):fiS X C b 12 c W:=⟨fun e=>absurd e (by omega),fun e=>absurd e (by omega),fun e=>absurd e (by omega),fun e=>absurd e (by omega),fun e=>absurd e (by omega),fun e=>absurd e (by omega),fun _=>h⟩
end
theorem fiStays (X:Nmd)(C:Nat)(b:Bool):Stays fiD (fiS X C b) where
 later:=fun i c W W' hb h=>by
  obtain⟨h0,h1,h2,h3,h4,h5,h6⟩:=h;refine⟨fun e=>?_,h1,h2,h3,fun e=>?_,fun e=>?_,h6⟩
  ·obtain⟨q,a1,a2,a3⟩:=h0 e;exact⟨q,a1,a2,fun hf=>let ⟨base,h⟩:=a3 hf;⟨base,h.later hb⟩⟩
  ·obtain⟨B,a1,a2,a3,a4⟩:=h4 e;exact⟨B,a1,a2,zT a3 hb.size,fun hf=>(a4 hf).later hb⟩
  ·obtain⟨B,u0,u1,u2,a1,a2,a3,a4⟩:=h5 e;exact⟨B,u0,u1,u2,a1,a2,a3,a4.later hb⟩
 other:=fun i j c v W hne hm h=>by
  obtain⟨h0,h1,h2,h3,h4,h5,h6⟩:=h;refine⟨fun e=>?_,fun e=>?_,fun e=>?_,fun e=>?_,fun e=>?_,fun e=>?_,fun e=>?_⟩
  ·subst e;rw [zb _ _ hne];exact h0 rfl
  ·subst e;have h:¬ i=6:=by simpa [fiD] using hm
   rw [zb _ _ hne,zb _ _ (fun e=>h e.symm)];exact h1 rfl
  ·subst e;have h:¬ i=7:=by simpa [fiD] using hm
   rw [zb _ _ hne,zb _ _ (fun e=>h e.symm)];exact h2 rfl
  ·subst e;have h:¬ i=7:=by simpa [fiD] using hm
   rw [zb _ _ hne,zb _ _ (fun e=>h e.symm)];exact h3 rfl
  ·subst e;rw [zb _ _ hne];exact h4 rfl
  ·subst e;have h:¬ i=8∧¬ i=10:=by simpa [fiD] using hm
   rw [zb _ _ (fun e=>h.2 e.symm),zb _ _ (fun e=>h.1 e.symm)];exact h5 rfl
  ·subst e;have h:¬ i=9:=by simpa [fiD] using hm
   rw [zb _ _ hne,zb _ _ (fun e=>h e.symm)];exact h6 rfl
def fiJ (X:Nmd)(L:Array Bool)(c:Nat→Value)(W:World):Prop:=
 L.getD 6 false=true→L.getD 10 false=true→∃(q:Nc) (B:Nat),c 6=.tuple #[q.val,.nilIface]∧c 10=.pointer (some ⟨B,0,none⟩)∧q.x=X∧NcAway B W q
theorem fiJ.other {X:Nmd}{L:Array Bool}{c:Nat→Value}(h:fiJ X L c W)(hb:Below W.heap.size W W')(i:Nat)(h6:i≠6)(h10:i≠10)(v:Value):fiJ X (L.setIfInBounds i true) (upd c i v) W':=fun l6 l10=>by
 obtain⟨q,B,a1,a2,a3,a4⟩:=h (za h6 l6) (za h10 l10);exact⟨q,B,by rw [zb _ _ (fun e=>h6 e.symm)];exact a1,by rw [zb _ _ (fun e=>h10 e.symm)];exact a2,a3,a4.later hb⟩
theorem fiJ.call {X:Nmd}{b:Bool}{kv:Nat→Option Value}{L:Array Bool}{c:Nat→Value}(R:FS fiD kv (fiS X C b) w L c W)(q:Nc)(hx:q.x=X)(hq:NcFresh W.heap.size W' q):fiJ X (L.setIfInBounds 6 true) (upd c 6 (.tuple #[q.val,.nilIface])) W':=fun _ l10=>by
 obtain⟨B,a1,-,a3,-⟩:=(R.spec 10 (za (by decide) l10)).2.2.2.2.1 rfl;exact⟨q,B,zd ..,by rw [zb _ _ (by decide)];exact a1,hx,hq.away_lt a3⟩
theorem fiJ.var {X:Nmd}{kv:Nat→Option Value}{L:Array Bool}{c:Nat→Value}(R:FS fiD kv (fiS X C false) w L c W)(hb:Below W.heap.size W W'):fiJ X (L.setIfInBounds 10 true) (upd c 10 (.pointer (some ⟨W.heap.size,0,none⟩))) W':=fun l6 _=>by
 obtain⟨q,a1,a2,a3⟩:=(R.spec 6 (za (by decide) l6)).1 rfl;obtain⟨base,hf⟩:=a3 rfl;exact⟨q,W.heap.size,by rw [zb _ _ (by decide)];exact a1,zd ..,a2,(hf.away_new zL).later hb⟩
theorem zhv {X:Nmd}{kv:Nat→Option Value}{L:Array Bool}{c:Nat→Value}(R:FS fiD kv (fiS X C true) w L c W)(J:fiJ X L c W)(hall:∀ i,i<13→L.getD i false=true):
  ∃(B:Nat) (q:Nc),c 10=.pointer (some ⟨B,0,none⟩)∧c 12=.nilIface∧C≤B∧q.x=X∧BoxT W B (.string q.x.name) (.int .i64 q.x.n) (.slice q.o q.l q.c)∧NcIn W q:=by
 obtain⟨q,B,j1,j2,j3,j4⟩:=J (hall 6 (by omega)) (hall 10 (by omega));have e1:=(R.spec 7 (hall 7 (by omega))).2.1 rfl;obtain⟨u,f,e2,e2'⟩:=(R.spec 8 (hall 8 (by omega))).2.2.1 rfl;obtain⟨u3,f3,e3,e3'⟩:=(R.spec 9 (hall 9 (by omega))).2.2.2.1 rfl;obtain⟨B',u0,u1,u2,e5,e5',hB,hO⟩:=(R.spec 11 (hall 11 (by omega))).2.2.2.2.2.1 rfl;have e6:=(R.spec 12 (hall 12 (by omega))).2.2.2.2.2.2 rfl;rw [e1,j1] at e2 e3;simp only [Value.tuple.injEq,Array.mk.injEq,List.cons.injEq,and_true] at e2 e3;obtain⟨rfl,-⟩:=e2;obtain⟨-,rfl⟩:=e3;rw [e2'] at e5';simp only [Nc.val,Value.agg.injEq,Array.mk.injEq,List.cons.injEq,and_true] at e5';obtain⟨rfl,rfl,rfl⟩:=e5';rw [j2] at e5;simp only [Value.pointer.injEq,Option.some.injEq,Addr.mk.injEq,and_true] at e5;subst e5;exact⟨B,q,j2,e6.trans e3',hB,j3,hO,j4.ins⟩
theorem zi6 {xs ys:List (List Int)}{k:Nat}(hx:k<xs.length)(hy:k<ys.length)(h:xs[k]≠ys[k]):xs≠ys:=fun e=>by
 subst e;exact h rfl
theorem zjU (w:World)(a0 a1 a2 b0 b1 b2:Value)(s t:TypeId):ThreeV ((w.alloc (.cells #[a0,a1,a2] s)).alloc (.cells #[b0,b1,b2] t)) w.heap.size a0 a1 a2∧ThreeV ((w.alloc (.cells #[a0,a1,a2] s)).alloc (.cells #[b0,b1,b2] t)) (w.heap.size+1) b0 b1 b2∧Below w.heap.size w ((w.alloc (.cells #[a0,a1,a2] s)).alloc (.cells #[b0,b1,b2] t)):=by
 have hb1:=zi w (.cells #[a0,a1,a2] s);have hb2:=zi (w.alloc (.cells #[a0,a1,a2] s)) (.cells #[b0,b1,b2] t);have e:(w.alloc (.cells #[a0,a1,a2] s)).heap.size=w.heap.size+1:=by simp
 refine⟨(ThreeV.new w a0 a1 a2 s).later hb2,?_,hb1.trans (hb2.mono hb1.size)⟩;have:=ThreeV.new (w.alloc (.cells #[a0,a1,a2] s)) b0 b1 b2 t
 rwa [e] at this
theorem zdt (w:World)(p q:Nc)(hp:NcIn w p)(hq:NcIn w q)(hl:p.x.gens.length≤1000)(hg:∀ g∈p.x.gens,g.length≤1000000)(r:Bool)(hr:r=true↔p.x=q.x):
  Calls Tryz.prog 20 #[p.val,q.val] w fun e w'=>e=.returned (.bool r)∧Below w.heap.size w w':=by
 obtain⟨⟨nm,n,gs⟩,po,pl,pc⟩:=p;obtain⟨⟨mm,m,hs⟩,qo,ql,qc⟩:=q;have HP:Hid (RowsS w (.slice po pl pc) gs):=hp;have HQ:Hid (RowsS w (.slice qo ql qc) hs):=hq;have HG:=hide hg;have hpl:pl=gs.length:=by obtain⟨_,_,e,-⟩:=id HP.out;simp only [zV] at e;exact e.2.1
 have hql:ql=hs.length:=by obtain⟨_,_,e,-⟩:=id HQ.out;simp only [zV] at e;exact e.2.1
 subst hpl hql;simp only [Nmd.mk.injEq] at hr;have hl':gs.length≤1000:=hl;have hB:=zdC nm mm;obtain⟨x1,x2,hb⟩:=zjU w (.string nm) (.int .i64 n) (.slice po gs.length pc) (.string mm) (.int .i64 m) (.slice qo hs.length qc) 25 25;have X1:=hide x1;have X2:=hide x2;have HB:=hide hb;obtain⟨c0,c1,c2,-⟩:=x1;obtain⟨d0,d1,d2,-⟩:=x2;have HR:=hide hr;clear hp hq hg hl hb hr;show Calls Tryz.prog 20 #[.agg #[.string nm,.int .i64 n,.slice po gs.length pc],.agg #[.string mm,.int .i64 m,.slice qo hs.length qc]] w _;by_cases h1:nm=mm
 ·have g1:(nm.toList==mm.toList)=true:=by rw [hB];exact decide_eq_true h1
  by_cases h2:n=m
  ·have g2:(n != m)=false:=by rw [bne_eq_false_iff_eq];exact h2
   by_cases h3:gs.length=hs.length
   ·have g3:((gs.length:Int) !=(hs.length:Int))=false:=by rw [bne_eq_false_iff_eq];omega
    have HL:=hide h3;have HRR:Hid (r=true↔gs=hs):=⟨fun h=>(HR.out.1 h).2.2,fun h=>HR.out.2 ⟨h1,h2,h⟩⟩;have H1:=hide h1;have H2:=hide h2;clear h1 h2 h3 hB HR;go_enter Tryz.func20,Tryz.ntmps20;go_wp2_with fail;generalize ((w.alloc (.cells #[.string nm,.int .i64 n,.slice po gs.length pc] 25)).alloc (.cells #[.string mm,.int .i64 m,.slice qo hs.length qc] 25))=W0 at *;clear c0 c1 d0 d1 c2 d2;go_loopw [5] (fun i wr=>∃ k:Nat,k≤gs.length∧i=.int .i64 k∧Hid (∀ j (h:j<gs.length) (h':j<hs.length),j<k→gs[j]=hs[j])∧Hid (ThreeV wr w.heap.size (.string nm) (.int .i64 n) (.slice po gs.length pc))∧Hid (ThreeV wr (w.heap.size+1) (.string mm) (.int .i64 m) (.slice qo hs.length qc))∧Hid (Below w.heap.size w wr)) (fun i _=>gs.length-(intOf i).toNat)
    case atStart=>exact⟨0,Nat.zero_le _,rfl,hide (fun j _ _ hj=>absurd hj (by omega)),X1,X2,HB⟩
    case round=>
     clear X1 X2 HB;obtain⟨k,hk,rfl,HE,X1,X2,HB⟩:=hrel;obtain⟨c0,c1,c2,l1⟩:=X1.out;obtain⟨d0,d1,d2,l2⟩:=X2.out;by_cases hkl:k<gs.length
     ·have hkh:k<hs.length:=by have:=HL.out;omega
      obtain⟨b,off,cap,e,hlt,u,cu,hu⟩:=(HP.out.below HB.out).at k hkl;simp only [zV,true_and] at e;obtain⟨rfl,rfl⟩:=e;obtain⟨b',off',cap',e,hlt',v,cv,hv⟩:=(HQ.out.below HB.out).at k hkh;simp only [zV,true_and] at e;obtain⟨rfl,rfl⟩:=e;have HU:=hide hu;have HV:=hide hv;obtain⟨uo,uc,rfl⟩:=hu.form;obtain⟨vo,vc,rfl⟩:=hv.form;have hgl:=HG.out gs[k] (List.getElem_mem hkl);have HNE:Hid (gs[k]≠hs[k]→r=false):=fun h=>by
       cases hr:r with
       | false=>rfl
       | true=>exact absurd (HRR.out.1 hr) (zi6 hkl hkh h)
      have HE':Hid (gs[k]=hs[k]→∀ j (h:j<gs.length) (h':j<hs.length),j<k+1→gs[j]=hs[j]):=fun h j h1 h2 hj=>by
       by_cases e:j<k
       ·exact HE.out j h1 h2 e
       ·obtain rfl:j=k:=by omega
        exact h
      have HGL:Hid (gs[k].length≤1000000):=hgl;clear hu hv hgl HE;generalize gs[k]=x at *;generalize hs[k]=y at *;go_wp2_with fail
      go_region_held3 (fun w'=>w'.cell? ⟨w.heap.size,2,none⟩=some (.slice (some ⟨b,off,none⟩) gs.length pc)∧w'.cell? ⟨w.heap.size+1,2,none⟩=some (.slice (some ⟨b',off',none⟩) hs.length qc)∧w'.cell? ⟨b,off+k,none⟩=some (.slice uo x.length uc)∧w'.cell? ⟨b',off'+k,none⟩=some (.slice vo y.length vc)) (go_keep)
       (first
        |(go_at_call 36;refine(zfq _ _ _ x y (HU.out.below (zB _ _).drew zL) (HV.out.below (zB _ _).drew zL) HGL.out).mono ?_;rintro e w3 ⟨rfl,hb3'⟩;have hb3:Below wr.heap.size wr w3:=(zB _ _).drew.trans (hb3'.mono (by simp));have X13:=hide (X1.out.later hb3);have X23:=hide (X2.out.later hb3);have HB3:=hide (HB.out.trans (hb3.mono HB.out.size));have e1:=(hb3.cell (p:=⟨b,off+k,none⟩) hlt).trans cu;have e2:=(hb3.cell (p:=⟨b',off'+k,none⟩) hlt').trans cv;obtain⟨-,-,k2,-⟩:=X13.out;obtain⟨-,-,j2,-⟩:=X23.out;clear hb3 hb3'))
      clear c0 c1 c2 d0 d1 d2 k2 j2 e1 e2 cu cv HU HV HGL X1 X2 HB;by_cases hxy:x=y
      ·rw [decide_eq_true hxy];have HE2:=hide (HE'.out hxy);clear hxy;go_wp2;go_roundw
       case rel=>exact⟨k+1,by omega,by go_num,HE2,X13,X23,HB3⟩
       case measure=>simp [intOf];omega
      ·rw [decide_eq_false hxy];obtain rfl:=HNE.out hxy;clear hxy;go_wp2;go_ret;exact⟨rfl,HB3.out⟩
     ·obtain rfl:k=gs.length:=by omega
      obtain rfl:true=r:=(HRR.out.2 (by
       apply List.ext_getElem HL.out;intro j h1 h2;exact HE.out j h1 h2 h1)).symm
      go_wp2;go_ret;exact⟨rfl,HB.out⟩
   ·have g3:((gs.length:Int) !=(hs.length:Int))=true:=by rw [bne_iff_ne];omega
    obtain rfl:false=r:=by
     cases hr:r with
     | false=>rfl
     | true=>exact absurd (congrArg List.length (HR.out.1 hr).2.2) h3
    clear h1 h2 h3 hB HR;go_enter Tryz.func20,Tryz.ntmps20;go_wp2;go_ret;exact⟨rfl,HB.out⟩
  ·have g2:(n != m)=true:=by rw [bne_iff_ne];exact h2
   obtain rfl:false=r:=by
    cases hr:r with
    | false=>rfl
    | true=>exact absurd (HR.out.1 hr).2.1 h2
   clear h1 h2 hB HR;go_enter Tryz.func20,Tryz.ntmps20;go_wp2;go_ret;exact⟨rfl,HB.out⟩
 ·have g1:(nm.toList==mm.toList)=false:=by rw [hB];exact decide_eq_false h1
  obtain rfl:false=r:=by
   cases hr:r with
   | false=>rfl
   | true=>exact absurd (HR.out.1 hr).1 h1
  clear h1 hB HR;go_enter Tryz.func20,Tryz.ntmps20;go_wp2;go_ret;exact⟨rfl,HB.out⟩
theorem zfp (w:World)(va vb:Value)(ps qs:List Nc)(ha:CatN w va ps)(hb:CatN w vb qs)(hl:ps.length≤1000)(hg:∀ p∈ps,p.x.gens.length≤1000∧∀ g∈p.x.gens,g.length≤1000000)(r:Bool)(hr:r=true↔ps.map (·.x)=qs.map (·.x)):
  Calls Tryz.prog 16 #[va,vb] w fun e w'=>e=.returned (.bool r)∧Below w.heap.size w w':=by
 have HA:=hide ha;have HB:=hide hb;have HG:=hide hg;obtain⟨ao,acap,rfl,-⟩:=id ha;obtain⟨bo,bcap,rfl,-⟩:=id hb;clear ha hb hg;by_cases h3:ps.length=qs.length
 ·have g3:((ps.length:Int) !=(qs.length:Int))=false:=by rw [bne_eq_false_iff_eq];omega
  have HL:=hide h3;have HR:=hide hr;clear h3 hr;go_enter Tryz.func16,Tryz.ntmps16;go_wp2;go_loopw [5] (fun i wr=>∃ k:Nat,k≤ps.length∧i=.int .i64 k∧Hid (∀ j (h:j<ps.length) (h':j<qs.length),j<k→ps[j].x=qs[j].x)∧Hid (Below w.heap.size w wr)) (fun i _=>ps.length-(intOf i).toNat)
  case atStart=>exact⟨0,Nat.zero_le _,rfl,hide (fun j _ _ hj=>absurd hj (by omega)),hide (zB _ _)⟩
  case round=>
   obtain⟨k,hk,rfl,HE,HBE⟩:=hrel;by_cases hkl:k<ps.length
   ·have hkh:k<qs.length:=by have:=HL.out;omega
    obtain⟨ab,aoff,acap',e⟩:=HA.out.form (by omega);simp only [zV,true_and] at e;obtain⟨rfl,rfl⟩:=e;obtain⟨bb,boff,bcap',e⟩:=HB.out.form (by omega);simp only [zV,true_and] at e;obtain⟨rfl,rfl⟩:=e;obtain⟨hlt,c0,c1,c2,hi⟩:=(HA.out.below HBE.out).at k hkl;obtain⟨hlt',d0,d1,d2,hi'⟩:=(HB.out.below HBE.out).at k hkh;have HI:=hide hi;have HI':=hide hi';obtain⟨hg1,hg2⟩:=HG.out ps[k] (List.getElem_mem hkl);have HG1:=hide hg1;have HG2:=hide hg2;have HNE:Hid (ps[k].x≠qs[k].x→r=false):=fun h=>by
     cases hr:r with
     | false=>rfl
     | true=>
      have e:=HR.out.1 hr;have:(ps.map (·.x))[k]'(by rw [zM];exact hkl)=(qs.map (·.x))[k]'(by rw [zM];exact hkh):=by simp only [e]
      rw [List.getElem_map,List.getElem_map] at this;exact absurd this h
    have HE':Hid (ps[k].x=qs[k].x→∀ j (h:j<ps.length) (h':j<qs.length),j<k+1→ps[j].x=qs[j].x):=fun h j h1 h2 hj=>by
     by_cases e:j<k
     ·exact HE.out j h1 h2 e
     ·obtain rfl:j=k:=by omega
      exact h
    clear hi hi' hg1 hg2 HE;generalize ps[k]=p at *;generalize qs[k]=q at *;obtain⟨s,hs⟩:∃ s:Bool,(s=true↔p.x=q.x):=⟨@decide (p.x=q.x) (Classical.propDecidable _),@decide_eq_true_iff _ (Classical.propDecidable _)⟩;have HS:=hide hs;obtain⟨⟨nm,n,gs⟩,po,pl,pc⟩:=p;obtain⟨⟨mm,m,gs'⟩,qo,ql,qc⟩:=q;dsimp only at c0 c1 c2 d0 d1 d2;clear hs;go_wp2_with fail
    go_region_held3 (fun w'=>w'.cell? ⟨ab,aoff+k*3,none⟩=some (.string nm)∧w'.cell? ⟨ab,aoff+k*3+1,none⟩=some (.int .i64 n)∧w'.cell? ⟨ab,aoff+k*3+2,none⟩=some (.slice po pl pc)∧w'.cell? ⟨bb,boff+k*3,none⟩=some (.string mm)∧w'.cell? ⟨bb,boff+k*3+1,none⟩=some (.int .i64 m)∧w'.cell? ⟨bb,boff+k*3+2,none⟩=some (.slice qo ql qc)) (go_keep)
     (first
      |(go_at_call 20;refine(zdt _ ⟨⟨nm,n,gs⟩,po,pl,pc⟩ ⟨⟨mm,m,gs'⟩,qo,ql,qc⟩ (HI.out.below (zB _ _).drew) (HI'.out.below (zB _ _).drew) HG1.out HG2.out s HS.out).mono ?_;rintro e w3 ⟨rfl,hb3'⟩;have hb3:Below wr.heap.size wr w3:=(zB _ _).drew.trans (hb3'.mono (by simp));have HB3:=hide (HBE.out.trans (hb3.mono HBE.out.size));have e0:=(hb3.cell (p:=⟨ab,aoff+k*3,none⟩) hlt).trans c0;have e1:=(hb3.cell (p:=⟨ab,aoff+k*3+1,none⟩) hlt).trans c1;have e2:=(hb3.cell (p:=⟨ab,aoff+k*3+2,none⟩) hlt).trans c2;have f0:=(hb3.cell (p:=⟨bb,boff+k*3,none⟩) hlt').trans d0;have f1:=(hb3.cell (p:=⟨bb,boff+k*3+1,none⟩) hlt').trans d1;have f2:=(hb3.cell (p:=⟨bb,boff+k*3+2,none⟩) hlt').trans d2;clear hb3 hb3'))
    clear c0 c1 c2 d0 d1 d2 e0 e1 e2 f0 f1 f2 HI HI' HG1 HG2 HBE;cases s with
    | true=>
     have HE2:=hide (HE'.out (HS.out.1 rfl));go_wp2;go_roundw
     case rel=>exact⟨k+1,by omega,by go_num,HE2,HB3⟩
     case measure=>simp [intOf];omega
    | false=>
     obtain rfl:=HNE.out (fun h=>by have:=HS.out.2 h;cases this);go_wp2;go_ret;exact⟨rfl,HB3.out⟩
   ·obtain rfl:k=ps.length:=by omega
    obtain rfl:true=r:=(HR.out.2 (by
     apply List.ext_getElem (by rw [zM,zM];exact HL.out);intro j h1 h2;rw [zM] at h1 h2;rw [List.getElem_map,List.getElem_map];exact HE.out j h1 h2 h1)).symm
    go_wp2;go_ret;exact⟨rfl,HBE.out⟩
 ·have g3:((ps.length:Int) !=(qs.length:Int))=true:=by rw [bne_iff_ne];omega
  obtain rfl:false=r:=by
   cases h:r with
   | false=>rfl
   | true=>
    have:=congrArg List.length (hr.1 h);rw [zM,zM] at this;exact absurd this h3
  clear h3 hr;go_enter Tryz.func16,Tryz.ntmps16;go_wp2;go_ret;exact⟨rfl,zB _ _⟩
def atL (cs:List Nmd)(s:ByteArray):Int:=if hasL cs s then (cs.findIdx (fun x=>decide (x.name=s)):Int) else -1
theorem zcJ (w:World)(v:Value)(qs:List Nc)(s:ByteArray)(h:CatN w v qs)(hq:qs.length≤1000):
  Calls Tryz.prog 19 #[v,.string s] w fun e w'=>e=.returned (.int .i64 (atL (qs.map (·.x)) s))∧w'=w:=by
 have HQ:=hide h;obtain⟨ao,cap,rfl,-⟩:=id h;clear h;generalize hr:atL (qs.map (·.x)) s=r;have HR:=hide hr;clear hr;go_enter Tryz.func19,Tryz.ntmps19;go_wp2;go_loopw [5] (fun i wr=>∃ k:Nat,k≤qs.length∧i=.int .i64 k∧Hid (∀ j (h:j<qs.length),j<k→qs[j].x.name≠s)∧wr=w) (fun i _=>qs.length-(intOf i).toNat)
 case atStart=>exact⟨0,Nat.zero_le _,rfl,hide (fun j _ hj=>absurd hj (by omega)),rfl⟩
 case round=>
  obtain⟨k,hk,rfl,HN,hw⟩:=hrel;subst wr;by_cases hkl:k<qs.length
  ·obtain⟨b,off,cap',e⟩:=HQ.out.form (by omega);simp only [zV,true_and] at e;obtain⟨rfl,rfl⟩:=e;obtain⟨hlt,c0,-,-,-⟩:=HQ.out.at k hkl;have hbe:=zdC qs[k].x.name s;have HY:Hid (qs[k].x.name=s→r=(k:Int)):=fun h=>by
    rw [← HR.out];unfold atL;have hm:hasL (qs.map (·.x)) s=true:=by
     unfold hasL;rw [List.any_eq_true];exact⟨qs[k].x,List.mem_map.2 ⟨_,List.getElem_mem hkl,rfl⟩,by simpa using h⟩
    rw [if_pos hm];have hlt:(qs.map (·.x)).findIdx (fun x=>decide (x.name=s))<(qs.map (·.x)).length:=List.findIdx_lt_length_of_exists ⟨qs[k].x,List.mem_map.2 ⟨_,List.getElem_mem hkl,rfl⟩,by simpa using h⟩;have:(qs.map (·.x)).findIdx (fun x=>decide (x.name=s))=k:=by
     apply Nat.le_antisymm
     ·rcases Nat.lt_or_ge k ((qs.map (·.x)).findIdx (fun x=>decide (x.name=s))) with h1 | h1
      ·have:=List.not_of_lt_findIdx h1;rw [List.getElem_map] at this;simp [h] at this
      ·exact h1
     ·rcases Nat.lt_or_ge ((qs.map (·.x)).findIdx (fun x=>decide (x.name=s))) k with h1 | h1
      ·have h2:=List.findIdx_getElem (w:=hlt);rw [List.getElem_map] at h2;rw [zM] at hlt;exact absurd (by simpa using h2) (HN.out _ hlt h1)
      ·exact h1
    rw [this]
   have HN':Hid (qs[k].x.name≠s→∀ j (h:j<qs.length),j<k+1→qs[j].x.name≠s):=fun h j hj hjk=>by
    by_cases e:j<k
    ·exact HN.out j hj e
    ·obtain rfl:j=k:=by omega
     exact h
   generalize qs[k].x.name=nm at *;by_cases he:nm=s
   ·rw [decide_eq_true he] at hbe;obtain rfl:=HY.out he;clear he;go_wp2;go_ret;exact⟨rfl,rfl⟩
   ·rw [decide_eq_false he] at hbe;have HN2:=hide (HN'.out he);clear he;go_wp2;go_roundw
    case rel=>exact⟨k+1,by omega,by go_num,HN2,by first | rfl | trivial⟩
    case measure=>simp [intOf];omega
  ·obtain rfl:k=qs.length:=by omega
   obtain rfl:-1=r:=by
    rw [← HR.out];unfold atL;rw [if_neg];intro h;unfold hasL at h;rw [List.any_eq_true] at h;obtain⟨x,hx,e⟩:=h;obtain⟨q,hq,rfl⟩:=List.mem_map.1 hx;obtain⟨i,hi,rfl⟩:=List.getElem_of_mem hq;exact HN.out i hi hi (by simpa using e)
   go_wp2;go_ret;exact⟨rfl,rfl⟩
theorem ze3 {P:Program}(W:World)(base:Nat)(hbase:base≤W.heap.size)(t ty e:TypeId)(i:TypeInfo)(z:Value)(sz by':Nat)(ht:P.underlying t=some (.slice e))(hi:P.info? e=some i)(hz:i.zero=some z)
  (hsize:i.size=sz) (hby:i.bytes=by') (hzs:z.cells.size=sz) (hsz:0<sz) (v:Value) (n:Nat) (xs:List Value) (hown:W.ownsRow base e sz v n xs)
  (ys:Array Value) (tb:TypeId) (hl:ys.size=sz) (h1:∀ y∈ys.toList,y.oneCell'=true) (h63:n+1≤maxLen) (hbytes:(n+1)*by'≤140737488355328):
  ∃ o c W',(Builtin.append_ #[t,t] ty #[v,.slice (some ⟨W.heap.size,0,none⟩) 1 1]).run P (W.alloc (.cells ys tb))=.ok (.slice o (n+1) c) W'∧W'.ownsRow base e sz (.slice o (n+1) c) (n+1) (xs++ys.toList)∧Below base W W':=by
 obtain⟨v',W',hr,hown',hg,-⟩:=run_append_own (P:=P) (W.alloc (.cells ys tb)) base t ty e i z sz by' ht hi hz hsize hby hzs hsz v n xs (hown.alloc _) ⟨W.heap.size,0,none⟩ 1 1 ys.toList (by rw [Array.length_toList,hl,Nat.one_mul]) (World.news_of_block (heap_alloc_new W _)) h1 h63 hbytes (by simp;omega);obtain⟨o,c,rfl,-⟩:=zak hown';exact⟨o,c,W',hr,hown',zaC hown hbase hg⟩
theorem zcj (W:World)(base:Nat)(hbase:base≤W.heap.size)(v:Value)(n:Nat)(xs:List Value)(hown:W.ownsRow base 28 1 v n xs)(o:Option Addr)(l c:Nat)(hn:n≤1000):
  ∃ o' c' W',(Builtin.append_ #[23,23] 23 #[v,.slice (some ⟨W.heap.size,0,none⟩) 1 1]).run Tryz.prog (W.alloc (.cells #[.slice o l c] 28))=.ok (.slice o' (n+1) c') W'∧W'.ownsRow base 28 1 (.slice o' (n+1) c') (n+1) (xs++[.slice o l c])∧Below base W W':=by
 obtain⟨j0,hj,hy0,hy1,hy2⟩:=zR Tryz.infoIntsB;exact ze3 W base hbase _ _ _ j0 _ 1 24 (by kernel_rfl) hj hy0 hy1 hy2 rfl (by decide) v n xs hown #[.slice o l c] _ rfl (fun y hy=>by
  rw [List.mem_singleton] at hy;rw [hy];rfl) (by unfold maxLen;omega) (by omega)
theorem zbz (W:World)(base:Nat)(hbase:base≤W.heap.size)(v:Value)(n:Nat)(xs:List Value)(hown:W.ownsRow base 25 3 v n xs)(q:Nc)(hn:n≤1000):
  ∃ o c W',(Builtin.append_ #[46,46] 46 #[v,.slice (some ⟨W.heap.size,0,none⟩) 1 1]).run Tryz.prog (W.alloc (.cells #[.string q.x.name,.int .i64 q.x.n,.slice q.o q.l q.c] 25))=.ok (.slice o (n+1) c) W'∧W'.ownsRow base 25 3 (.slice o (n+1) c) (n+1) (xs++q.cells)∧Below base W W':=by
 obtain⟨j0,hj,hy0,hy1,hy2⟩:=zR Tryz.infoNamed;exact ze3 W base hbase _ _ _ j0 _ 3 48 (by kernel_rfl) hj hy0 hy1 hy2 rfl (by decide) v n xs hown #[.string q.x.name,.int .i64 q.x.n,.slice q.o q.l q.c] _ rfl (fun y hy=>by
  simp only [List.mem_cons,List.not_mem_nil,or_false] at hy;rcases hy with rfl | rfl | rfl <;> rfl) (by unfold maxLen;omega) (by omega)
def RefRes (w:World)(r:Nat × List Nmd)(e:Ending)(w':World):Prop:=
 ((r.1≠0∧e=.returned (.tuple #[.slice none 0 0,.int .i64 (r.1:Int)]))∨(r.1=0∧∃ u qs,e=.returned (.tuple #[u,.int .i64 0])∧qs.map (·.x)=r.2∧CatN w' u qs))∧Below w.heap.size w w'
theorem zS{w':World}{r:Nat × List Nmd}(c:Nat)(l:List Nmd)(hr:r=(c,l))(hc:c≠0)(hb:Below w.heap.size w w'):RefRes w r (.returned (.tuple #[.slice none 0 0,.int .i64 (c:Int)])) w':=by
 subst hr;exact⟨.inl ⟨hc,rfl⟩,hb⟩
theorem zcI {cs:List Nmd}(hc:cs.Pairwise (fun x y=>nlt x.name y.name=true)){s:ByteArray}(h:hasL cs s=true):atL cs s=(placeL cs s:Int):=by
 unfold atL;rw [if_pos h];obtain⟨h1,h2⟩:=(zaz hc).1 h;congr 1;apply Nat.le_antisymm
 ·rcases Nat.lt_or_ge (placeL cs s) (cs.findIdx (fun x=>decide (x.name=s))) with h3 | h3
  ·have:=List.not_of_lt_findIdx h3;simp [h2] at this
  ·exact h3
 ·rcases Nat.lt_or_ge (cs.findIdx (fun x=>decide (x.name=s))) (placeL cs s) with h3 | h3
  ·obtain⟨h4,h5⟩:=zbP h3;have h6:=List.findIdx_getElem (p:=fun x:Nmd=>decide (x.name=s)) (w:=h4);rw [of_decide_eq_true h6,zcq] at h5;cases h5
  ·exact h3
theorem zcH {cs:List Nmd}{s:ByteArray}(h:hasL cs s=false):atL cs s=-1:=by
 unfold atL;rw [if_neg (by rw [h];decide)]
theorem zdG (k n:Int)(l:Nat):useOk k n l=true↔¬(k<1)∧¬(4<k)∧¬(k≠1∧n≠0)∧¬(k<3∧0<l):=by
 unfold useOk;simp only [Bool.or_eq_true,decide_eq_true_eq];omega
end Go.Proofs.YtncamilanceahaaGreat
