import Derived.Test.YtncamilanceahaaGreatGcdA
namespace Go.Proofs.YtncamilanceahaaGreat
open Go.RowKit Limbs
variable{W w W':World}{a0 a1 b0 b1 vb c7 c8 c9 c19 c20 c21 c22 c23 c24 u:Value}{g x y b z:Int}{B i:Nat}
structure Pre (w W:World)(a0 a1 b0 b1:Value)(rg rx ry:Nm)(g x y:Int):Prop where
 a:Box W w.heap.size a0 a1
 b:Box W (w.heap.size+1) b0 b1
 g:Var W (w.heap.size+1+1) rg g
 x:Var W (w.heap.size+1+1+1) rx x
 y:Var W (w.heap.size+1+1+1+1) ry y
 below:Below w.heap.size w W
theorem zY (W:World):NumL W (.agg #[.bool false,.slice none 0 0]) 0 12:=⟨false,_,[],rfl,Lim.nil W,Nrm.nil,fun _=>rfl,by simp [lv],by simp⟩
theorem ze9 (w:World)(a0 a1 b0 b1:Value)(t:TypeId):Pre w (((((w.alloc (.cells #[a0,a1] t)).alloc (.cells #[b0,b1] t)).alloc (.cells #[.bool false,.slice none 0 0] t)).alloc (.cells #[.bool false,.slice none 0 0] t)).alloc (.cells #[.bool false,.slice none 0 0] t)) a0 a1 b0 b1 ⟨false,none,0,0⟩ ⟨false,none,0,0⟩ ⟨false,none,0,0⟩ 0 0 0 where
 a:=(four w a0 a1 b0 b1 _ _ _ _ t t t t).fst.later ((zB _ _).alloc (by simp) _:Below (w.heap.size+4) _ _) (by omega)
 b:=(four w a0 a1 b0 b1 _ _ _ _ t t t t).snd.later ((zB _ _).alloc (by simp) _:Below (w.heap.size+4) _ _) (by omega)
 g:=⟨(four w a0 a1 b0 b1 _ _ _ _ t t t t).res.later ((zB _ _).alloc (by simp) _:Below (w.heap.size+4) _ _) (by omega),zY _,by simp⟩
 x:=⟨(four w a0 a1 b0 b1 _ _ _ _ t t t t).sec.later ((zB _ _).alloc (by simp) _:Below (w.heap.size+4) _ _) (by omega),zY _,by simp⟩
 y:=⟨zl _ _ _ _ _ (by simp),zY _,by simp⟩
 below:=(four w a0 a1 b0 b1 _ _ _ _ t t t t).below.alloc (by simp;omega) _
theorem Pre.later{rg rx ry:Nm}(h:Pre w W a0 a1 b0 b1 rg rx ry g x y)(hb:Below W.heap.size W W'):Pre w W' a0 a1 b0 b1 rg rx ry g x y:=
 ⟨h.a.later hb (by have:=h.g.lt;omega),h.b.later hb (by have:=h.g.lt;omega),h.g.later hb,h.x.later hb,h.y.later hb,h.below.trans (hb.mono h.below.size)⟩
theorem Pre.drew{rg rx ry:Nm}(h:Pre w W a0 a1 b0 b1 rg rx ry g x y):Pre w W.drew a0 a1 b0 b1 rg rx ry g x y:=⟨h.a,h.b,h.g.drew,h.x.drew,h.y.drew,h.below.drew⟩
theorem Pre.write{rg rx ry r r' r'':Nm}{z' z'':Int}(h:Pre w W a0 a1 b0 b1 rg rx ry g x y)(hn:NumL W (.agg #[.bool r.neg,.slice r.o r.l r.c]) z 12)(hn':NumL W (.agg #[.bool r'.neg,.slice r'.o r'.l r'.c]) z' 12)(hn'':NumL W (.agg #[.bool r''.neg,.slice r''.o r''.l r''.c]) z'' 12):
  Pre w ((((((W.setCell ⟨w.heap.size+1+1,0,none⟩ (.bool r.neg)).setCell ⟨w.heap.size+1+1,1,none⟩ (.slice r.o r.l r.c)).setCell ⟨w.heap.size+1+1+1,0,none⟩ (.bool r'.neg)).setCell ⟨w.heap.size+1+1+1,1,none⟩ (.slice r'.o r'.l r'.c)).setCell ⟨w.heap.size+1+1+1+1,0,none⟩ (.bool r''.neg)).setCell ⟨w.heap.size+1+1+1+1,1,none⟩ (.slice r''.o r''.l r''.c)) a0 a1 b0 b1 r r' r'' z z' z'':=by
 have hx:=h.x.other h.g (by omega) (.bool r.neg) (.slice r.o r.l r.c);have hy:=(h.y.other h.g (by omega) (.bool r.neg) (.slice r.o r.l r.c)).other hx (by omega) (.bool r'.neg) (.slice r'.o r'.l r'.c);refine⟨?_,?_,((h.g.write hn).other hx (by omega) _ _).other hy (by omega) _ _,(hx.write (hn'.wrote h.g.box (by simp) (by simp))).other hy (by omega) _ _,hy.write ((hn''.wrote h.g.box (by simp) (by simp)).wrote hx.box (by simp) (by simp)),?_⟩
 ·exact(((((h.a.other (by omega) _ _).other (by omega) _ _).other (by omega) _ _).other (by omega) _ _).other (by omega) _ _).other (by omega) _ _
 ·exact(((((h.b.other (by omega) _ _).other (by omega) _ _).other (by omega) _ _).other (by omega) _ _).other (by omega) _ _).other (by omega) _ _
 ·exact(((((h.below.setCell (by simp;omega) _).setCell (by simp;omega) _).setCell (by simp;omega) _).setCell (by simp;omega) _).setCell (by simp;omega) _).setCell (by simp;omega) _
theorem zaJ{p:Addr}(h:W.cell? p=some u)(o:Obj):(W.alloc o).cell? p=some u:=(World.cell?_alloc_some W p o (by rw [h];rfl)).trans h
theorem zgz{p:Addr}(h:W.cell? p=some u)(o1 o2 o3:Obj):(((W.alloc o1).alloc o2).alloc o3).cell? p=some u:=zaJ (zaJ (zaJ h o1) o2) o3
theorem zbR (z:Int):-9223372036854775808≤sgn z∧sgn z≤9223372036854775807:=by
 unfold sgn
 repeat' split
 all_goals decide
@[reducible] def Nm.v (r:Nm):Value:=.agg #[.bool r.neg,.slice r.o r.l r.c]
@[reducible] def ptr (B:Nat):Value:=.pointer (some ⟨B,0,none⟩)
structure R2 (w W:World)(L:Array Bool)(a0 a1 b0 b1:Value)(rg rx ry:Nm)(g x y:Int)(vb:Value)(b:Int)(c7 c8 c9 c19 c20 c21 c22 c23 c24:Value):Prop where
 pre:Pre w W a0 a1 b0 b1 rg rx ry g x y
 f19:L.getD 0 false=true→c19=vb
 f20:L.getD 1 false=true→∃ r:Nm,c20=r.v∧NumL W r.v (ab b) 12
 f21:L.getD 2 false=true→∃ r:Nm,c21=r.v∧NumL W r.v 0 12
 f22:L.getD 3 false=true→c22=vb
 f23:L.getD 4 false=true→c23=.int .i64 (sgn b)
 f24:L.getD 5 false=true→∃ r:Nm,c24=r.v∧NumL W r.v (sgn b) 12
 f7:L.getD 6 false=true→∃ B r z,c7=ptr B∧w.heap.size+1+1+1+1<B∧Var W B r z∧(L.getD 9 false=true→z=ab b)
 f8:L.getD 7 false=true→∃ B r z,c8=ptr B∧w.heap.size+1+1+1+1<B∧Var W B r z∧(L.getD 10 false=true→z=0)
 f9:L.getD 8 false=true→∃ B r z,c9=ptr B∧w.heap.size+1+1+1+1<B∧Var W B r z∧(L.getD 11 false=true→z=sgn b)
 d78:L.getD 6 false=true→L.getD 7 false=true→c7≠c8
 d79:L.getD 6 false=true→L.getD 8 false=true→c7≠c9
 d89:L.getD 7 false=true→L.getD 8 false=true→c8≠c9
 o9:L.getD 9 false=true→L.getD 6 false=true
 o10:L.getD 10 false=true→L.getD 7 false=true
 o11:L.getD 11 false=true→L.getD 8 false=true
theorem zt {L:Array Bool}(h:L.getD i true=false):¬ L.getD i false=true:=fun h'=>by
 by_cases hl:i<L.size
 ·simp [hl] at h h';rw [h] at h';cases h'
 ·simp [Array.getElem?_eq_none (Nat.le_of_not_lt hl)] at h'
theorem za {L:Array Bool}{j:Nat}(hne:i≠j)(h:(L.setIfInBounds i true).getD j false=true):L.getD j false=true:=by rwa [getD_set_ne false hne] at h
theorem zaA {L:Array Bool}(h:L.getD i true=false):(L.setIfInBounds i true).getD i false=true:=by
 have hl:i<L.size:=by
  by_cases hl:i<L.size
  ·exact hl
  ·simp [Array.getElem?_eq_none (Nat.le_of_not_lt hl)] at h
 simp [hl]
theorem R2.later{L:Array Bool}{rg rx ry:Nm}(R:R2 w W L a0 a1 b0 b1 rg rx ry g x y vb b c7 c8 c9 c19 c20 c21 c22 c23 c24)(hb:Below W.heap.size W W'):R2 w W' L a0 a1 b0 b1 rg rx ry g x y vb b c7 c8 c9 c19 c20 c21 c22 c23 c24 where
 pre:=R.pre.later hb
 f19:=R.f19
 f20:=fun h=>by obtain⟨r,e,hn⟩:=R.f20 h;exact⟨r,e,hn.below hb zL⟩
 f21:=fun h=>by obtain⟨r,e,hn⟩:=R.f21 h;exact⟨r,e,hn.below hb zL⟩
 f22:=R.f22
 f23:=R.f23
 f24:=fun h=>by obtain⟨r,e,hn⟩:=R.f24 h;exact⟨r,e,hn.below hb zL⟩
 f7:=fun h=>by obtain⟨B,r,z,e,hB,hv,hz⟩:=R.f7 h;exact⟨B,r,z,e,hB,hv.later hb,hz⟩
 f8:=fun h=>by obtain⟨B,r,z,e,hB,hv,hz⟩:=R.f8 h;exact⟨B,r,z,e,hB,hv.later hb,hz⟩
 f9:=fun h=>by obtain⟨B,r,z,e,hB,hv,hz⟩:=R.f9 h;exact⟨B,r,z,e,hB,hv.later hb,hz⟩
 d78:=R.d78
 d79:=R.d79
 d89:=R.d89
 o9:=R.o9
 o10:=R.o10
 o11:=R.o11
theorem R2.at0{L:Array Bool}{rg rx ry:Nm}(R:R2 w W L a0 a1 b0 b1 rg rx ry g x y vb b c7 c8 c9 c19 c20 c21 c22 c23 c24){v:Value}(hv:v=vb):R2 w W (L.setIfInBounds 0 true) a0 a1 b0 b1 rg rx ry g x y vb b c7 c8 c9 v c20 c21 c22 c23 c24 where
 pre:=R.pre
 f19:=fun _=>hv
 f20:=fun h=>R.f20 (za (by decide) h)
 f21:=fun h=>R.f21 (za (by decide) h)
 f22:=fun h=>R.f22 (za (by decide) h)
 f23:=fun h=>R.f23 (za (by decide) h)
 f24:=fun h=>R.f24 (za (by decide) h)
 f7:=fun h=>by obtain⟨B,r,z,e,hB,hv,hz⟩:=R.f7 (za (by decide) h);exact⟨B,r,z,e,hB,hv,fun h'=>hz (za (by decide) h')⟩
 f8:=fun h=>by obtain⟨B,r,z,e,hB,hv,hz⟩:=R.f8 (za (by decide) h);exact⟨B,r,z,e,hB,hv,fun h'=>hz (za (by decide) h')⟩
 f9:=fun h=>by obtain⟨B,r,z,e,hB,hv,hz⟩:=R.f9 (za (by decide) h);exact⟨B,r,z,e,hB,hv,fun h'=>hz (za (by decide) h')⟩
 d78:=fun h h'=>R.d78 (za (by decide) h) (za (by decide) h')
 d79:=fun h h'=>R.d79 (za (by decide) h) (za (by decide) h')
 d89:=fun h h'=>R.d89 (za (by decide) h) (za (by decide) h')
 o9:=fun h=>by rw [getD_set_ne false (by decide)];exact R.o9 (za (by decide) h)
 o10:=fun h=>by rw [getD_set_ne false (by decide)];exact R.o10 (za (by decide) h)
 o11:=fun h=>by rw [getD_set_ne false (by decide)];exact R.o11 (za (by decide) h)
theorem R2.at3{L:Array Bool}{rg rx ry:Nm}(R:R2 w W L a0 a1 b0 b1 rg rx ry g x y vb b c7 c8 c9 c19 c20 c21 c22 c23 c24){v:Value}(hv:v=vb):R2 w W (L.setIfInBounds 3 true) a0 a1 b0 b1 rg rx ry g x y vb b c7 c8 c9 c19 c20 c21 v c23 c24 where
 pre:=R.pre
 f19:=fun h=>R.f19 (za (by decide) h)
 f20:=fun h=>R.f20 (za (by decide) h)
 f21:=fun h=>R.f21 (za (by decide) h)
 f22:=fun _=>hv
 f23:=fun h=>R.f23 (za (by decide) h)
 f24:=fun h=>R.f24 (za (by decide) h)
 f7:=fun h=>by obtain⟨B,r,z,e,hB,hv,hz⟩:=R.f7 (za (by decide) h);exact⟨B,r,z,e,hB,hv,fun h'=>hz (za (by decide) h')⟩
 f8:=fun h=>by obtain⟨B,r,z,e,hB,hv,hz⟩:=R.f8 (za (by decide) h);exact⟨B,r,z,e,hB,hv,fun h'=>hz (za (by decide) h')⟩
 f9:=fun h=>by obtain⟨B,r,z,e,hB,hv,hz⟩:=R.f9 (za (by decide) h);exact⟨B,r,z,e,hB,hv,fun h'=>hz (za (by decide) h')⟩
 d78:=fun h h'=>R.d78 (za (by decide) h) (za (by decide) h')
 d79:=fun h h'=>R.d79 (za (by decide) h) (za (by decide) h')
 d89:=fun h h'=>R.d89 (za (by decide) h) (za (by decide) h')
 o9:=fun h=>by rw [getD_set_ne false (by decide)];exact R.o9 (za (by decide) h)
 o10:=fun h=>by rw [getD_set_ne false (by decide)];exact R.o10 (za (by decide) h)
 o11:=fun h=>by rw [getD_set_ne false (by decide)];exact R.o11 (za (by decide) h)
theorem R2.at1{L:Array Bool}{rg rx ry:Nm}(R:R2 w W L a0 a1 b0 b1 rg rx ry g x y vb b c7 c8 c9 c19 c20 c21 c22 c23 c24){v:Value}(hv:∃ r:Nm,v=r.v∧NumL W r.v (ab b) 12):R2 w W (L.setIfInBounds 1 true) a0 a1 b0 b1 rg rx ry g x y vb b c7 c8 c9 c19 v c21 c22 c23 c24 where
 pre:=R.pre
 f19:=fun h=>R.f19 (za (by decide) h)
 f20:=fun _=>hv
 f21:=fun h=>R.f21 (za (by decide) h)
 f22:=fun h=>R.f22 (za (by decide) h)
 f23:=fun h=>R.f23 (za (by decide) h)
 f24:=fun h=>R.f24 (za (by decide) h)
 f7:=fun h=>by obtain⟨B,r,z,e,hB,hv,hz⟩:=R.f7 (za (by decide) h);exact⟨B,r,z,e,hB,hv,fun h'=>hz (za (by decide) h')⟩
 f8:=fun h=>by obtain⟨B,r,z,e,hB,hv,hz⟩:=R.f8 (za (by decide) h);exact⟨B,r,z,e,hB,hv,fun h'=>hz (za (by decide) h')⟩
 f9:=fun h=>by obtain⟨B,r,z,e,hB,hv,hz⟩:=R.f9 (za (by decide) h);exact⟨B,r,z,e,hB,hv,fun h'=>hz (za (by decide) h')⟩
 d78:=fun h h'=>R.d78 (za (by decide) h) (za (by decide) h')
 d79:=fun h h'=>R.d79 (za (by decide) h) (za (by decide) h')
 d89:=fun h h'=>R.d89 (za (by decide) h) (za (by decide) h')
 o9:=fun h=>by rw [getD_set_ne false (by decide)];exact R.o9 (za (by decide) h)
 o10:=fun h=>by rw [getD_set_ne false (by decide)];exact R.o10 (za (by decide) h)
 o11:=fun h=>by rw [getD_set_ne false (by decide)];exact R.o11 (za (by decide) h)
theorem R2.at2{L:Array Bool}{rg rx ry:Nm}(R:R2 w W L a0 a1 b0 b1 rg rx ry g x y vb b c7 c8 c9 c19 c20 c21 c22 c23 c24){v:Value}(hv:∃ r:Nm,v=r.v∧NumL W r.v 0 12):R2 w W (L.setIfInBounds 2 true) a0 a1 b0 b1 rg rx ry g x y vb b c7 c8 c9 c19 c20 v c22 c23 c24 where
 pre:=R.pre
 f19:=fun h=>R.f19 (za (by decide) h)
 f20:=fun h=>R.f20 (za (by decide) h)
 f21:=fun _=>hv
 f22:=fun h=>R.f22 (za (by decide) h)
 f23:=fun h=>R.f23 (za (by decide) h)
 f24:=fun h=>R.f24 (za (by decide) h)
 f7:=fun h=>by obtain⟨B,r,z,e,hB,hv,hz⟩:=R.f7 (za (by decide) h);exact⟨B,r,z,e,hB,hv,fun h'=>hz (za (by decide) h')⟩
 f8:=fun h=>by obtain⟨B,r,z,e,hB,hv,hz⟩:=R.f8 (za (by decide) h);exact⟨B,r,z,e,hB,hv,fun h'=>hz (za (by decide) h')⟩
 f9:=fun h=>by obtain⟨B,r,z,e,hB,hv,hz⟩:=R.f9 (za (by decide) h);exact⟨B,r,z,e,hB,hv,fun h'=>hz (za (by decide) h')⟩
 d78:=fun h h'=>R.d78 (za (by decide) h) (za (by decide) h')
 d79:=fun h h'=>R.d79 (za (by decide) h) (za (by decide) h')
 d89:=fun h h'=>R.d89 (za (by decide) h) (za (by decide) h')
 o9:=fun h=>by rw [getD_set_ne false (by decide)];exact R.o9 (za (by decide) h)
 o10:=fun h=>by rw [getD_set_ne false (by decide)];exact R.o10 (za (by decide) h)
 o11:=fun h=>by rw [getD_set_ne false (by decide)];exact R.o11 (za (by decide) h)
theorem R2.at4{L:Array Bool}{rg rx ry:Nm}(R:R2 w W L a0 a1 b0 b1 rg rx ry g x y vb b c7 c8 c9 c19 c20 c21 c22 c23 c24){v:Value}(hv:v=.int .i64 (sgn b)):R2 w W (L.setIfInBounds 4 true) a0 a1 b0 b1 rg rx ry g x y vb b c7 c8 c9 c19 c20 c21 c22 v c24 where
 pre:=R.pre
 f19:=fun h=>R.f19 (za (by decide) h)
 f20:=fun h=>R.f20 (za (by decide) h)
 f21:=fun h=>R.f21 (za (by decide) h)
 f22:=fun h=>R.f22 (za (by decide) h)
 f23:=fun _=>hv
 f24:=fun h=>R.f24 (za (by decide) h)
 f7:=fun h=>by obtain⟨B,r,z,e,hB,hv,hz⟩:=R.f7 (za (by decide) h);exact⟨B,r,z,e,hB,hv,fun h'=>hz (za (by decide) h')⟩
 f8:=fun h=>by obtain⟨B,r,z,e,hB,hv,hz⟩:=R.f8 (za (by decide) h);exact⟨B,r,z,e,hB,hv,fun h'=>hz (za (by decide) h')⟩
 f9:=fun h=>by obtain⟨B,r,z,e,hB,hv,hz⟩:=R.f9 (za (by decide) h);exact⟨B,r,z,e,hB,hv,fun h'=>hz (za (by decide) h')⟩
 d78:=fun h h'=>R.d78 (za (by decide) h) (za (by decide) h')
 d79:=fun h h'=>R.d79 (za (by decide) h) (za (by decide) h')
 d89:=fun h h'=>R.d89 (za (by decide) h) (za (by decide) h')
 o9:=fun h=>by rw [getD_set_ne false (by decide)];exact R.o9 (za (by decide) h)
 o10:=fun h=>by rw [getD_set_ne false (by decide)];exact R.o10 (za (by decide) h)
 o11:=fun h=>by rw [getD_set_ne false (by decide)];exact R.o11 (za (by decide) h)
theorem R2.at5{L:Array Bool}{rg rx ry:Nm}(R:R2 w W L a0 a1 b0 b1 rg rx ry g x y vb b c7 c8 c9 c19 c20 c21 c22 c23 c24){v:Value}(hv:∃ r:Nm,v=r.v∧NumL W r.v (sgn b) 12):R2 w W (L.setIfInBounds 5 true) a0 a1 b0 b1 rg rx ry g x y vb b c7 c8 c9 c19 c20 c21 c22 c23 v where
 pre:=R.pre
 f19:=fun h=>R.f19 (za (by decide) h)
 f20:=fun h=>R.f20 (za (by decide) h)
 f21:=fun h=>R.f21 (za (by decide) h)
 f22:=fun h=>R.f22 (za (by decide) h)
 f23:=fun h=>R.f23 (za (by decide) h)
 f24:=fun _=>hv
 f7:=fun h=>by obtain⟨B,r,z,e,hB,hv,hz⟩:=R.f7 (za (by decide) h);exact⟨B,r,z,e,hB,hv,fun h'=>hz (za (by decide) h')⟩
 f8:=fun h=>by obtain⟨B,r,z,e,hB,hv,hz⟩:=R.f8 (za (by decide) h);exact⟨B,r,z,e,hB,hv,fun h'=>hz (za (by decide) h')⟩
 f9:=fun h=>by obtain⟨B,r,z,e,hB,hv,hz⟩:=R.f9 (za (by decide) h);exact⟨B,r,z,e,hB,hv,fun h'=>hz (za (by decide) h')⟩
 d78:=fun h h'=>R.d78 (za (by decide) h) (za (by decide) h')
 d79:=fun h h'=>R.d79 (za (by decide) h) (za (by decide) h')
 d89:=fun h h'=>R.d89 (za (by decide) h) (za (by decide) h')
 o9:=fun h=>by rw [getD_set_ne false (by decide)];exact R.o9 (za (by decide) h)
 o10:=fun h=>by rw [getD_set_ne false (by decide)];exact R.o10 (za (by decide) h)
 o11:=fun h=>by rw [getD_set_ne false (by decide)];exact R.o11 (za (by decide) h)
theorem R2.at6{L:Array Bool}{rg rx ry:Nm}(R0:R2 w W L a0 a1 b0 b1 rg rx ry g x y vb b c7 c8 c9 c19 c20 c21 c22 c23 c24)(t:TypeId)(hn:L.getD 6 true=false):R2 w (W.alloc (.cells #[.bool false,.slice none 0 0] t)) (L.setIfInBounds 6 true) a0 a1 b0 b1 rg rx ry g x y vb b (ptr W.heap.size) c8 c9 c19 c20 c21 c22 c23 c24:=
 have R:=R0.later ((zB W.heap.size W).alloc zL (.cells #[.bool false,.slice none 0 0] t))
 {pre:=R.pre
  f19:=fun h=>R.f19 (za (by decide) h)
  f20:=fun h=>R.f20 (za (by decide) h)
  f21:=fun h=>R.f21 (za (by decide) h)
  f22:=fun h=>R.f22 (za (by decide) h)
  f23:=fun h=>R.f23 (za (by decide) h)
  f24:=fun h=>R.f24 (za (by decide) h)
  f7:=fun _=>⟨W.heap.size,⟨false,none,0,0⟩,0,rfl,by have:=R0.pre.y.lt;omega,⟨zl W _ _ t _ rfl,zY _,by simp⟩,fun h=>absurd (R0.o9 (za (by decide) h)) (zt hn)⟩
  f8:=fun h=>by obtain⟨B,r,z,e,hB,hv,hz⟩:=R.f8 (za (by decide) h);exact⟨B,r,z,e,hB,hv,fun h'=>hz (za (by decide) h')⟩
  f9:=fun h=>by obtain⟨B,r,z,e,hB,hv,hz⟩:=R.f9 (za (by decide) h);exact⟨B,r,z,e,hB,hv,fun h'=>hz (za (by decide) h')⟩
  d78:=fun h h' e=>by obtain⟨B,r,z,e',-,hv,-⟩:=R0.f8 (za (by decide) h');rw [e'] at e;simp at e;have:=hv.lt;omega
  d79:=fun h h' e=>by obtain⟨B,r,z,e',-,hv,-⟩:=R0.f9 (za (by decide) h');rw [e'] at e;simp at e;have:=hv.lt;omega
  d89:=fun h h'=>R.d89 (za (by decide) h) (za (by decide) h')
  o9:=fun h=>absurd (R0.o9 (za (by decide) h)) (zt hn)
  o10:=fun h=>by rw [getD_set_ne false (by decide)];exact R.o10 (za (by decide) h)
  o11:=fun h=>by rw [getD_set_ne false (by decide)];exact R.o11 (za (by decide) h) }
theorem R2.at7{L:Array Bool}{rg rx ry:Nm}(R0:R2 w W L a0 a1 b0 b1 rg rx ry g x y vb b c7 c8 c9 c19 c20 c21 c22 c23 c24)(t:TypeId)(hn:L.getD 7 true=false):R2 w (W.alloc (.cells #[.bool false,.slice none 0 0] t)) (L.setIfInBounds 7 true) a0 a1 b0 b1 rg rx ry g x y vb b c7 (ptr W.heap.size) c9 c19 c20 c21 c22 c23 c24:=
 have R:=R0.later ((zB W.heap.size W).alloc zL (.cells #[.bool false,.slice none 0 0] t))
 {pre:=R.pre
  f19:=fun h=>R.f19 (za (by decide) h)
  f20:=fun h=>R.f20 (za (by decide) h)
  f21:=fun h=>R.f21 (za (by decide) h)
  f22:=fun h=>R.f22 (za (by decide) h)
  f23:=fun h=>R.f23 (za (by decide) h)
  f24:=fun h=>R.f24 (za (by decide) h)
  f7:=fun h=>by obtain⟨B,r,z,e,hB,hv,hz⟩:=R.f7 (za (by decide) h);exact⟨B,r,z,e,hB,hv,fun h'=>hz (za (by decide) h')⟩
  f8:=fun _=>⟨W.heap.size,⟨false,none,0,0⟩,0,rfl,by have:=R0.pre.y.lt;omega,⟨zl W _ _ t _ rfl,zY _,by simp⟩,fun h=>absurd (R0.o10 (za (by decide) h)) (zt hn)⟩
  f9:=fun h=>by obtain⟨B,r,z,e,hB,hv,hz⟩:=R.f9 (za (by decide) h);exact⟨B,r,z,e,hB,hv,fun h'=>hz (za (by decide) h')⟩
  d78:=fun h h' e=>by obtain⟨B,r,z,e',-,hv,-⟩:=R0.f7 (za (by decide) h);rw [e'] at e;simp at e;have:=hv.lt;omega
  d79:=fun h h'=>R.d79 (za (by decide) h) (za (by decide) h')
  d89:=fun h h' e=>by obtain⟨B,r,z,e',-,hv,-⟩:=R0.f9 (za (by decide) h');rw [e'] at e;simp at e;have:=hv.lt;omega
  o9:=fun h=>by rw [getD_set_ne false (by decide)];exact R.o9 (za (by decide) h)
  o10:=fun h=>absurd (R0.o10 (za (by decide) h)) (zt hn)
  o11:=fun h=>by rw [getD_set_ne false (by decide)];exact R.o11 (za (by decide) h) }
theorem R2.at8{L:Array Bool}{rg rx ry:Nm}(R0:R2 w W L a0 a1 b0 b1 rg rx ry g x y vb b c7 c8 c9 c19 c20 c21 c22 c23 c24)(t:TypeId)(hn:L.getD 8 true=false):R2 w (W.alloc (.cells #[.bool false,.slice none 0 0] t)) (L.setIfInBounds 8 true) a0 a1 b0 b1 rg rx ry g x y vb b c7 c8 (ptr W.heap.size) c19 c20 c21 c22 c23 c24:=
 have R:=R0.later ((zB W.heap.size W).alloc zL (.cells #[.bool false,.slice none 0 0] t))
 {pre:=R.pre
  f19:=fun h=>R.f19 (za (by decide) h)
  f20:=fun h=>R.f20 (za (by decide) h)
  f21:=fun h=>R.f21 (za (by decide) h)
  f22:=fun h=>R.f22 (za (by decide) h)
  f23:=fun h=>R.f23 (za (by decide) h)
  f24:=fun h=>R.f24 (za (by decide) h)
  f7:=fun h=>by obtain⟨B,r,z,e,hB,hv,hz⟩:=R.f7 (za (by decide) h);exact⟨B,r,z,e,hB,hv,fun h'=>hz (za (by decide) h')⟩
  f8:=fun h=>by obtain⟨B,r,z,e,hB,hv,hz⟩:=R.f8 (za (by decide) h);exact⟨B,r,z,e,hB,hv,fun h'=>hz (za (by decide) h')⟩
  f9:=fun _=>⟨W.heap.size,⟨false,none,0,0⟩,0,rfl,by have:=R0.pre.y.lt;omega,⟨zl W _ _ t _ rfl,zY _,by simp⟩,fun h=>absurd (R0.o11 (za (by decide) h)) (zt hn)⟩
  d78:=fun h h'=>R.d78 (za (by decide) h) (za (by decide) h')
  d79:=fun h h' e=>by obtain⟨B,r,z,e',-,hv,-⟩:=R0.f7 (za (by decide) h);rw [e'] at e;simp at e;have:=hv.lt;omega
  d89:=fun h h' e=>by obtain⟨B,r,z,e',-,hv,-⟩:=R0.f8 (za (by decide) h);rw [e'] at e;simp at e;have:=hv.lt;omega
  o9:=fun h=>by rw [getD_set_ne false (by decide)];exact R.o9 (za (by decide) h)
  o10:=fun h=>by rw [getD_set_ne false (by decide)];exact R.o10 (za (by decide) h)
  o11:=fun h=>absurd (R0.o11 (za (by decide) h)) (zt hn) }
theorem Pre.other{rg rx ry:Nm}(h:Pre w W a0 a1 b0 b1 rg rx ry g x y){s:Nm}(hv:Var W B s z)(hB:w.heap.size+1+1+1+1<B)(v0 v1:Value):
  Pre w ((W.setCell ⟨B,0,none⟩ v0).setCell ⟨B,1,none⟩ v1) a0 a1 b0 b1 rg rx ry g x y:=
 ⟨(h.a.other (by omega) _ _).other (by omega) _ _,(h.b.other (by omega) _ _).other (by omega) _ _,h.g.other hv (by omega) _ _,h.x.other hv (by omega) _ _,h.y.other hv (by omega) _ _,(h.below.setCell (by simp;omega) _).setCell (by simp;omega) _⟩
theorem zK{A:Nat}(h:ptr A≠ptr B):A≠B:=fun e=>h (by rw [e])
theorem R2.at9{L:Array Bool}{rg rx ry:Nm}(R:R2 w W L a0 a1 b0 b1 rg rx ry g x y vb b c7 c8 c9 c19 c20 c21 c22 c23 c24)(h6:L.getD 6 false=true){r s:Nm}(e:c7=ptr B)(hB:w.heap.size+1+1+1+1<B)(hv:Var W B s z)(hnum:NumL W r.v (ab b) 12):R2 w ((W.setCell ⟨B,0,none⟩ (.bool r.neg)).setCell ⟨B,1,none⟩ (.slice r.o r.l r.c)) (L.setIfInBounds 9 true) a0 a1 b0 b1 rg rx ry g x y vb b c7 c8 c9 c19 c20 c21 c22 c23 c24 where
 pre:=R.pre.other hv hB _ _
 f19:=fun h=>R.f19 (za (by decide) h)
 f20:=fun h=>by obtain⟨q,e1,hq⟩:=R.f20 (za (by decide) h);exact⟨q,e1,hq.wrote hv.box (by simp) (by simp)⟩
 f21:=fun h=>by obtain⟨q,e1,hq⟩:=R.f21 (za (by decide) h);exact⟨q,e1,hq.wrote hv.box (by simp) (by simp)⟩
 f22:=fun h=>R.f22 (za (by decide) h)
 f23:=fun h=>R.f23 (za (by decide) h)
 f24:=fun h=>by obtain⟨q,e1,hq⟩:=R.f24 (za (by decide) h);exact⟨q,e1,hq.wrote hv.box (by simp) (by simp)⟩
 f7:=fun _=>⟨B,r,ab b,e,hB,hv.write hnum,fun _=>rfl⟩
 f8:=fun h=>by obtain⟨B',r',z',e',hB',hv',hz'⟩:=R.f8 (za (by decide) h);have hne:=R.d78 h6 (za (by decide) h);rw [e,e'] at hne;exact⟨B',r',z',e',hB',hv'.other hv (zK hne).symm _ _,fun h'=>hz' (za (by decide) h')⟩
 f9:=fun h=>by obtain⟨B',r',z',e',hB',hv',hz'⟩:=R.f9 (za (by decide) h);have hne:=R.d79 h6 (za (by decide) h);rw [e,e'] at hne;exact⟨B',r',z',e',hB',hv'.other hv (zK hne).symm _ _,fun h'=>hz' (za (by decide) h')⟩
 d78:=fun h h'=>R.d78 (za (by decide) h) (za (by decide) h')
 d79:=fun h h'=>R.d79 (za (by decide) h) (za (by decide) h')
 d89:=fun h h'=>R.d89 (za (by decide) h) (za (by decide) h')
 o9:=fun _=>by rw [getD_set_ne false (by decide)];exact h6
 o10:=fun h=>by rw [getD_set_ne false (by decide)];exact R.o10 (za (by decide) h)
 o11:=fun h=>by rw [getD_set_ne false (by decide)];exact R.o11 (za (by decide) h)
theorem R2.at10{L:Array Bool}{rg rx ry:Nm}(R:R2 w W L a0 a1 b0 b1 rg rx ry g x y vb b c7 c8 c9 c19 c20 c21 c22 c23 c24)(h6:L.getD 7 false=true){r s:Nm}(e:c8=ptr B)(hB:w.heap.size+1+1+1+1<B)(hv:Var W B s z)(hnum:NumL W r.v (0) 12):R2 w ((W.setCell ⟨B,0,none⟩ (.bool r.neg)).setCell ⟨B,1,none⟩ (.slice r.o r.l r.c)) (L.setIfInBounds 10 true) a0 a1 b0 b1 rg rx ry g x y vb b c7 c8 c9 c19 c20 c21 c22 c23 c24 where
 pre:=R.pre.other hv hB _ _
 f19:=fun h=>R.f19 (za (by decide) h)
 f20:=fun h=>by obtain⟨q,e1,hq⟩:=R.f20 (za (by decide) h);exact⟨q,e1,hq.wrote hv.box (by simp) (by simp)⟩
 f21:=fun h=>by obtain⟨q,e1,hq⟩:=R.f21 (za (by decide) h);exact⟨q,e1,hq.wrote hv.box (by simp) (by simp)⟩
 f22:=fun h=>R.f22 (za (by decide) h)
 f23:=fun h=>R.f23 (za (by decide) h)
 f24:=fun h=>by obtain⟨q,e1,hq⟩:=R.f24 (za (by decide) h);exact⟨q,e1,hq.wrote hv.box (by simp) (by simp)⟩
 f7:=fun h=>by obtain⟨B',r',z',e',hB',hv',hz'⟩:=R.f7 (za (by decide) h);have hne:=(R.d78 (za (by decide) h) h6).symm;rw [e,e'] at hne;exact⟨B',r',z',e',hB',hv'.other hv (zK hne).symm _ _,fun h'=>hz' (za (by decide) h')⟩
 f8:=fun _=>⟨B,r,0,e,hB,hv.write hnum,fun _=>rfl⟩
 f9:=fun h=>by obtain⟨B',r',z',e',hB',hv',hz'⟩:=R.f9 (za (by decide) h);have hne:=R.d89 h6 (za (by decide) h);rw [e,e'] at hne;exact⟨B',r',z',e',hB',hv'.other hv (zK hne).symm _ _,fun h'=>hz' (za (by decide) h')⟩
 d78:=fun h h'=>R.d78 (za (by decide) h) (za (by decide) h')
 d79:=fun h h'=>R.d79 (za (by decide) h) (za (by decide) h')
 d89:=fun h h'=>R.d89 (za (by decide) h) (za (by decide) h')
 o9:=fun h=>by rw [getD_set_ne false (by decide)];exact R.o9 (za (by decide) h)
 o10:=fun _=>by rw [getD_set_ne false (by decide)];exact h6
 o11:=fun h=>by rw [getD_set_ne false (by decide)];exact R.o11 (za (by decide) h)
theorem R2.at11{L:Array Bool}{rg rx ry:Nm}(R:R2 w W L a0 a1 b0 b1 rg rx ry g x y vb b c7 c8 c9 c19 c20 c21 c22 c23 c24)(h6:L.getD 8 false=true){r s:Nm}(e:c9=ptr B)(hB:w.heap.size+1+1+1+1<B)(hv:Var W B s z)(hnum:NumL W r.v (sgn b) 12):R2 w ((W.setCell ⟨B,0,none⟩ (.bool r.neg)).setCell ⟨B,1,none⟩ (.slice r.o r.l r.c)) (L.setIfInBounds 11 true) a0 a1 b0 b1 rg rx ry g x y vb b c7 c8 c9 c19 c20 c21 c22 c23 c24 where
 pre:=R.pre.other hv hB _ _
 f19:=fun h=>R.f19 (za (by decide) h)
 f20:=fun h=>by obtain⟨q,e1,hq⟩:=R.f20 (za (by decide) h);exact⟨q,e1,hq.wrote hv.box (by simp) (by simp)⟩
 f21:=fun h=>by obtain⟨q,e1,hq⟩:=R.f21 (za (by decide) h);exact⟨q,e1,hq.wrote hv.box (by simp) (by simp)⟩
 f22:=fun h=>R.f22 (za (by decide) h)
 f23:=fun h=>R.f23 (za (by decide) h)
 f24:=fun h=>by obtain⟨q,e1,hq⟩:=R.f24 (za (by decide) h);exact⟨q,e1,hq.wrote hv.box (by simp) (by simp)⟩
 f7:=fun h=>by obtain⟨B',r',z',e',hB',hv',hz'⟩:=R.f7 (za (by decide) h);have hne:=(R.d79 (za (by decide) h) h6).symm;rw [e,e'] at hne;exact⟨B',r',z',e',hB',hv'.other hv (zK hne).symm _ _,fun h'=>hz' (za (by decide) h')⟩
 f8:=fun h=>by obtain⟨B',r',z',e',hB',hv',hz'⟩:=R.f8 (za (by decide) h);have hne:=(R.d89 (za (by decide) h) h6).symm;rw [e,e'] at hne;exact⟨B',r',z',e',hB',hv'.other hv (zK hne).symm _ _,fun h'=>hz' (za (by decide) h')⟩
 f9:=fun _=>⟨B,r,sgn b,e,hB,hv.write hnum,fun _=>rfl⟩
 d78:=fun h h'=>R.d78 (za (by decide) h) (za (by decide) h')
 d79:=fun h h'=>R.d79 (za (by decide) h) (za (by decide) h')
 d89:=fun h h'=>R.d89 (za (by decide) h) (za (by decide) h')
 o9:=fun h=>by rw [getD_set_ne false (by decide)];exact R.o9 (za (by decide) h)
 o10:=fun h=>by rw [getD_set_ne false (by decide)];exact R.o10 (za (by decide) h)
 o11:=fun _=>by rw [getD_set_ne false (by decide)];exact h6
end Go.Proofs.YtncamilanceahaaGreat
