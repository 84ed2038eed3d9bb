import Derived.Test.YtnkcjkpkphjecaaGreatDoorGrowV
namespace Go.Proofs.YtnkcjkpkphjecaaGreatDoor
open Go.RowKit Limbs
structure Pre (w W:World)(a0 a1 b0 b1:Value)(rg rx ry:Nm)(g x y:Int):Prop where
 a:Box W w.heap.size a0 a1
 b:Box W (w.heap.size+1) b0 b1
 g:Var W (w.heap.size+1+1) rg g
 x:Var W (w.heap.size+1+1+1) rx x
 y:Var W (w.heap.size+1+1+1+1) ry y
 below:Below w.heap.size w W
theorem zZ (W:World):NumL W (.agg #[.bool false,.slice none 0 0]) 0 12:=⟨false,_,[],rfl,Lim.nil W,Nrm.nil,fun _=>rfl,by simp [lv],by simp⟩
theorem zfZ (w:World)(a0 a1 b0 b1:Value)(t:TypeId):Pre w (((((w.alloc (.cells #[a0,a1] t)).alloc (.cells #[b0,b1] t)).alloc (.cells #[.bool false,.slice none 0 0] t)).alloc (.cells #[.bool false,.slice none 0 0] t)).alloc (.cells #[.bool false,.slice none 0 0] t)) a0 a1 b0 b1 ⟨false,none,0,0⟩ ⟨false,none,0,0⟩ ⟨false,none,0,0⟩ 0 0 0 where
 a:=(four w a0 a1 b0 b1 _ _ _ _ t t t t).fst.later ((Below.refl _ _).alloc (by simp) _:Below (w.heap.size+4) _ _) (by omega)
 b:=(four w a0 a1 b0 b1 _ _ _ _ t t t t).snd.later ((Below.refl _ _).alloc (by simp) _:Below (w.heap.size+4) _ _) (by omega)
 g:=⟨(four w a0 a1 b0 b1 _ _ _ _ t t t t).res.later ((Below.refl _ _).alloc (by simp) _:Below (w.heap.size+4) _ _) (by omega),zZ _,by simp⟩
 x:=⟨(four w a0 a1 b0 b1 _ _ _ _ t t t t).sec.later ((Below.refl _ _).alloc (by simp) _:Below (w.heap.size+4) _ _) (by omega),zZ _,by simp⟩
 y:=⟨zg _ _ _ _ _ (by simp),zZ _,by simp⟩
 below:=(four w a0 a1 b0 b1 _ _ _ _ t t t t).below.alloc (by simp;omega) _
theorem Pre.later {w W W':World}{a0 a1 b0 b1:Value}{rg rx ry:Nm}{g x y:Int}(h:Pre w W a0 a1 b0 b1 rg rx ry g x y)(hb:Below W.heap.size W W'):Pre w W' a0 a1 b0 b1 rg rx ry g x y:=
 ⟨h.a.later hb (by have:=h.g.lt;omega),h.b.later hb (by have:=h.g.lt;omega),h.g.later hb,h.x.later hb,h.y.later hb,h.below.trans (hb.mono h.below.size)⟩
theorem Pre.drew {w W:World}{a0 a1 b0 b1:Value}{rg rx ry:Nm}{g x y:Int}(h:Pre w W a0 a1 b0 b1 rg rx ry g x y):Pre w W.drew a0 a1 b0 b1 rg rx ry g x y:=⟨h.a,h.b,h.g.drew,h.x.drew,h.y.drew,h.below.drew⟩
theorem Pre.write {w W:World}{a0 a1 b0 b1:Value}{rg rx ry r r' r'':Nm}{g x y z z' z'':Int}(h:Pre w W a0 a1 b0 b1 rg rx ry g x y)(hn:NumL W (.agg #[.bool r.neg,.slice r.o r.l r.c]) z 12)(hn':NumL W (.agg #[.bool r'.neg,.slice r'.o r'.l r'.c]) z' 12)(hn'':NumL W (.agg #[.bool r''.neg,.slice r''.o r''.l r''.c]) z'' 12):
  Pre w ((((((W.setCell ⟨w.heap.size+1+1,0,none⟩ (.bool r.neg)).setCell ⟨w.heap.size+1+1,1,none⟩ (.slice r.o r.l r.c)).setCell ⟨w.heap.size+1+1+1,0,none⟩ (.bool r'.neg)).setCell ⟨w.heap.size+1+1+1,1,none⟩ (.slice r'.o r'.l r'.c)).setCell ⟨w.heap.size+1+1+1+1,0,none⟩ (.bool r''.neg)).setCell ⟨w.heap.size+1+1+1+1,1,none⟩ (.slice r''.o r''.l r''.c)) a0 a1 b0 b1 r r' r'' z z' z'':=by
 have hx:=h.x.other h.g (by omega) (.bool r.neg) (.slice r.o r.l r.c)
 have hy:=(h.y.other h.g (by omega) (.bool r.neg) (.slice r.o r.l r.c)).other hx (by omega) (.bool r'.neg) (.slice r'.o r'.l r'.c)
 refine⟨?_,?_,((h.g.write hn).other hx (by omega) _ _).other hy (by omega) _ _,(hx.write (hn'.wrote h.g.box (by simp) (by simp))).other hy (by omega) _ _,hy.write ((hn''.wrote h.g.box (by simp) (by simp)).wrote hx.box (by simp) (by simp)),?_⟩
 ·exact(((((h.a.other (by omega) _ _).other (by omega) _ _).other (by omega) _ _).other (by omega) _ _).other (by omega) _ _).other (by omega) _ _
 ·exact(((((h.b.other (by omega) _ _).other (by omega) _ _).other (by omega) _ _).other (by omega) _ _).other (by omega) _ _).other (by omega) _ _
 ·exact(((((h.below.setCell (by simp;omega) _).setCell (by simp;omega) _).setCell (by simp;omega) _).setCell (by simp;omega) _).setCell (by simp;omega) _).setCell (by simp;omega) _
theorem zaM {W:World}{p:Addr}{u:Value}(h:W.cell? p=some u)(o:Obj):(W.alloc o).cell? p=some u:=(World.cell?_alloc_some W p o (by rw [h];rfl)).trans h
theorem zhh {W:World}{p:Addr}{u:Value}(h:W.cell? p=some u)(o1 o2 o3:Obj):(((W.alloc o1).alloc o2).alloc o3).cell? p=some u:=zaM (zaM (zaM h o1) o2) o3
theorem zbX (z:Int):-9223372036854775808≤sgn z∧sgn z≤9223372036854775807:=by
 unfold sgn
 repeat' split
 all_goals decide
@[reducible] def Nm.v (r:Nm):Value:=.agg #[.bool r.neg,.slice r.o r.l r.c]
@[reducible] def ptr (B:Nat):Value:=.pointer (some ⟨B,0,none⟩)
structure R2 (w W:World)(L:Array Bool)(a0 a1 b0 b1:Value)(rg rx ry:Nm)(g x y:Int)(vb:Value)(b:Int)(c7 c8 c9 c19 c20 c21 c22 c23 c24:Value):Prop where
 pre:Pre w W a0 a1 b0 b1 rg rx ry g x y
 f19:L.getD 0 false=true→c19=vb
 f20:L.getD 1 false=true→∃ r:Nm,c20=r.v∧NumL W r.v (ab b) 12
 f21:L.getD 2 false=true→∃ r:Nm,c21=r.v∧NumL W r.v 0 12
 f22:L.getD 3 false=true→c22=vb
 f23:L.getD 4 false=true→c23=.int .i64 (sgn b)
 f24:L.getD 5 false=true→∃ r:Nm,c24=r.v∧NumL W r.v (sgn b) 12
 f7:L.getD 6 false=true→∃ B r z,c7=ptr B∧w.heap.size+1+1+1+1 < B∧Var W B r z∧(L.getD 9 false=true→z=ab b)
 f8:L.getD 7 false=true→∃ B r z,c8=ptr B∧w.heap.size+1+1+1+1 < B∧Var W B r z∧(L.getD 10 false=true→z=0)
 f9:L.getD 8 false=true→∃ B r z,c9=ptr B∧w.heap.size+1+1+1+1 < B∧Var W B r z∧(L.getD 11 false=true→z=sgn b)
 d78:L.getD 6 false=true→L.getD 7 false=true→c7≠c8
 d79:L.getD 6 false=true→L.getD 8 false=true→c7≠c9
 d89:L.getD 7 false=true→L.getD 8 false=true→c8≠c9
 o9:L.getD 9 false=true→L.getD 6 false=true
 o10:L.getD 10 false=true→L.getD 7 false=true
 o11:L.getD 11 false=true→L.getD 8 false=true
theorem zO {L:Array Bool}{i:Nat}(h:L.getD i true=false):¬ L.getD i false=true:=fun h'=>by
 by_cases hl:i < L.size
 ·simp [hl] at h h';rw [h] at h';cases h'
 ·simp [Array.getElem?_eq_none (Nat.le_of_not_lt hl)] at h'
theorem za {L:Array Bool}{i j:Nat}(hne:i≠j)(h:(L.setIfInBounds i true).getD j false=true):L.getD j false=true:=by rwa [getD_set_ne false hne] at h
theorem zdF {L:Array Bool}{i:Nat}(h:L.getD i true=false):(L.setIfInBounds i true).getD i false=true:=by
 have hl:i < L.size:=by
  by_cases hl:i < L.size
  ·exact hl
  ·simp [Array.getElem?_eq_none (Nat.le_of_not_lt hl)] at h
 simp [hl]
theorem R2.later {w W:World}{L:Array Bool}{a0 a1 b0 b1:Value}{rg rx ry:Nm}{g x y:Int}{vb:Value}{b:Int}{c7 c8 c9 c19 c20 c21 c22 c23 c24:Value}{W':World}(R:R2 w W L a0 a1 b0 b1 rg rx ry g x y vb b c7 c8 c9 c19 c20 c21 c22 c23 c24)(hb:Below W.heap.size W W'):R2 w W' L a0 a1 b0 b1 rg rx ry g x y vb b c7 c8 c9 c19 c20 c21 c22 c23 c24 where
 pre:=R.pre.later hb
 f19:=R.f19
 f20:=fun h=>by obtain⟨r,e,hn⟩:=R.f20 h;exact⟨r,e,hn.below hb zL⟩
 f21:=fun h=>by obtain⟨r,e,hn⟩:=R.f21 h;exact⟨r,e,hn.below hb zL⟩
 f22:=R.f22
 f23:=R.f23
 f24:=fun h=>by obtain⟨r,e,hn⟩:=R.f24 h;exact⟨r,e,hn.below hb zL⟩
 f7:=fun h=>by obtain⟨B,r,z,e,hB,hv,hz⟩:=R.f7 h;exact⟨B,r,z,e,hB,hv.later hb,hz⟩
 f8:=fun h=>by obtain⟨B,r,z,e,hB,hv,hz⟩:=R.f8 h;exact⟨B,r,z,e,hB,hv.later hb,hz⟩
 f9:=fun h=>by obtain⟨B,r,z,e,hB,hv,hz⟩:=R.f9 h;exact⟨B,r,z,e,hB,hv.later hb,hz⟩
 d78:=R.d78
 d79:=R.d79
 d89:=R.d89
 o9:=R.o9
 o10:=R.o10
 o11:=R.o11
theorem R2.at0 {w W:World}{L:Array Bool}{a0 a1 b0 b1:Value}{rg rx ry:Nm}{g x y:Int}{vb:Value}{b:Int}{c7 c8 c9 c19 c20 c21 c22 c23 c24:Value}(R:R2 w W L a0 a1 b0 b1 rg rx ry g x y vb b c7 c8 c9 c19 c20 c21 c22 c23 c24){v:Value}(hv:v=vb):R2 w W (L.setIfInBounds 0 true) a0 a1 b0 b1 rg rx ry g x y vb b c7 c8 c9 v c20 c21 c22 c23 c24 where
 pre:=R.pre
 f19:=fun _=>hv
 f20:=fun h=>R.f20 (za (by decide) h)
 f21:=fun h=>R.f21 (za (by decide) h)
 f22:=fun h=>R.f22 (za (by decide) h)
 f23:=fun h=>R.f23 (za (by decide) h)
 f24:=fun h=>R.f24 (za (by decide) h)
 f7:=fun h=>by obtain⟨B,r,z,e,hB,hv,hz⟩:=R.f7 (za (by decide) h);exact⟨B,r,z,e,hB,hv,fun h'=>hz (za (by decide) h')⟩
 f8:=fun h=>by obtain⟨B,r,z,e,hB,hv,hz⟩:=R.f8 (za (by decide) h);exact⟨B,r,z,e,hB,hv,fun h'=>hz (za (by decide) h')⟩
 f9:=fun h=>by obtain⟨B,r,z,e,hB,hv,hz⟩:=R.f9 (za (by decide) h);exact⟨B,r,z,e,hB,hv,fun h'=>hz (za (by decide) h')⟩
 d78:=fun h h'=>R.d78 (za (by decide) h) (za (by decide) h')
 d79:=fun h h'=>R.d79 (za (by decide) h) (za (by decide) h')
 d89:=fun h h'=>R.d89 (za (by decide) h) (za (by decide) h')
 o9:=fun h=>by rw [getD_set_ne false (by decide)];exact R.o9 (za (by decide) h)
 o10:=fun h=>by rw [getD_set_ne false (by decide)];exact R.o10 (za (by decide) h)
 o11:=fun h=>by rw [getD_set_ne false (by decide)];exact R.o11 (za (by decide) h)
theorem R2.at3 {w W:World}{L:Array Bool}{a0 a1 b0 b1:Value}{rg rx ry:Nm}{g x y:Int}{vb:Value}{b:Int}{c7 c8 c9 c19 c20 c21 c22 c23 c24:Value}(R:R2 w W L a0 a1 b0 b1 rg rx ry g x y vb b c7 c8 c9 c19 c20 c21 c22 c23 c24){v:Value}(hv:v=vb):R2 w W (L.setIfInBounds 3 true) a0 a1 b0 b1 rg rx ry g x y vb b c7 c8 c9 c19 c20 c21 v c23 c24 where
 pre:=R.pre
 f19:=fun h=>R.f19 (za (by decide) h)
 f20:=fun h=>R.f20 (za (by decide) h)
 f21:=fun h=>R.f21 (za (by decide) h)
 f22:=fun _=>hv
 f23:=fun h=>R.f23 (za (by decide) h)
 f24:=fun h=>R.f24 (za (by decide) h)
 f7:=fun h=>by obtain⟨B,r,z,e,hB,hv,hz⟩:=R.f7 (za (by decide) h);exact⟨B,r,z,e,hB,hv,fun h'=>hz (za (by decide) h')⟩
 f8:=fun h=>by obtain⟨B,r,z,e,hB,hv,hz⟩:=R.f8 (za (by decide) h);exact⟨B,r,z,e,hB,hv,fun h'=>hz (za (by decide) h')⟩
 f9:=fun h=>by obtain⟨B,r,z,e,hB,hv,hz⟩:=R.f9 (za (by decide) h);exact⟨B,r,z,e,hB,hv,fun h'=>hz (za (by decide) h')⟩
 d78:=fun h h'=>R.d78 (za (by decide) h) (za (by decide) h')
 d79:=fun h h'=>R.d79 (za (by decide) h) (za (by decide) h')
 d89:=fun h h'=>R.d89 (za (by decide) h) (za (by decide) h')
 o9:=fun h=>by rw [getD_set_ne false (by decide)];exact R.o9 (za (by decide) h)
 o10:=fun h=>by rw [getD_set_ne false (by decide)];exact R.o10 (za (by decide) h)
 o11:=fun h=>by rw [getD_set_ne false (by decide)];exact R.o11 (za (by decide) h)
theorem R2.at1 {w W:World}{L:Array Bool}{a0 a1 b0 b1:Value}{rg rx ry:Nm}{g x y:Int}{vb:Value}{b:Int}{c7 c8 c9 c19 c20 c21 c22 c23 c24:Value}(R:R2 w W L a0 a1 b0 b1 rg rx ry g x y vb b c7 c8 c9 c19 c20 c21 c22 c23 c24){v:Value}(hv:∃ r:Nm,v=r.v∧NumL W r.v (ab b) 12):R2 w W (L.setIfInBounds 1 true) a0 a1 b0 b1 rg rx ry g x y vb b c7 c8 c9 c19 v c21 c22 c23 c24 where
 pre:=R.pre
 f19:=fun h=>R.f19 (za (by decide) h)
 f20:=fun _=>hv
 f21:=fun h=>R.f21 (za (by decide) h)
 f22:=fun h=>R.f22 (za (by decide) h)
 f23:=fun h=>R.f23 (za (by decide) h)
 f24:=fun h=>R.f24 (za (by decide) h)
 f7:=fun h=>by obtain⟨B,r,z,e,hB,hv,hz⟩:=R.f7 (za (by decide) h);exact⟨B,r,z,e,hB,hv,fun h'=>hz (za (by decide) h')⟩
 f8:=fun h=>by obtain⟨B,r,z,e,hB,hv,hz⟩:=R.f8 (za (by decide) h);exact⟨B,r,z,e,hB,hv,fun h'=>hz (za (by decide) h')⟩
 f9:=fun h=>by obtain⟨B,r,z,e,hB,hv,hz⟩:=R.f9 (za (by decide) h);exact⟨B,r,z,e,hB,hv,fun h'=>hz (za (by decide) h')⟩
 d78:=fun h h'=>R.d78 (za (by decide) h) (za (by decide) h')
 d79:=fun h h'=>R.d79 (za (by decide) h) (za (by decide) h')
 d89:=fun h h'=>R.d89 (za (by decide) h) (za (by decide) h')
 o9:=fun h=>by rw [getD_set_ne false (by decide)];exact R.o9 (za (by decide) h)
 o10:=fun h=>by rw [getD_set_ne false (by decide)];exact R.o10 (za (by decide) h)
 o11:=fun h=>by rw [getD_set_ne false (by decide)];exact R.o11 (za (by decide) h)
theorem R2.at2 {w W:World}{L:Array Bool}{a0 a1 b0 b1:Value}{rg rx ry:Nm}{g x y:Int}{vb:Value}{b:Int}{c7 c8 c9 c19 c20 c21 c22 c23 c24:Value}(R:R2 w W L a0 a1 b0 b1 rg rx ry g x y vb b c7 c8 c9 c19 c20 c21 c22 c23 c24){v:Value}(hv:∃ r:Nm,v=r.v∧NumL W r.v 0 12):R2 w W (L.setIfInBounds 2 true) a0 a1 b0 b1 rg rx ry g x y vb b c7 c8 c9 c19 c20 v c22 c23 c24 where
 pre:=R.pre
 f19:=fun h=>R.f19 (za (by decide) h)
 f20:=fun h=>R.f20 (za (by decide) h)
 f21:=fun _=>hv
 f22:=fun h=>R.f22 (za (by decide) h)
 f23:=fun h=>R.f23 (za (by decide) h)
 f24:=fun h=>R.f24 (za (by decide) h)
 f7:=fun h=>by obtain⟨B,r,z,e,hB,hv,hz⟩:=R.f7 (za (by decide) h);exact⟨B,r,z,e,hB,hv,fun h'=>hz (za (by decide) h')⟩
 f8:=fun h=>by obtain⟨B,r,z,e,hB,hv,hz⟩:=R.f8 (za (by decide) h);exact⟨B,r,z,e,hB,hv,fun h'=>hz (za (by decide) h')⟩
 f9:=fun h=>by obtain⟨B,r,z,e,hB,hv,hz⟩:=R.f9 (za (by decide) h);exact⟨B,r,z,e,hB,hv,fun h'=>hz (za (by decide) h')⟩
 d78:=fun h h'=>R.d78 (za (by decide) h) (za (by decide) h')
 d79:=fun h h'=>R.d79 (za (by decide) h) (za (by decide) h')
 d89:=fun h h'=>R.d89 (za (by decide) h) (za (by decide) h')
 o9:=fun h=>by rw [getD_set_ne false (by decide)];exact R.o9 (za (by decide) h)
 o10:=fun h=>by rw [getD_set_ne false (by decide)];exact R.o10 (za (by decide) h)
 o11:=fun h=>by rw [getD_set_ne false (by decide)];exact R.o11 (za (by decide) h)
theorem R2.at4 {w W:World}{L:Array Bool}{a0 a1 b0 b1:Value}{rg rx ry:Nm}{g x y:Int}{vb:Value}{b:Int}{c7 c8 c9 c19 c20 c21 c22 c23 c24:Value}(R:R2 w W L a0 a1 b0 b1 rg rx ry g x y vb b c7 c8 c9 c19 c20 c21 c22 c23 c24){v:Value}(hv:v=.int .i64 (sgn b)):R2 w W (L.setIfInBounds 4 true) a0 a1 b0 b1 rg rx ry g x y vb b c7 c8 c9 c19 c20 c21 c22 v c24 where
 pre:=R.pre
 f19:=fun h=>R.f19 (za (by decide) h)
 f20:=fun h=>R.f20 (za (by decide) h)
 f21:=fun h=>R.f21 (za (by decide) h)
 f22:=fun h=>R.f22 (za (by decide) h)
 f23:=fun _=>hv
 f24:=fun h=>R.f24 (za (by decide) h)
 f7:=fun h=>by obtain⟨B,r,z,e,hB,hv,hz⟩:=R.f7 (za (by decide) h);exact⟨B,r,z,e,hB,hv,fun h'=>hz (za (by decide) h')⟩
 f8:=fun h=>by obtain⟨B,r,z,e,hB,hv,hz⟩:=R.f8 (za (by decide) h);exact⟨B,r,z,e,hB,hv,fun h'=>hz (za (by decide) h')⟩
 f9:=fun h=>by obtain⟨B,r,z,e,hB,hv,hz⟩:=R.f9 (za (by decide) h);exact⟨B,r,z,e,hB,hv,fun h'=>hz (za (by decide) h')⟩
 d78:=fun h h'=>R.d78 (za (by decide) h) (za (by decide) h')
 d79:=fun h h'=>R.d79 (za (by decide) h) (za (by decide) h')
 d89:=fun h h'=>R.d89 (za (by decide) h) (za (by decide) h')
 o9:=fun h=>by rw [getD_set_ne false (by decide)];exact R.o9 (za (by decide) h)
 o10:=fun h=>by rw [getD_set_ne false (by decide)];exact R.o10 (za (by decide) h)
 o11:=fun h=>by rw [getD_set_ne false (by decide)];exact R.o11 (za (by decide) h)
theorem R2.at5 {w W:World}{L:Array Bool}{a0 a1 b0 b1:Value}{rg rx ry:Nm}{g x y:Int}{vb:Value}{b:Int}{c7 c8 c9 c19 c20 c21 c22 c23 c24:Value}(R:R2 w W L a0 a1 b0 b1 rg rx ry g x y vb b c7 c8 c9 c19 c20 c21 c22 c23 c24){v:Value}(hv:∃ r:Nm,v=r.v∧NumL W r.v (sgn b) 12):R2 w W (L.setIfInBounds 5 true) a0 a1 b0 b1 rg rx ry g x y vb b c7 c8 c9 c19 c20 c21 c22 c23 v where
 pre:=R.pre
 f19:=fun h=>R.f19 (za (by decide) h)
 f20:=fun h=>R.f20 (za (by decide) h)
 f21:=fun h=>R.f21 (za (by decide) h)
 f22:=fun h=>R.f22 (za (by decide) h)
 f23:=fun h=>R.f23 (za (by decide) h)
 f24:=fun _=>hv
 f7:=fun h=>by obtain⟨B,r,z,e,hB,hv,hz⟩:=R.f7 (za (by decide) h);exact⟨B,r,z,e,hB,hv,fun h'=>hz (za (by decide) h')⟩
 f8:=fun h=>by obtain⟨B,r,z,e,hB,hv,hz⟩:=R.f8 (za (by decide) h);exact⟨B,r,z,e,hB,hv,fun h'=>hz (za (by decide) h')⟩
 f9:=fun h=>by obtain⟨B,r,z,e,hB,hv,hz⟩:=R.f9 (za (by decide) h);exact⟨B,r,z,e,hB,hv,fun h'=>hz (za (by decide) h')⟩
 d78:=fun h h'=>R.d78 (za (by decide) h) (za (by decide) h')
 d79:=fun h h'=>R.d79 (za (by decide) h) (za (by decide) h')
 d89:=fun h h'=>R.d89 (za (by decide) h) (za (by decide) h')
 o9:=fun h=>by rw [getD_set_ne false (by decide)];exact R.o9 (za (by decide) h)
 o10:=fun h=>by rw [getD_set_ne false (by decide)];exact R.o10 (za (by decide) h)
 o11:=fun h=>by rw [getD_set_ne false (by decide)];exact R.o11 (za (by decide) h)
theorem R2.at6 {w W:World}{L:Array Bool}{a0 a1 b0 b1:Value}{rg rx ry:Nm}{g x y:Int}{vb:Value}{b:Int}{c7 c8 c9 c19 c20 c21 c22 c23 c24:Value}(R0:R2 w W L a0 a1 b0 b1 rg rx ry g x y vb b c7 c8 c9 c19 c20 c21 c22 c23 c24)(t:TypeId)(hn:L.getD 6 true=false):R2 w (W.alloc (.cells #[.bool false,.slice none 0 0] t)) (L.setIfInBounds 6 true) a0 a1 b0 b1 rg rx ry g x y vb b (ptr W.heap.size) c8 c9 c19 c20 c21 c22 c23 c24:=
 have R:=R0.later ((Below.refl W.heap.size W).alloc zL (.cells #[.bool false,.slice none 0 0] t))
 {pre:=R.pre
  f19:=fun h=>R.f19 (za (by decide) h)
  f20:=fun h=>R.f20 (za (by decide) h)
  f21:=fun h=>R.f21 (za (by decide) h)
  f22:=fun h=>R.f22 (za (by decide) h)
  f23:=fun h=>R.f23 (za (by decide) h)
  f24:=fun h=>R.f24 (za (by decide) h)
  f7:=fun _=>⟨W.heap.size,⟨false,none,0,0⟩,0,rfl,by have:=R0.pre.y.lt;omega,⟨zg W _ _ t _ rfl,zZ _,by simp⟩,fun h=>absurd (R0.o9 (za (by decide) h)) (zO hn)⟩
  f8:=fun h=>by obtain⟨B,r,z,e,hB,hv,hz⟩:=R.f8 (za (by decide) h);exact⟨B,r,z,e,hB,hv,fun h'=>hz (za (by decide) h')⟩
  f9:=fun h=>by obtain⟨B,r,z,e,hB,hv,hz⟩:=R.f9 (za (by decide) h);exact⟨B,r,z,e,hB,hv,fun h'=>hz (za (by decide) h')⟩
  d78:=fun h h' e=>by obtain⟨B,r,z,e',-,hv,-⟩:=R0.f8 (za (by decide) h');rw [e'] at e;simp at e;have:=hv.lt;omega
  d79:=fun h h' e=>by obtain⟨B,r,z,e',-,hv,-⟩:=R0.f9 (za (by decide) h');rw [e'] at e;simp at e;have:=hv.lt;omega
  d89:=fun h h'=>R.d89 (za (by decide) h) (za (by decide) h')
  o9:=fun h=>absurd (R0.o9 (za (by decide) h)) (zO hn)
  o10:=fun h=>by rw [getD_set_ne false (by decide)];exact R.o10 (za (by decide) h)
  o11:=fun h=>by rw [getD_set_ne false (by decide)];exact R.o11 (za (by decide) h) }
theorem R2.at7 {w W:World}{L:Array Bool}{a0 a1 b0 b1:Value}{rg rx ry:Nm}{g x y:Int}{vb:Value}{b:Int}{c7 c8 c9 c19 c20 c21 c22 c23 c24:Value}(R0:R2 w W L a0 a1 b0 b1 rg rx ry g x y vb b c7 c8 c9 c19 c20 c21 c22 c23 c24)(t:TypeId)(hn:L.getD 7 true=false):R2 w (W.alloc (.cells #[.bool false,.slice none 0 0] t)) (L.setIfInBounds 7 true) a0 a1 b0 b1 rg rx ry g x y vb b c7 (ptr W.heap.size) c9 c19 c20 c21 c22 c23 c24:=
 have R:=R0.later ((Below.refl W.heap.size W).alloc zL (.cells #[.bool false,.slice none 0 0] t))
 {pre:=R.pre
  f19:=fun h=>R.f19 (za (by decide) h)
  f20:=fun h=>R.f20 (za (by decide) h)
  f21:=fun h=>R.f21 (za (by decide) h)
  f22:=fun h=>R.f22 (za (by decide) h)
  f23:=fun h=>R.f23 (za (by decide) h)
  f24:=fun h=>R.f24 (za (by decide) h)
  f7:=fun h=>by obtain⟨B,r,z,e,hB,hv,hz⟩:=R.f7 (za (by decide) h);exact⟨B,r,z,e,hB,hv,fun h'=>hz (za (by decide) h')⟩
  f8:=fun _=>⟨W.heap.size,⟨false,none,0,0⟩,0,rfl,by have:=R0.pre.y.lt;omega,⟨zg W _ _ t _ rfl,zZ _,by simp⟩,fun h=>absurd (R0.o10 (za (by decide) h)) (zO hn)⟩
  f9:=fun h=>by obtain⟨B,r,z,e,hB,hv,hz⟩:=R.f9 (za (by decide) h);exact⟨B,r,z,e,hB,hv,fun h'=>hz (za (by decide) h')⟩
  d78:=fun h h' e=>by obtain⟨B,r,z,e',-,hv,-⟩:=R0.f7 (za (by decide) h);rw [e'] at e;simp at e;have:=hv.lt;omega
  d79:=fun h h'=>R.d79 (za (by decide) h) (za (by decide) h')
  d89:=fun h h' e=>by obtain⟨B,r,z,e',-,hv,-⟩:=R0.f9 (za (by decide) h');rw [e'] at e;simp at e;have:=hv.lt;omega
  o9:=fun h=>by rw [getD_set_ne false (by decide)];exact R.o9 (za (by decide) h)
  o10:=fun h=>absurd (R0.o10 (za (by decide) h)) (zO hn)
  o11:=fun h=>by rw [getD_set_ne false (by decide)];exact R.o11 (za (by decide) h) }
theorem R2.at8 {w W:World}{L:Array Bool}{a0 a1 b0 b1:Value}{rg rx ry:Nm}{g x y:Int}{vb:Value}{b:Int}{c7 c8 c9 c19 c20 c21 c22 c23 c24:Value}(R0:R2 w W L a0 a1 b0 b1 rg rx ry g x y vb b c7 c8 c9 c19 c20 c21 c22 c23 c24)(t:TypeId)(hn:L.getD 8 true=false):R2 w (W.alloc (.cells #[.bool false,.slice none 0 0] t)) (L.setIfInBounds 8 true) a0 a1 b0 b1 rg rx ry g x y vb b c7 c8 (ptr W.heap.size) c19 c20 c21 c22 c23 c24:=
 have R:=R0.later ((Below.refl W.heap.size W).alloc zL (.cells #[.bool false,.slice none 0 0] t))
 {pre:=R.pre
  f19:=fun h=>R.f19 (za (by decide) h)
  f20:=fun h=>R.f20 (za (by decide) h)
  f21:=fun h=>R.f21 (za (by decide) h)
  f22:=fun h=>R.f22 (za (by decide) h)
  f23:=fun h=>R.f23 (za (by decide) h)
  f24:=fun h=>R.f24 (za (by decide) h)
  f7:=fun h=>by obtain⟨B,r,z,e,hB,hv,hz⟩:=R.f7 (za (by decide) h);exact⟨B,r,z,e,hB,hv,fun h'=>hz (za (by decide) h')⟩
  f8:=fun h=>by obtain⟨B,r,z,e,hB,hv,hz⟩:=R.f8 (za (by decide) h);exact⟨B,r,z,e,hB,hv,fun h'=>hz (za (by decide) h')⟩
  f9:=fun _=>⟨W.heap.size,⟨false,none,0,0⟩,0,rfl,by have:=R0.pre.y.lt;omega,⟨zg W _ _ t _ rfl,zZ _,by simp⟩,fun h=>absurd (R0.o11 (za (by decide) h)) (zO hn)⟩
  d78:=fun h h'=>R.d78 (za (by decide) h) (za (by decide) h')
  d79:=fun h h' e=>by obtain⟨B,r,z,e',-,hv,-⟩:=R0.f7 (za (by decide) h);rw [e'] at e;simp at e;have:=hv.lt;omega
  d89:=fun h h' e=>by obtain⟨B,r,z,e',-,hv,-⟩:=R0.f8 (za (by decide) h);rw [e'] at e;simp at e;have:=hv.lt;omega
  o9:=fun h=>by rw [getD_set_ne false (by decide)];exact R.o9 (za (by decide) h)
  o10:=fun h=>by rw [getD_set_ne false (by decide)];exact R.o10 (za (by decide) h)
  o11:=fun h=>absurd (R0.o11 (za (by decide) h)) (zO hn) }
theorem Pre.other {w W:World}{a0 a1 b0 b1:Value}{rg rx ry:Nm}{g x y:Int}(h:Pre w W a0 a1 b0 b1 rg rx ry g x y){B:Nat}{s:Nm}{z:Int}(hv:Var W B s z)(hB:w.heap.size+1+1+1+1 < B)(v0 v1:Value):
  Pre w ((W.setCell ⟨B,0,none⟩ v0).setCell ⟨B,1,none⟩ v1) a0 a1 b0 b1 rg rx ry g x y:=
 ⟨(h.a.other (by omega) _ _).other (by omega) _ _,(h.b.other (by omega) _ _).other (by omega) _ _,h.g.other hv (by omega) _ _,h.x.other hv (by omega) _ _,h.y.other hv (by omega) _ _,(h.below.setCell (by simp;omega) _).setCell (by simp;omega) _⟩
theorem zM {A B:Nat}(h:ptr A≠ptr B):A≠B:=fun e=>h (by rw [e])
theorem R2.at9 {w W:World}{L:Array Bool}{a0 a1 b0 b1:Value}{rg rx ry:Nm}{g x y:Int}{vb:Value}{b:Int}{c7 c8 c9 c19 c20 c21 c22 c23 c24:Value}(R:R2 w W L a0 a1 b0 b1 rg rx ry g x y vb b c7 c8 c9 c19 c20 c21 c22 c23 c24)(h6:L.getD 6 false=true){B:Nat}{r s:Nm}{z:Int}(e:c7=ptr B)(hB:w.heap.size+1+1+1+1 < B)(hv:Var W B s z)(hnum:NumL W r.v (ab b) 12):R2 w ((W.setCell ⟨B,0,none⟩ (.bool r.neg)).setCell ⟨B,1,none⟩ (.slice r.o r.l r.c)) (L.setIfInBounds 9 true) a0 a1 b0 b1 rg rx ry g x y vb b c7 c8 c9 c19 c20 c21 c22 c23 c24 where
 pre:=R.pre.other hv hB _ _
 f19:=fun h=>R.f19 (za (by decide) h)
 f20:=fun h=>by obtain⟨q,e1,hq⟩:=R.f20 (za (by decide) h);exact⟨q,e1,hq.wrote hv.box (by simp) (by simp)⟩
 f21:=fun h=>by obtain⟨q,e1,hq⟩:=R.f21 (za (by decide) h);exact⟨q,e1,hq.wrote hv.box (by simp) (by simp)⟩
 f22:=fun h=>R.f22 (za (by decide) h)
 f23:=fun h=>R.f23 (za (by decide) h)
 f24:=fun h=>by obtain⟨q,e1,hq⟩:=R.f24 (za (by decide) h);exact⟨q,e1,hq.wrote hv.box (by simp) (by simp)⟩
 f7:=fun _=>⟨B,r,ab b,e,hB,hv.write hnum,fun _=>rfl⟩
 f8:=fun h=>by obtain⟨B',r',z',e',hB',hv',hz'⟩:=R.f8 (za (by decide) h);have hne:=R.d78 h6 (za (by decide) h);rw [e,e'] at hne;exact⟨B',r',z',e',hB',hv'.other hv (zM hne).symm _ _,fun h'=>hz' (za (by decide) h')⟩
 f9:=fun h=>by obtain⟨B',r',z',e',hB',hv',hz'⟩:=R.f9 (za (by decide) h);have hne:=R.d79 h6 (za (by decide) h);rw [e,e'] at hne;exact⟨B',r',z',e',hB',hv'.other hv (zM hne).symm _ _,fun h'=>hz' (za (by decide) h')⟩
 d78:=fun h h'=>R.d78 (za (by decide) h) (za (by decide) h')
 d79:=fun h h'=>R.d79 (za (by decide) h) (za (by decide) h')
 d89:=fun h h'=>R.d89 (za (by decide) h) (za (by decide) h')
 o9:=fun _=>by rw [getD_set_ne false (by decide)];exact h6
 o10:=fun h=>by rw [getD_set_ne false (by decide)];exact R.o10 (za (by decide) h)
 o11:=fun h=>by rw [getD_set_ne false (by decide)];exact R.o11 (za (by decide) h)
theorem R2.at10 {w W:World}{L:Array Bool}{a0 a1 b0 b1:Value}{rg rx ry:Nm}{g x y:Int}{vb:Value}{b:Int}{c7 c8 c9 c19 c20 c21 c22 c23 c24:Value}(R:R2 w W L a0 a1 b0 b1 rg rx ry g x y vb b c7 c8 c9 c19 c20 c21 c22 c23 c24)(h6:L.getD 7 false=true){B:Nat}{r s:Nm}{z:Int}(e:c8=ptr B)(hB:w.heap.size+1+1+1+1 < B)(hv:Var W B s z)(hnum:NumL W r.v (0) 12):R2 w ((W.setCell ⟨B,0,none⟩ (.bool r.neg)).setCell ⟨B,1,none⟩ (.slice r.o r.l r.c)) (L.setIfInBounds 10 true) a0 a1 b0 b1 rg rx ry g x y vb b c7 c8 c9 c19 c20 c21 c22 c23 c24 where
 pre:=R.pre.other hv hB _ _
 f19:=fun h=>R.f19 (za (by decide) h)
 f20:=fun h=>by obtain⟨q,e1,hq⟩:=R.f20 (za (by decide) h);exact⟨q,e1,hq.wrote hv.box (by simp) (by simp)⟩
 f21:=fun h=>by obtain⟨q,e1,hq⟩:=R.f21 (za (by decide) h);exact⟨q,e1,hq.wrote hv.box (by simp) (by simp)⟩
 f22:=fun h=>R.f22 (za (by decide) h)
 f23:=fun h=>R.f23 (za (by decide) h)
 f24:=fun h=>by obtain⟨q,e1,hq⟩:=R.f24 (za (by decide) h);exact⟨q,e1,hq.wrote hv.box (by simp) (by simp)⟩
 f7:=fun h=>by obtain⟨B',r',z',e',hB',hv',hz'⟩:=R.f7 (za (by decide) h);have hne:=(R.d78 (za (by decide) h) h6).symm;rw [e,e'] at hne;exact⟨B',r',z',e',hB',hv'.other hv (zM hne).symm _ _,fun h'=>hz' (za (by decide) h')⟩
 f8:=fun _=>⟨B,r,0,e,hB,hv.write hnum,fun _=>rfl⟩
 f9:=fun h=>by obtain⟨B',r',z',e',hB',hv',hz'⟩:=R.f9 (za (by decide) h);have hne:=R.d89 h6 (za (by decide) h);rw [e,e'] at hne;exact⟨B',r',z',e',hB',hv'.other hv (zM hne).symm _ _,fun h'=>hz' (za (by decide) h')⟩
 d78:=fun h h'=>R.d78 (za (by decide) h) (za (by decide) h')
 d79:=fun h h'=>R.d79 (za (by decide) h) (za (by decide) h')
 d89:=fun h h'=>R.d89 (za (by decide) h) (za (by decide) h')
 o9:=fun h=>by rw [getD_set_ne false (by decide)];exact R.o9 (za (by decide) h)
 o10:=fun _=>by rw [getD_set_ne false (by decide)];exact h6
 o11:=fun h=>by rw [getD_set_ne false (by decide)];exact R.o11 (za (by decide) h)
theorem R2.at11 {w W:World}{L:Array Bool}{a0 a1 b0 b1:Value}{rg rx ry:Nm}{g x y:Int}{vb:Value}{b:Int}{c7 c8 c9 c19 c20 c21 c22 c23 c24:Value}(R:R2 w W L a0 a1 b0 b1 rg rx ry g x y vb b c7 c8 c9 c19 c20 c21 c22 c23 c24)(h6:L.getD 8 false=true){B:Nat}{r s:Nm}{z:Int}(e:c9=ptr B)(hB:w.heap.size+1+1+1+1 < B)(hv:Var W B s z)(hnum:NumL W r.v (sgn b) 12):R2 w ((W.setCell ⟨B,0,none⟩ (.bool r.neg)).setCell ⟨B,1,none⟩ (.slice r.o r.l r.c)) (L.setIfInBounds 11 true) a0 a1 b0 b1 rg rx ry g x y vb b c7 c8 c9 c19 c20 c21 c22 c23 c24 where
 pre:=R.pre.other hv hB _ _
 f19:=fun h=>R.f19 (za (by decide) h)
 f20:=fun h=>by obtain⟨q,e1,hq⟩:=R.f20 (za (by decide) h);exact⟨q,e1,hq.wrote hv.box (by simp) (by simp)⟩
 f21:=fun h=>by obtain⟨q,e1,hq⟩:=R.f21 (za (by decide) h);exact⟨q,e1,hq.wrote hv.box (by simp) (by simp)⟩
 f22:=fun h=>R.f22 (za (by decide) h)
 f23:=fun h=>R.f23 (za (by decide) h)
 f24:=fun h=>by obtain⟨q,e1,hq⟩:=R.f24 (za (by decide) h);exact⟨q,e1,hq.wrote hv.box (by simp) (by simp)⟩
 f7:=fun h=>by obtain⟨B',r',z',e',hB',hv',hz'⟩:=R.f7 (za (by decide) h);have hne:=(R.d79 (za (by decide) h) h6).symm;rw [e,e'] at hne;exact⟨B',r',z',e',hB',hv'.other hv (zM hne).symm _ _,fun h'=>hz' (za (by decide) h')⟩
 f8:=fun h=>by obtain⟨B',r',z',e',hB',hv',hz'⟩:=R.f8 (za (by decide) h);have hne:=(R.d89 (za (by decide) h) h6).symm;rw [e,e'] at hne;exact⟨B',r',z',e',hB',hv'.other hv (zM hne).symm _ _,fun h'=>hz' (za (by decide) h')⟩
 f9:=fun _=>⟨B,r,sgn b,e,hB,hv.write hnum,fun _=>rfl⟩
 d78:=fun h h'=>R.d78 (za (by decide) h) (za (by decide) h')
 d79:=fun h h'=>R.d79 (za (by decide) h) (za (by decide) h')
 d89:=fun h h'=>R.d89 (za (by decide) h) (za (by decide) h')
 o9:=fun h=>by rw [getD_set_ne false (by decide)];exact R.o9 (za (by decide) h)
 o10:=fun h=>by rw [getD_set_ne false (by decide)];exact R.o10 (za (by decide) h)
 o11:=fun _=>by rw [getD_set_ne false (by decide)];exact h6
end Go.Proofs.YtnkcjkpkphjecaaGreatDoor
/- Variables made and written in drawn order: a block that is made bears the number of the operation that writes into it. -/
namespace Go.Proofs.YtnkcjkpkphjecaaGreatDoor
open Go.RowKit Limbs
def upd (c:Nat→Value)(i:Nat)(v:Value):Nat→Value:=fun j=>if j=i then v else c j
theorem ze (c:Nat→Value)(i:Nat)(v:Value):upd c i v i=v:=if_pos rfl
theorem zd (c:Nat→Value){i j:Nat}(v:Value)(h:j≠i):upd c i v j=c j:=if_neg h
inductive Moved (t:Nat) (W:World) (G:Nat→Nat):World→(Nat→Nat)→Prop
 | made {W':World} {G':Nat→Nat} (hb:Below W.heap.size W W') (hg:∀ B,B < W.heap.size→G' B=G B):Moved t W G W' G'
 | wrote {B:Nat} {r:Nm} (s:Nm) (ht:G B=t) (hB:Box W B (.bool r.neg) (.slice r.o r.l r.c)):Moved t W G ((W.setCell ⟨B,0,none⟩ (.bool s.neg)).setCell ⟨B,1,none⟩ (.slice s.o s.l s.c)) G
theorem Moved.size {t:Nat}{W W':World}{G G':Nat→Nat}(h:Moved t W G W' G'):W.heap.size≤W'.heap.size:=by
 cases h with
 | made hb _=>exact hb.size
 | wrote=>simp
theorem Moved.tag {t:Nat}{W W':World}{G G':Nat→Nat}(h:Moved t W G W' G'){B:Nat}(hB:B < W.heap.size):G' B=G B:=by
 cases h with
 | made _ hg=>exact hg B hB
 | wrote=>rfl
theorem Moved.num {t:Nat}{W W':World}{G G':Nat→Nat}(h:Moved t W G W' G'){v:Value}{z:Int}{n:Nat}(hn:NumL W v z n):NumL W' v z n:=by
 cases h with
 | made hb _=>exact hn.below hb zL
 | wrote s ht hB=>exact hn.wrote hB (by simp) (by simp)
theorem Moved.box {t:Nat}{W W':World}{G G':Nat→Nat}(h:Moved t W G W' G'){B:Nat}{u0 u1:Value}(hb:Box W B u0 u1)(hB:B < W.heap.size)(hne:G B≠t):Box W' B u0 u1:=by
 cases h with
 | made hb' _=>exact hb.later hb' hB
 | wrote s ht hB'=>exact(hb.other (fun e=>hne (by rw [e];exact ht)) _ _).other (fun e=>hne (by rw [e];exact ht)) _ _
def Made (W:World)(G:Nat→Nat)(C t:Nat)(v:Value):Prop:=
 ∃ B,v=ptr B∧C≤B∧B < W.heap.size∧G B=t∧∃ r:Nm,Box W B (.bool r.neg) (.slice r.o r.l r.c)
def Stored (W:World)(G:Nat→Nat)(C t:Nat)(v:Value)(r:Nm):Prop:=
 ∃ B,v=ptr B∧C≤B∧B < W.heap.size∧G B=t∧Box W B (.bool r.neg) (.slice r.o r.l r.c)
theorem Made.moved {i:Nat}{W W':World}{G G':Nat→Nat}(h:Moved i W G W' G'){C t:Nat}{v:Value}(hm:Made W G C t v):Made W' G' C t v:=by
 obtain⟨B,e,hC,hB,hG,r,hb⟩:=hm
 refine⟨B,e,hC,zT hB h.size,(h.tag hB).trans hG,?_⟩
 cases h with
 | made hb' _=>exact⟨r,hb.later hb' hB⟩
 | @wrote B' r' s ht hB'=>
  by_cases hE:B=B'
  ·subst hE
   exact⟨s,hB'.write _ _⟩
  ·exact⟨r,(hb.other hE _ _).other hE _ _⟩
theorem Stored.moved {i:Nat}{W W':World}{G G':Nat→Nat}(h:Moved i W G W' G'){C t:Nat}{v:Value}{r:Nm}(hm:Stored W G C t v r)(hne:t≠i):Stored W' G' C t v r:=by
 obtain⟨B,e,hC,hB,hG,hb⟩:=hm
 exact⟨B,e,hC,zT hB h.size,(h.tag hB).trans hG,h.box hb hB (by rw [hG];exact hne)⟩
structure Tags (deps:Nat→List Nat)(Fc:Nat→(Nat→Value)→World→(Nat→Nat)→Prop)(w:World)(L:Array Bool)(c:Nat→Value)(W:World)(G:Nat→Nat):Prop where
 below:Below w.heap.size w W
 high:∀ B,G B≠0→w.heap.size≤B
 facts:∀ i,L.getD i false=true→Fc i c W G
 closed:∀ i,L.getD i false=true→∀ j∈deps i,L.getD j false=true
variable {deps:Nat→List Nat}{Fc:Nat→(Nat→Value)→World→(Nat→Nat)→Prop}{w W W':World}{L:Array Bool}{c:Nat→Value}{G G':Nat→Nat}
theorem Tags.step (h:Tags deps Fc w L c W G){i:Nat}(hn:L.getD i true=false)(hd:∀ j∈deps i,L.getD j false=true)
  (hb:Below w.heap.size w W') (hg:∀ B,G' B≠0→w.heap.size≤B) {v:Value} (hnew:Fc i (upd c i v) W' G')
  (keep:∀ j,j≠i→i ∉ deps j→Fc j c W G→Fc j (upd c i v) W' G'):Tags deps Fc w (L.setIfInBounds i true) (upd c i v) W' G' where
 below:=hb
 high:=hg
 facts:=fun j hj=>by
  by_cases e:j=i
  ·subst e;exact hnew
  ·have hj':=za (fun e'=>e e'.symm) hj
   exact keep j e (fun hm=>zO hn (h.closed j hj' i hm)) (h.facts j hj')
 closed:=fun j hj k hk=>by
  by_cases ek:i=k
  ·subst ek;exact zdF hn
  ·rw [getD_set_ne false ek]
   by_cases e:j=i
   ·subst e;exact hd k hk
   ·exact h.closed j (za (fun e'=>e e'.symm) hj) k hk
theorem Tags.plain (h:Tags deps Fc w L c W G){i:Nat}(hn:L.getD i true=false)(hd:∀ j∈deps i,L.getD j false=true)
  (keep:∀(i j:Nat) (c:Nat→Value) (v:Value) (W W':World) (G G':Nat→Nat),j≠i→i ∉ deps j→Moved i W G W' G'→Fc j c W G→Fc j (upd c i v) W' G')
  {v:Value} (hnew:Fc i (upd c i v) W G):Tags deps Fc w (L.setIfInBounds i true) (upd c i v) W G:=
 h.step hn hd h.below h.high hnew fun j e hm=>keep i j c v W W G G e hm (.made (Below.refl _ _) fun _ _=>rfl)
theorem Tags.call (h:Tags deps Fc w L c W G){i:Nat}(hn:L.getD i true=false)(hd:∀ j∈deps i,L.getD j false=true)
  (keep:∀(i j:Nat) (c:Nat→Value) (v:Value) (W W':World) (G G':Nat→Nat),j≠i→i ∉ deps j→Moved i W G W' G'→Fc j c W G→Fc j (upd c i v) W' G')
  (hb:Below W.heap.size W W') {v:Value} (hnew:Fc i (upd c i v) W' G):Tags deps Fc w (L.setIfInBounds i true) (upd c i v) W' G:=
 h.step hn hd (h.below.trans (hb.mono h.below.size)) h.high hnew fun j e hm=>keep i j c v W W' G G e hm (.made hb fun _ _=>rfl)
theorem Tags.alloc (h:Tags deps Fc w L c W G){i:Nat}(hn:L.getD i true=false)(hd:∀ j∈deps i,L.getD j false=true)
  (keep:∀(i j:Nat) (c:Nat→Value) (v:Value) (W W':World) (G G':Nat→Nat),j≠i→i ∉ deps j→Moved i W G W' G'→Fc j c W G→Fc j (upd c i v) W' G')
  (t:Nat) (ty:TypeId) (hnew:∀ W' G',Made W' G' w.heap.size t (ptr W.heap.size)→Fc i (upd c i (ptr W.heap.size)) W' G'):
  ∃ G',Tags deps Fc w (L.setIfInBounds i true) (upd c i (ptr W.heap.size)) (W.alloc (.cells #[.bool false,.slice none 0 0] ty)) G':=by
 have hb:Below W.heap.size W (W.alloc (.cells #[.bool false,.slice none 0 0] ty)):=(Below.refl _ _).alloc zL _
 refine⟨fun B=>if B=W.heap.size then t else G B,h.step hn hd (h.below.trans (hb.mono h.below.size)) ?_ (hnew _ _ ⟨W.heap.size,rfl,h.below.size,by simp,by simp,⟨false,none,0,0⟩,zg W _ _ ty _ rfl⟩) fun j e hm=>keep i j c _ W _ G _ e hm (.made hb fun B hB=>if_neg (by omega))⟩
 intro B hB
 by_cases e:B=W.heap.size
 ·rw [e];exact h.below.size
 ·rw [if_neg e] at hB;exact h.high B hB
theorem Tags.store (h:Tags deps Fc w L c W G){i:Nat}(hn:L.getD i true=false)(hd:∀ j∈deps i,L.getD j false=true)
  (keep:∀(i j:Nat) (c:Nat→Value) (v:Value) (W W':World) (G G':Nat→Nat),j≠i→i ∉ deps j→Moved i W G W' G'→Fc j c W G→Fc j (upd c i v) W' G')
  {B:Nat} {r:Nm} (s:Nm) (hC:w.heap.size≤B) (hB:B < W.heap.size) (hG:G B=i) (hb:Box W B (.bool r.neg) (.slice r.o r.l r.c))
  (hnew:∀ W' G',Stored W' G' w.heap.size i (ptr B) s→Fc i (upd c i undef) W' G'):
  Tags deps Fc w (L.setIfInBounds i true) (upd c i undef) ((W.setCell ⟨B,0,none⟩ (.bool s.neg)).setCell ⟨B,1,none⟩ (.slice s.o s.l s.c)) G:=
 h.step hn hd ((h.below.setCell hC _).setCell hC _) h.high (hnew _ _ ⟨B,rfl,hC,by simpa using hB,hG,hb.write _ _⟩) fun j e hm=>keep i j c undef W _ G G e hm (.wrote s hG hb)
theorem Tags.start (w:World)(n:Nat)(c:Nat→Value):Tags deps Fc w (Array.replicate n false) c w.drew (fun _=>0) where
 below:=(Below.refl _ _).drew
 high:=fun _ h=>absurd rfl h
 facts:=fun i h=>by simp [Array.getD] at h
 closed:=fun i h=>by simp [Array.getD] at h
/-! ### A call that gives three values, and variables for them -/
def F3 (n:Nat)(CALL:World→Value→Prop)(C k:Nat)(c:Nat→Value)(W:World)(G:Nat→Nat):Prop:=
 match k with
 | 0=>CALL W (c n)
 | 1=>c (n+1)=c n
 | 2=>∃ u1 u2 u3:Value,c (n+1)=.tuple #[u1,u2,u3]∧c (n+2)=u1
 | 3=>∃ u1 u2 u3:Value,c (n+1)=.tuple #[u1,u2,u3]∧c (n+3)=u2
 | 4=>∃ u1 u2 u3:Value,c (n+1)=.tuple #[u1,u2,u3]∧c (n+4)=u3
 | 5=>Made W G C (n+8) (c (n+5))
 | 6=>Made W G C (n+9) (c (n+6))
 | 7=>Made W G C (n+10) (c (n+7))
 | 8=>∃ r:Nm,c (n+2)=r.v∧Stored W G C (n+8) (c (n+5)) r
 | 9=>∃ r:Nm,c (n+3)=r.v∧Stored W G C (n+9) (c (n+6)) r
 | 10=>∃ r:Nm,c (n+4)=r.v∧Stored W G C (n+10) (c (n+7)) r
 | _=>True
def FA3 (n:Nat)(ks:List Value)(CALL:World→Value→Prop)(C i:Nat)(c:Nat→Value)(W:World)(G:Nat→Nat):Prop:=
 if i < n then c i=ks.getD i undef else F3 n CALL C (i - n) c W G
def D3 (n i:Nat):List Nat:=
 if i < n then [] else match i - n with
 | 1=>[n]
 | 2=>[n+1]
 | 3=>[n+1]
 | 4=>[n+1]
 | 8=>[n+2,n+5]
 | 9=>[n+3,n+6]
 | 10=>[n+4,n+7]
 | _=>[]
theorem FA3.keep {n:Nat}{ks:List Value}{CALL:World→Value→Prop}{C:Nat}(hst:∀(t:Nat) (W W':World) (G G':Nat→Nat) (v:Value),Moved t W G W' G'→CALL W v→CALL W' v)
  (i j:Nat) (c:Nat→Value) (v:Value) (W W':World) (G G':Nat→Nat) (hne:j≠i) (hm:i ∉ D3 n j) (hv:Moved i W G W' G') (hf:FA3 n ks CALL C j c W G):FA3 n ks CALL C j (upd c i v) W' G':=by
 unfold FA3 at *
 by_cases hj:j < n
 ·rw [if_pos hj] at hf ⊢
  rw [zd _ _ hne];exact hf
 ·rw [if_neg hj] at hf ⊢
  obtain⟨k,rfl⟩:∃ k,j=n+k:=⟨j - n,by omega⟩
  rw [Nat.add_sub_cancel_left] at hf ⊢
  unfold D3 at hm
  rw [if_neg hj,Nat.add_sub_cancel_left] at hm
  match k,hne,hm,hf with
  | 0,hne,hm,hf=>simp only [F3] at hf ⊢;rw [zd _ _ (by omega)];exact hst _ _ _ _ _ _ hv hf
  | 1,hne,hm,hf=>simp only [F3] at hf ⊢;simp at hm;rw [zd _ _ (by omega),zd _ _ (by omega)];exact hf
  | 2,hne,hm,hf=>simp only [F3] at hf ⊢;simp at hm;rw [zd _ _ (by omega),zd _ _ (by omega)];exact hf
  | 3,hne,hm,hf=>simp only [F3] at hf ⊢;simp at hm;rw [zd _ _ (by omega),zd _ _ (by omega)];exact hf
  | 4,hne,hm,hf=>simp only [F3] at hf ⊢;simp at hm;rw [zd _ _ (by omega),zd _ _ (by omega)];exact hf
  | 5,hne,hm,hf=>simp only [F3] at hf ⊢;rw [zd _ _ (by omega)];exact hf.moved hv
  | 6,hne,hm,hf=>simp only [F3] at hf ⊢;rw [zd _ _ (by omega)];exact hf.moved hv
  | 7,hne,hm,hf=>simp only [F3] at hf ⊢;rw [zd _ _ (by omega)];exact hf.moved hv
  | 8,hne,hm,hf=>simp only [F3] at hf ⊢;simp at hm;rw [zd _ _ (by omega),zd _ _ (by omega)];obtain⟨r,e,h⟩:=hf;exact⟨r,e,h.moved hv hne⟩
  | 9,hne,hm,hf=>simp only [F3] at hf ⊢;simp at hm;rw [zd _ _ (by omega),zd _ _ (by omega)];obtain⟨r,e,h⟩:=hf;exact⟨r,e,h.moved hv hne⟩
  | 10,hne,hm,hf=>simp only [F3] at hf ⊢;simp at hm;rw [zd _ _ (by omega),zd _ _ (by omega)];obtain⟨r,e,h⟩:=hf;exact⟨r,e,h.moved hv hne⟩
  | k+11,hne,hm,hf=>trivial
theorem Tags.fin3 {n:Nat}{ks:List Value}{CALL:World→Value→Prop}(h:Tags (D3 n) (FA3 n ks CALL w.heap.size) w L c W G)(hall:∀ i,i < n+11→L.getD i false=true):
  ∃(r1 r2 r3:Nm) (B1 B2 B3:Nat),CALL W (.tuple #[r1.v,r2.v,r3.v])∧c (n+5)=ptr B1∧c (n+6)=ptr B2∧c (n+7)=ptr B3 ∧
   w.heap.size≤B1∧w.heap.size≤B2∧w.heap.size≤B3∧B1 < W.heap.size∧B2 < W.heap.size∧B3 < W.heap.size∧B1≠B2∧B1≠B3∧B2≠B3 ∧
   Box W B1 (.bool r1.neg) (.slice r1.o r1.l r1.c)∧Box W B2 (.bool r2.neg) (.slice r2.o r2.l r2.c)∧Box W B3 (.bool r3.neg) (.slice r3.o r3.l r3.c)∧Below w.heap.size w W:=by
 have f:∀ k,k < 11→F3 n CALL w.heap.size k c W G:=fun k hk=>by
  have:=h.facts (n+k) (hall _ (by omega))
  unfold FA3 at this
  rwa [if_neg (by omega),Nat.add_sub_cancel_left] at this
 have f0:CALL W (c n):=f 0 (by decide)
 have f1:c (n+1)=c n:=f 1 (by decide)
 obtain⟨u1,u2,u3,e1,e2⟩:∃ u1 u2 u3:Value,c (n+1)=.tuple #[u1,u2,u3]∧c (n+2)=u1:=f 2 (by decide)
 obtain⟨u1',u2',u3',e1',e3⟩:∃ u1 u2 u3:Value,c (n+1)=.tuple #[u1,u2,u3]∧c (n+3)=u2:=f 3 (by decide)
 obtain⟨u1'',u2'',u3'',e1'',e4⟩:∃ u1 u2 u3:Value,c (n+1)=.tuple #[u1,u2,u3]∧c (n+4)=u3:=f 4 (by decide)
 obtain⟨r1,g1,B1,b1,c1,d1,t1,x1⟩:∃ r:Nm,c (n+2)=r.v∧Stored W G w.heap.size (n+8) (c (n+5)) r:=f 8 (by decide)
 obtain⟨r2,g2,B2,b2,c2,d2,t2,x2⟩:∃ r:Nm,c (n+3)=r.v∧Stored W G w.heap.size (n+9) (c (n+6)) r:=f 9 (by decide)
 obtain⟨r3,g3,B3,b3,c3,d3,t3,x3⟩:∃ r:Nm,c (n+4)=r.v∧Stored W G w.heap.size (n+10) (c (n+7)) r:=f 10 (by decide)
 rw [e1] at e1' e1'' f1
 simp only [Value.tuple.injEq,Array.mk.injEq,List.cons.injEq,and_true] at e1' e1''
 obtain⟨rfl,rfl,rfl⟩:=e1'
 obtain⟨rfl,rfl,rfl⟩:=e1''
 rw [← f1,← e2,← e3,← e4,g1,g2,g3] at f0
 exact⟨r1,r2,r3,B1,B2,B3,f0,b1,b2,b3,c1,c2,c3,d1,d2,d3,fun e=>by rw [e] at t1;omega,fun e=>by rw [e] at t1;omega,fun e=>by rw [e] at t2;omega,x1,x2,x3,h.below⟩
/-! ### Two variables, and a plain one for the third value -/
def F2 (n:Nat)(CALL:World→Value→Prop)(C k:Nat)(c:Nat→Value)(W:World)(G:Nat→Nat):Prop:=
 match k with
 | 0=>CALL W (c n)
 | 1=>c (n+1)=c n
 | 2=>∃ u1 u2 u3:Value,c (n+1)=.tuple #[u1,u2,u3]∧c (n+2)=u1
 | 3=>∃ u1 u2 u3:Value,c (n+1)=.tuple #[u1,u2,u3]∧c (n+3)=u2
 | 4=>∃ u1 u2 u3:Value,c (n+1)=.tuple #[u1,u2,u3]∧c (n+4)=u3
 | 5=>Made W G C (n+7) (c (n+5))
 | 6=>Made W G C (n+8) (c (n+6))
 | 7=>∃ r:Nm,c (n+2)=r.v∧Stored W G C (n+7) (c (n+5)) r
 | 8=>∃ r:Nm,c (n+3)=r.v∧Stored W G C (n+8) (c (n+6)) r
 | 9=>c (n+9)=c (n+4)
 | _=>True
def FA2 (n:Nat)(ks:List Value)(CALL:World→Value→Prop)(C i:Nat)(c:Nat→Value)(W:World)(G:Nat→Nat):Prop:=
 if i < n then c i=ks.getD i undef else F2 n CALL C (i - n) c W G
def D2 (n i:Nat):List Nat:=
 if i < n then [] else match i - n with
 | 1=>[n]
 | 2=>[n+1]
 | 3=>[n+1]
 | 4=>[n+1]
 | 7=>[n+2,n+5]
 | 8=>[n+3,n+6]
 | 9=>[n+4]
 | _=>[]
theorem FA2.keep {n:Nat}{ks:List Value}{CALL:World→Value→Prop}{C:Nat}(hst:∀(t:Nat) (W W':World) (G G':Nat→Nat) (v:Value),Moved t W G W' G'→CALL W v→CALL W' v)
  (i j:Nat) (c:Nat→Value) (v:Value) (W W':World) (G G':Nat→Nat) (hne:j≠i) (hm:i ∉ D2 n j) (hv:Moved i W G W' G') (hf:FA2 n ks CALL C j c W G):FA2 n ks CALL C j (upd c i v) W' G':=by
 unfold FA2 at *
 by_cases hj:j < n
 ·rw [if_pos hj] at hf ⊢
  rw [zd _ _ hne];exact hf
 ·rw [if_neg hj] at hf ⊢
  obtain⟨k,rfl⟩:∃ k,j=n+k:=⟨j - n,by omega⟩
  rw [Nat.add_sub_cancel_left] at hf ⊢
  unfold D2 at hm
  rw [if_neg hj,Nat.add_sub_cancel_left] at hm
  match k,hne,hm,hf with
  | 0,hne,hm,hf=>simp only [F2] at hf ⊢;rw [zd _ _ (by omega)];exact hst _ _ _ _ _ _ hv hf
  | 1,hne,hm,hf=>simp only [F2] at hf ⊢;simp at hm;rw [zd _ _ (by omega),zd _ _ (by omega)];exact hf
  | 2,hne,hm,hf=>simp only [F2] at hf ⊢;simp at hm;rw [zd _ _ (by omega),zd _ _ (by omega)];exact hf
  | 3,hne,hm,hf=>simp only [F2] at hf ⊢;simp at hm;rw [zd _ _ (by omega),zd _ _ (by omega)];exact hf
  | 4,hne,hm,hf=>simp only [F2] at hf ⊢;simp at hm;rw [zd _ _ (by omega),zd _ _ (by omega)];exact hf
  | 5,hne,hm,hf=>simp only [F2] at hf ⊢;rw [zd _ _ (by omega)];exact hf.moved hv
  | 6,hne,hm,hf=>simp only [F2] at hf ⊢;rw [zd _ _ (by omega)];exact hf.moved hv
  | 7,hne,hm,hf=>simp only [F2] at hf ⊢;simp at hm;rw [zd _ _ (by omega),zd _ _ (by omega)];obtain⟨r,e,h⟩:=hf;exact⟨r,e,h.moved hv hne⟩
  | 8,hne,hm,hf=>simp only [F2] at hf ⊢;simp at hm;rw [zd _ _ (by omega),zd _ _ (by omega)];obtain⟨r,e,h⟩:=hf;exact⟨r,e,h.moved hv hne⟩
  | 9,hne,hm,hf=>simp only [F2] at hf ⊢;simp at hm;rw [zd _ _ (by omega),zd _ _ (by omega)];exact hf
  | k+10,hne,hm,hf=>trivial
theorem Tags.fin2 {n:Nat}{ks:List Value}{CALL:World→Value→Prop}(h:Tags (D2 n) (FA2 n ks CALL w.heap.size) w L c W G)(hall:∀ i,i < n+10→L.getD i false=true):
  ∃(r1 r2:Nm) (u3:Value) (B1 B2:Nat),CALL W (.tuple #[r1.v,r2.v,u3])∧c (n+5)=ptr B1∧c (n+6)=ptr B2∧c (n+9)=u3 ∧
   w.heap.size≤B1∧w.heap.size≤B2∧B1 < W.heap.size∧B2 < W.heap.size∧B1≠B2 ∧
   Box W B1 (.bool r1.neg) (.slice r1.o r1.l r1.c)∧Box W B2 (.bool r2.neg) (.slice r2.o r2.l r2.c)∧Below w.heap.size w W:=by
 have f:∀ k,k < 10→F2 n CALL w.heap.size k c W G:=fun k hk=>by
  have:=h.facts (n+k) (hall _ (by omega))
  unfold FA2 at this
  rwa [if_neg (by omega),Nat.add_sub_cancel_left] at this
 have f0:CALL W (c n):=f 0 (by decide)
 have f1:c (n+1)=c n:=f 1 (by decide)
 have f9:c (n+9)=c (n+4):=f 9 (by decide)
 obtain⟨u1,u2,u3,e1,e2⟩:∃ u1 u2 u3:Value,c (n+1)=.tuple #[u1,u2,u3]∧c (n+2)=u1:=f 2 (by decide)
 obtain⟨u1',u2',u3',e1',e3⟩:∃ u1 u2 u3:Value,c (n+1)=.tuple #[u1,u2,u3]∧c (n+3)=u2:=f 3 (by decide)
 obtain⟨u1'',u2'',u3'',e1'',e4⟩:∃ u1 u2 u3:Value,c (n+1)=.tuple #[u1,u2,u3]∧c (n+4)=u3:=f 4 (by decide)
 obtain⟨r1,g1,B1,b1,c1,d1,t1,x1⟩:∃ r:Nm,c (n+2)=r.v∧Stored W G w.heap.size (n+7) (c (n+5)) r:=f 7 (by decide)
 obtain⟨r2,g2,B2,b2,c2,d2,t2,x2⟩:∃ r:Nm,c (n+3)=r.v∧Stored W G w.heap.size (n+8) (c (n+6)) r:=f 8 (by decide)
 rw [e1] at e1' e1'' f1
 simp only [Value.tuple.injEq,Array.mk.injEq,List.cons.injEq,and_true] at e1' e1''
 obtain⟨rfl,rfl,rfl⟩:=e1'
 obtain⟨rfl,rfl,rfl⟩:=e1''
 rw [← f1,← e2,← e3,g1,g2] at f0
 exact⟨r1,r2,u3,B1,B2,f0,b1,b2,f9.trans e4,c1,c2,d1,d2,fun e=>by rw [e] at t1;omega,x1,x2,h.below⟩
end Go.Proofs.YtnkcjkpkphjecaaGreatDoor
