import Derived.Test.YtdedolkgcdlmeaaGreatDoorRefForm
import Derived.Laws.AppendOwnNone
set_option maxRecDepth 100000
set_option maxHeartbeats 4000000
set_option linter.unusedSimpArgs false
namespace Go.Proofs.YtdedolkgcdlmeaaGreatDoor
open Go.RowKit Limbs Digs
variable {w W:World}{a0 a1 b0 b1 d0 d1 v l0 l1:Value}{z A Q B:Int}{n D:Nat}{ds:List Int}
def RowPost (w:World)(zs:List Int)(n:Nat)(e:Ending)(w':World):Prop:=∃ v,e=.returned v∧RowR w' v zs n∧Below w.heap.size w w'
def RowPostN (w:World)(zs:List Int)(n:Nat)(e:Ending)(w':World):Prop:=∃ v,e=.returned v∧RowR w' v zs n∧Below w.heap.size w w'∧∀ a l c,v=.slice (some a) l c→w.heap.size≤a.block
theorem zeC (w:World)(vx va vy vb:Value)(x y:Int)(us vs:List Int)(nx na ny nb m:Nat)(hx:NumR w vx x nx)(ha:RowR w va us na)(hy:NumR w vy y ny)(hb:RowR w vb vs nb)(hl:us.length=vs.length)(h8:us.length≤1000)
  (h1:nx+na+1≤m) (h2:ny+nb+1≤m) (hm:m≤100000000000):
  Calls Tryz.prog 85 #[vx,va,vy,vb] w fun e w'=>RowPostN w (List.zipWith (fun p q=>x*p+y*q) us vs) (m+1) e w':=by
 obtain⟨i0,hi,hz0,hz1,hz2⟩:=info_parts Tryz.infoRNum
 have HI0:=hide hi;have HZ0:=hide hz0;have HZ1:=hide hz1;have HZ2:=hide hz2
 clear hi hz0 hz1 hz2
 have HA:=hide ha;have HB:=hide hb;have HX:=hide hx;have HY:=hide hy
 have hlt:=zF (fun p q=>x*p+y*q) us vs hl
 have HZ:=hide (zy (fun p q=>x*p+y*q) us vs hl)
 obtain⟨xs,xo,xl,xc,rfl,-⟩:=hx.form
 obtain⟨ys,yo,yl,yc,rfl,-⟩:=hy.form
 obtain⟨ao',acap,rfl,-,-⟩:=ha
 obtain⟨bo',bcap,rfl,-,-⟩:=hb
 clear hx hy
 have HL:=hide hl
 clear hl
 have hT:=two w (.int .i64 xs) (.slice xo xl xc) (.int .i64 ys) (.slice yo yl yc) 40 40
 obtain⟨W0,hW0⟩:∃ W0:World,W0=(w.alloc (.cells #[.int .i64 xs,.slice xo xl xc] 40)).alloc (.cells #[.int .i64 ys,.slice yo yl yc] 40):=⟨_,rfl⟩
 have hsz:W0.heap.size=w.heap.size+2:=by rw [hW0];simp
 rw [← hW0] at hT
 have HT:=hide hT;have HSZ:=hide hsz
 have HLT:=hide hlt
 clear hT hsz hlt
 generalize List.zipWith (fun p q=>x*p+y*q) us vs=ts at *
 go_enter Tryz.func85,Tryz.ntmps85
 go_wp2
 rw [← hW0]
 clear hW0
 go_loopw [9,10] (fun out i wr=>∃(k:Nat) (ps:List (Rn × Int)),k≤us.length∧i=.int .i64 k∧Hid (GrowR wr (w.heap.size+2) out ps (m+1))∧Hid (ps.map (·.2)=ts.take k)∧Hid (Below (w.heap.size+2) W0 wr)) (fun _ i _=>us.length-(intOf i).toNat)
 case atStart=>exact⟨0,[],Nat.zero_le _,rfl,hide (GrowR.nil _ _ _),hide (by simp),hide (Below.refl _ _)⟩
 case round=>
  obtain⟨k,ps,hk,rfl,HG,HP,HBE⟩:=hrel
  have HPL:Hid (ps.length=k):=by
   have:=congrArg List.length HP.out
   rw [List.length_map,List.length_take] at this
   show ps.length=k
   have:=HLT.out
   omega
  have hbs:w.heap.size+2≤wr.heap.size:=by have:=HBE.out.size;have:=HSZ.out;omega
  by_cases hkl:k<us.length
  ·have hbw:Below w.heap.size w wr:=HT.out.below.trans (HBE.out.mono (by omega))
   have hky:k<vs.length:=by have:=HL.out;omega
   obtain⟨ab,_,e,la,sa,ao,al,ac,a2,a3,na'⟩:=(HA.out.below hbw zL).at k hkl
   simp only [Value.slice.injEq,true_and] at e
   obtain⟨rfl,rfl⟩:=e
   obtain⟨bb,_,e,lb,sb,bo,bl,bc,a6,a7,nb'⟩:=(HB.out.below hbw zL).at k hky
   simp only [Value.slice.injEq,true_and] at e
   obtain⟨rfl,rfl⟩:=e
   have law:ab<w.heap.size:=by
    obtain⟨_,_,e,l,-⟩:=HA.out.at k hkl
    simp only [Value.slice.injEq,Option.some.injEq,Addr.mk.injEq,and_true,true_and] at e
    omega
   have lbw:bb<w.heap.size:=by
    obtain⟨_,_,e,l,-⟩:=HB.out.at k hky
    simp only [Value.slice.injEq,Option.some.injEq,Addr.mk.injEq,and_true,true_and] at e
    omega
   have NA:=hide na';have NB:=hide nb'
   have NX:=hide (HX.out.below hbw zL);have NY:=hide (HY.out.below hbw zL)
   obtain⟨a0,a1,-,-⟩:=HT.out.fst.later HBE.out (by omega)
   obtain⟨a4,a5,-,-⟩:=HT.out.res.later HBE.out (by omega)
   have lx:w.heap.size<wr.heap.size:=by omega
   have ly:w.heap.size+1<wr.heap.size:=by omega
   have HTS:Hid (∀ r:Rn,(ps++[(r,x*us.getD k 0+y*vs.getD k 0)]).map (·.2)=ts.take (k+1)):=fun r=>by
    have hkt:k<ts.length:=by have:=HLT.out;omega
    rw [List.map_append,HP.out,List.take_succ_eq_append_getElem hkt,← HZ.out k hkl,List.getD_eq_getElem?_getD,List.getElem?_eq_getElem hkt];rfl
   have HBW:=hide hbw
   clear na' nb' hbw
   generalize us.getD k 0=p at *
   generalize vs.getD k 0=q at *
   go_wp2_with fail
   refine zw (S:=(fun w'=>w'.cell? ⟨w.heap.size,0,none⟩=some (.int .i64 xs)∧w'.cell? ⟨w.heap.size,1,none⟩=some (.slice xo xl xc)∧w'.cell? ⟨ab,k*2,none⟩=some (.int .i64 sa)∧w'.cell? ⟨ab,k*2+1,none⟩=some (.slice ao al ac)∧w'.cell? ⟨w.heap.size+1,0,none⟩=some (.int .i64 ys)∧w'.cell? ⟨w.heap.size+1,1,none⟩=some (.slice yo yl yc)∧w'.cell? ⟨bb,k*2,none⟩=some (.int .i64 sb)∧w'.cell? ⟨bb,k*2+1,none⟩=some (.slice bo bl bc))) (k:=17) (by kernel_rfl) (by(try dsimp only);go_keep) (fun hHeld=>?_)
   refine zf 0 17 [] ?_
   try simp only [zA]
   refine zf 1 18 [] ?_
   try simp only [zA]
   refine zf 2 19 [] ?_
   try simp only [zA]
   refine zf 3 20 [] ?_
   try simp only [zA]
   refine zf 4 21 [] ?_
   try simp only [zA]
   refine zf 5 22 [] ?_
   try simp only [zA]
   refine zf 7 24 [] ?_
   try simp only [zA]
   refine zf 8 25 [] ?_
   try simp only [zA]
   refine zf 9 26 [] ?_
   try simp only [zA]
   refine zf 10 27 [] ?_
   try simp only [zA]
   refine zf 11 28 [] ?_
   try simp only [zA]
   refine zg 6 (by kernel_rfl) rfl (fun K hK=>?_)
   go_simp
   (refine(zaI _ _ _ x p nx na (by exact NX.out) (by exact NA.out) (by omega) (by omega)).mono ?_;rintro e w2 ⟨r2,rfl,hr2,hb⟩;have b0:=(hb.cell (p:=⟨w.heap.size,0,none⟩) lx).trans a0;have b1:=(hb.cell (p:=⟨w.heap.size,1,none⟩) lx).trans a1;have b2:=(hb.cell (p:=⟨ab,k*2,none⟩) la).trans a2;have b3:=(hb.cell (p:=⟨ab,k*2+1,none⟩) la).trans a3;have b4:=(hb.cell (p:=⟨w.heap.size+1,0,none⟩) ly).trans a4;have b5:=(hb.cell (p:=⟨w.heap.size+1,1,none⟩) ly).trans a5;have b6:=(hb.cell (p:=⟨bb,k*2,none⟩) lb).trans a6;have b7:=(hb.cell (p:=⟨bb,k*2+1,none⟩) lb).trans a7;have hs2:wr.heap.size≤w2.heap.size:=hb.size;have HR2:=hide hr2;have HW2:Hid (Below wr.heap.size wr w2):=((Below.refl wr.heap.size wr).drew).trans hb;have NY2:=hide (NY.out.below HW2.out zL);have NB2:=hide (NB.out.below HW2.out zL);clear hb hr2)
   go_wp2_with fail
   refine hK.out _ _ (fun _=>by(try dsimp only);go_keep) ?_
   clear hK K
   try simp only [zA]
   refine zg 12 (by kernel_rfl) rfl (fun K hK=>?_)
   go_simp
   (refine(zaI _ _ _ y q ny nb (by exact NY2.out) (by exact NB2.out) (by omega) (by omega)).mono ?_;rintro e w3 ⟨r3,rfl,hr3,hb⟩;have c0:=(hb.cell (p:=⟨w.heap.size,0,none⟩) (zT lx hs2)).trans b0;have c1:=(hb.cell (p:=⟨w.heap.size,1,none⟩) (zT lx hs2)).trans b1;have c2:=(hb.cell (p:=⟨ab,k*2,none⟩) (zT la hs2)).trans b2;have c3:=(hb.cell (p:=⟨ab,k*2+1,none⟩) (zT la hs2)).trans b3;have c4:=(hb.cell (p:=⟨w.heap.size+1,0,none⟩) (zT ly hs2)).trans b4;have c5:=(hb.cell (p:=⟨w.heap.size+1,1,none⟩) (zT ly hs2)).trans b5;have c6:=(hb.cell (p:=⟨bb,k*2,none⟩) (zT lb hs2)).trans b6;have c7:=(hb.cell (p:=⟨bb,k*2+1,none⟩) (zT lb hs2)).trans b7;have hs3:wr.heap.size≤w3.heap.size:=Nat.le_trans hs2 hb.size;have HR3:=hide hr3;have HR2':=hide (HR2.out.below hb zL);have HW3:=hide (HW2.out.trans (hb.mono HW2.out.size));clear hb hr3)
   go_wp2_with fail
   refine hK.out _ _ (fun _=>by(try dsimp only);go_keep) ?_
   clear hK K
   try simp only [zA]
   refine zg 13 (by kernel_rfl) rfl (fun K hK=>?_)
   go_simp
   (refine(zbB _ _ _ (x*p) (y*q) m (HR2'.out.mono (by omega)) (HR3.out.mono (by omega)) (by omega)).mono ?_;rintro e w4 ⟨r4,rfl,hr4,hb⟩;obtain⟨rs,ro,rl,rc,rfl,-⟩:=hr4.form;have d0:=(hb.cell (p:=⟨w.heap.size,0,none⟩) (zT lx hs3)).trans c0;have d1:=(hb.cell (p:=⟨w.heap.size,1,none⟩) (zT lx hs3)).trans c1;have d2:=(hb.cell (p:=⟨ab,k*2,none⟩) (zT la hs3)).trans c2;have d3:=(hb.cell (p:=⟨ab,k*2+1,none⟩) (zT la hs3)).trans c3;have d4:=(hb.cell (p:=⟨w.heap.size+1,0,none⟩) (zT ly hs3)).trans c4;have d5:=(hb.cell (p:=⟨w.heap.size+1,1,none⟩) (zT ly hs3)).trans c5;have d6:=(hb.cell (p:=⟨bb,k*2,none⟩) (zT lb hs3)).trans c6;have d7:=(hb.cell (p:=⟨bb,k*2+1,none⟩) (zT lb hs3)).trans c7;have hs4:wr.heap.size≤w4.heap.size:=Nat.le_trans hs3 hb.size;have HR4:Hid (NumR w4 (Rn.val ⟨rs,ro,rl,rc⟩) (x*p+y*q) (m+1)):=hr4;have HW4:=hide (HW3.out.trans (hb.mono HW3.out.size));have HG4:=hide (HG.out.later HW4.out);have ha4:Below w4.heap.size w4 (w4.alloc (.cells #[.int .i64 rs,.slice ro rl rc] 40)):=(Below.refl _ _).alloc zL _;have e0:=(ha4.cell (p:=⟨w.heap.size,0,none⟩) (zT lx hs4)).trans d0;have e1:=(ha4.cell (p:=⟨w.heap.size,1,none⟩) (zT lx hs4)).trans d1;have e2:=(ha4.cell (p:=⟨ab,k*2,none⟩) (zT la hs4)).trans d2;have e3:=(ha4.cell (p:=⟨ab,k*2+1,none⟩) (zT la hs4)).trans d3;have e4:=(ha4.cell (p:=⟨w.heap.size+1,0,none⟩) (zT ly hs4)).trans d4;have e5:=(ha4.cell (p:=⟨w.heap.size+1,1,none⟩) (zT ly hs4)).trans d5;have e6:=(ha4.cell (p:=⟨bb,k*2,none⟩) (zT lb hs4)).trans d6;have e7:=(ha4.cell (p:=⟨bb,k*2+1,none⟩) (zT lb hs4)).trans d7;clear hb hr4 ha4)
   go_wp2_with fail
   refine hK.out _ _ (fun _=>by(try dsimp only);go_keep) ?_
   clear hK K
   try simp only [zA]
   refine zg 14 (by kernel_rfl) rfl (fun K hK=>?_)
   go_simp
   refine hK.out _ _ (fun _=>by(try dsimp only);go_keep) ?_
   clear hK K
   try simp only [zA]
   refine zg 15 (by kernel_rfl) rfl (fun K hK=>?_)
   refine step_append_lies _ rfl _ _ 106 rfl (w.heap.size+2) 40 i0 (.agg #[.int .i64 0,.slice none 0 0]) 2 32 (by kernel_rfl) HI0.out HZ0.out HZ1.out HZ2.out rfl (by decide) u9 ps.length (ps.flatMap rcells) rfl (HG4.out.1.alloc _) ⟨w4.heap.size,0,none⟩ 1 1 [.int .i64 rs,.slice ro rl rc] rfl rfl (World.news_of_block (heap_alloc_new w4 _)) (fun u hu=>by simp only [List.mem_cons,List.mem_nil_iff,or_false] at hu;rcases hu with rfl | rfl <;> rfl) (by decide) (by unfold maxLen;have:=HPL.out;omega) (by have:=HPL.out;omega) (by simp;omega) (w4.heap.size+1) (by simp) ?_
   intro g cap' w5 hown5 hgrow5 hat5 hlt5
   have hb5:Below (w.heap.size+2) w4 w5:=zaa HG4.out.1 (by omega) hgrow5
   have f0:=(hb5.cell (p:=⟨w.heap.size,0,none⟩) (by show w.heap.size<w.heap.size+2;omega)).trans d0;have f1:=(hb5.cell (p:=⟨w.heap.size,1,none⟩) (by show w.heap.size<w.heap.size+2;omega)).trans d1;have f2:=(hb5.cell (p:=⟨ab,k*2,none⟩) (by show ab<w.heap.size+2;omega)).trans d2;have f3:=(hb5.cell (p:=⟨ab,k*2+1,none⟩) (by show ab<w.heap.size+2;omega)).trans d3;have f4:=(hb5.cell (p:=⟨w.heap.size+1,0,none⟩) (by show w.heap.size+1<w.heap.size+2;omega)).trans d4;have f5:=(hb5.cell (p:=⟨w.heap.size+1,1,none⟩) (by show w.heap.size+1<w.heap.size+2;omega)).trans d5;have f6:=(hb5.cell (p:=⟨bb,k*2,none⟩) (by show bb<w.heap.size+2;omega)).trans d6;have f7:=(hb5.cell (p:=⟨bb,k*2+1,none⟩) (by show bb<w.heap.size+2;omega)).trans d7
   have HG5:=hide (zbs HG4.out HR4.out hown5 hgrow5)
   have HB5:=hide (HBE.out.trans ((HW4.out.mono (by omega)).trans hb5))
   clear hown5 hgrow5 hat5 hlt5 hb5
   refine hK.out _ _ (fun _=>by(try dsimp only);go_keep) ?_
   clear hK K
   try simp only [zA]
   refine zg 16 (by kernel_rfl) rfl (fun K hK=>?_)
   go_simp
   refine hK.out _ _ (fun _=>by(try dsimp only);go_keep) ?_
   clear hK K
   try simp only [zA]
   refine zt (by kernel_rfl) ?_
   have HP5:=hide (HTS.out ⟨rs,ro,rl,rc⟩)
   clear a0 a1 a2 a3 a4 a5 a6 a7 b0 b1 b2 b3 b4 b5 b6 b7 c0 c1 c2 c3 c4 c5 c6 c7 d0 d1 d2 d3 d4 d5 d6 d7 e0 e1 e2 e3 e4 e5 e6 e7 f0 f1 f2 f3 f4 f5 f6 f7 HTS HG HG4 HR4 HR2 HR2' HR3
   go_wp2
   go_roundw
   case rel=>exact⟨k+1,_,by omega,by go_num,HG5,HP5,HB5⟩
   case measure=>simp [intOf];omega
  ·obtain rfl:k=us.length:=by omega
   have HR:Hid (RowR wr u9 ts (m+1)):=by
    have:=HG.out.row
    rw [HP.out,List.take_of_length_le (by have:=HLT.out;omega)] at this
    exact this
   have HB:=hide (HT.out.below.trans (HBE.out.mono (by omega)))
   have HFR:Hid (∀ a l c,u9=.slice (some a) l c→w.heap.size≤a.block):=fun a l c e=>by
    rcases HG.out.1.2 with⟨e1,-⟩ |⟨g',cap',cur,e1,hb',-⟩
    ·rw [e1] at e;cases e
    ·rw [e1] at e
     simp only [Value.slice.injEq,Option.some.injEq] at e
     rw [← e.1]
     have:=HSZ.out
     show w.heap.size≤g'
     omega
   clear HG HP
   go_wp2
   go_ret
   exact⟨_,rfl,HR.out,HB.out,HFR.out⟩
theorem zbM (w:World)(vx va vy vb:Value)(x y:Int)(us vs:List Int)(nx na ny nb m:Nat)(hx:NumR w vx x nx)(ha:RowR w va us na)(hy:NumR w vy y ny)(hb:RowR w vb vs nb)(hl:us.length=vs.length)(h8:us.length≤1000)
  (h1:nx+na+1≤m) (h2:ny+nb+1≤m) (hm:m≤100000000000):
  Calls Tryz.prog 85 #[vx,va,vy,vb] w fun e w'=>RowPost w (List.zipWith (fun p q=>x*p+y*q) us vs) (m+1) e w':=
 (zeC w vx va vy vb x y us vs nx na ny nb m hx ha hy hb hl h8 h1 h2 hm).mono fun _ _ ⟨v,a,b,c,_⟩=>⟨v,a,b,c⟩
theorem NumR.fits{m:Nat}(h:NumR w v z n)(h0:-dp m<z)(h1:z<dp m):NumR w v z m:=by
 obtain⟨s,sl,ds,rfl,hd,hn,hz,hs,-⟩:=h
 have hdb:DB ds:=by obtain⟨_,_,_,_,_,h,_⟩:=hd;exact h
 refine⟨s,sl,ds,rfl,hd,hn,hz,hs,?_⟩
 rcases hs with⟨h,-⟩ |⟨-,h | h⟩
 ·omega
 ·subst h;exact zfn hdb hn (by omega)
 ·subst h;exact zfn hdb hn (by omega)
theorem NumR.sign{s:Int}{sl:Value}(h:NumR w (.agg #[.int .i64 s,sl]) z n):(z=0∧s=0)∨(0<z∧s=1)∨(z<0∧s=-1):=by
 obtain⟨s',sl',ds,e,hd,hn,hz,hs,-⟩:=h
 simp only [Value.agg.injEq,Array.mk.injEq,List.cons.injEq,Value.int.injEq,and_true,true_and] at e
 obtain⟨rfl,rfl⟩:=e
 have hdb:DB ds:=by obtain⟨_,_,_,_,_,h,_⟩:=hd;exact h
 rcases zbE hdb hn hs with⟨h1,h2⟩ |⟨h1,rfl | rfl⟩
 ·subst h2;exact .inl ⟨by omega,rfl⟩
 ·exact .inr (.inl ⟨by omega,rfl⟩)
 ·exact .inr (.inr ⟨by omega,rfl⟩)
theorem zfK(h:NumR w v z n):-dp n<z∧z<dp n:=by
 obtain⟨s,sl,ds,rfl,hd,hn,hz,hs,hl⟩:=h
 have hdb:DB ds:=by obtain⟨_,_,_,_,_,h,_⟩:=hd;exact h
 have h1:=zbp hdb
 have h2:=zaZ hdb
 have h3:=zbO hl
 rcases zbE hdb hn hs with⟨h4,h5⟩ |⟨h4,rfl | rfl⟩
 ·subst h5;omega
 ·omega
 ·omega
theorem zj5{left d left' lo:Int}(h:Q*B+left=A)(hl:left'=left*10000+d):(lo+10000*Q)*B+(left'-B*lo)=d+10000*A:=by
 have e1:(lo+10000*Q)*B=B*lo+10000 *(Q*B):=by rw [Int.add_mul,Int.mul_comm lo,Int.mul_assoc]
 omega
theorem zj4{sa sb L x y:Int}(hA:A=Q*B+L)(h0:0≤L)(h1:L<B)(hx:x=sa*A)(hy:y=sb*B)(hsa:sa=0∨sa=1∨sa=-1)(hsb:sb=1∨sb=-1):
  x=sa*sb*Q*y+sa*L∧(sa*L=0∨sa=sb→Left (sa*L) y)∧(sa*L≠0→sa≠sb→x=(sa*sb*Q-1)*y+(sa*L+y)∧Left (sa*L+y) y):=by
 have e:∀ s:Int,s=1∨s=-1→sa*s*Q *(s*B)=sa *(Q*B):=fun s hs=>by rcases hs with rfl | rfl <;> simp [Int.mul_assoc,Int.mul_neg,Int.neg_mul]
 have ee:=e sb hsb
 have hx':x=sa*sb*Q*y+sa*L:=by rw [hx,hA,hy,ee,Int.mul_add]
 refine⟨hx',fun h=>?_,fun h2 h3=>⟨?_,?_⟩⟩
 ·unfold Left
  rcases hsa with rfl | rfl | rfl <;> rcases hsb with rfl | rfl <;> omega
 ·rw [hx',Int.sub_mul,Int.one_mul];omega
 ·unfold Left
  rcases hsa with rfl | rfl | rfl <;> rcases hsb with rfl | rfl <;> omega
structure OSt (w W:World)(D:Nat)(a0 a1 b0 b1 l0 l1 d0 d1:Value):Prop where
 a:BoxR W w.heap.size a0 a1
 b:BoxR W (w.heap.size+1) b0 b1
 r:BoxR W (w.heap.size+1+1) (.int .i64 0) (.slice none 0 0)
 s:BoxR W (w.heap.size+1+1+1) (.int .i64 0) (.slice none 0 0)
 l:BoxR W (w.heap.size+1+1+1+1) l0 l1
 d:BoxR W D d0 d1
 below:Below w.heap.size w W
 hD:w.heap.size+1+1+1+1<D
theorem OSt.later{W':World}(h:OSt w W D a0 a1 b0 b1 l0 l1 d0 d1)(hb:Below W.heap.size W W'):OSt w W' D a0 a1 b0 b1 l0 l1 d0 d1:=
 ⟨h.a.later hb h.a.lt,h.b.later hb h.b.lt,h.r.later hb h.r.lt,h.s.later hb h.s.lt,h.l.later hb h.l.lt,h.d.later hb h.d.lt,h.below.trans (hb.mono h.below.size),h.hD⟩
theorem OSt.drew(h:OSt w W D a0 a1 b0 b1 l0 l1 d0 d1):OSt w W.drew D a0 a1 b0 b1 l0 l1 d0 d1:=⟨h.a,h.b,h.r,h.s,h.l,h.d,h.below.drew,h.hD⟩
theorem OSt.setL(h:OSt w W D a0 a1 b0 b1 l0 l1 d0 d1)(u0 u1:Value):OSt w ((W.setCell ⟨w.heap.size+1+1+1+1,0,none⟩ u0).setCell ⟨w.heap.size+1+1+1+1,1,none⟩ u1) D a0 a1 b0 b1 u0 u1 d0 d1:=
 ⟨(h.a.other (by omega) _ _).other (by omega) _ _,(h.b.other (by omega) _ _).other (by omega) _ _,(h.r.other (by omega) _ _).other (by omega) _ _,(h.s.other (by omega) _ _).other (by omega) _ _,h.l.set _ _,(h.d.other (by have:=h.hD;omega) _ _).other (by have:=h.hD;omega) _ _,(h.below.setCell (by simp;omega) _).setCell (by simp;omega) _,h.hD⟩
theorem zjS(hb:Below ((((((w.alloc (.cells #[a0,a1] 40)).alloc (.cells #[b0,b1] 40)).alloc (.cells #[.int .i64 0,.slice none 0 0] 40)).alloc (.cells #[.int .i64 0,.slice none 0 0] 40)).alloc (.cells #[.int .i64 0,.slice none 0 0] 40))).heap.size ((((((w.alloc (.cells #[a0,a1] 40)).alloc (.cells #[b0,b1] 40)).alloc (.cells #[.int .i64 0,.slice none 0 0] 40)).alloc (.cells #[.int .i64 0,.slice none 0 0] 40)).alloc (.cells #[.int .i64 0,.slice none 0 0] 40))) W):
  OSt w (W.alloc (.cells #[d0,d1] 40)) W.heap.size a0 a1 b0 b1 (.int .i64 0) (.slice none 0 0) d0 d1:=by
 have hs:=hb.size
 simp at hs
 have up:∀ {B:Nat} {u0 u1:Value},B<w.heap.size+5→BoxR ((((((w.alloc (.cells #[a0,a1] 40)).alloc (.cells #[b0,b1] 40)).alloc (.cells #[.int .i64 0,.slice none 0 0] 40)).alloc (.cells #[.int .i64 0,.slice none 0 0] 40)).alloc (.cells #[.int .i64 0,.slice none 0 0] 40))) B u0 u1→BoxR (W.alloc (.cells #[d0,d1] 40)) B u0 u1:=fun hB h=>
  (h.later hb h.lt).later ((Below.refl _ _).alloc zL _:Below W.heap.size _ _) (by omega)
 have k:∀(n:Nat) (V:World) (o:Obj),V.heap.size=n→Below n V (V.alloc o):=fun n V o h=>(Below.refl _ _).alloc (by omega) _
 refine⟨up (by omega) ?_,up (by omega) ?_,up (by omega) ?_,up (by omega) ?_,up (by omega) ?_,zp W _ _ _ rfl,?_,by omega⟩
 ·exact((((zp w _ _ _ rfl).later (k (w.heap.size+1) _ _ (by simp)) (by omega)).later (k (w.heap.size+1+1) _ _ (by simp)) (by omega)).later (k (w.heap.size+1+1+1) _ _ (by simp)) (by omega)).later (k (w.heap.size+1+1+1+1) _ _ (by simp)) (by omega)
 ·exact(((zp (w.alloc _) _ _ _ (by simp)).later (k (w.heap.size+1+1) _ _ (by simp)) (by omega)).later (k (w.heap.size+1+1+1) _ _ (by simp)) (by omega)).later (k (w.heap.size+1+1+1+1) _ _ (by simp)) (by omega)
 ·exact((zp ((w.alloc _).alloc _) _ _ _ (by simp)).later (k (w.heap.size+1+1+1) _ _ (by simp)) (by omega)).later (k (w.heap.size+1+1+1+1) _ _ (by simp)) (by omega)
 ·exact(zp (((w.alloc _).alloc _).alloc _) _ _ _ (by simp)).later (k (w.heap.size+1+1+1+1) _ _ (by simp)) (by omega)
 ·exact zp ((((w.alloc _).alloc _).alloc _).alloc _) _ _ _ (by simp)
 ·have h0:Below w.heap.size w ((((((w.alloc (.cells #[a0,a1] 40)).alloc (.cells #[b0,b1] 40)).alloc (.cells #[.int .i64 0,.slice none 0 0] 40)).alloc (.cells #[.int .i64 0,.slice none 0 0] 40)).alloc (.cells #[.int .i64 0,.slice none 0 0] 40))):=
   (((((Below.refl _ _).alloc zL _).alloc (by simp) _).alloc (by simp;omega) _).alloc (by simp;omega) _).alloc (by simp;omega) _
  exact(h0.trans (hb.mono (by simp;omega))).alloc (by omega) _
theorem ten4{H:Nat}(h:W.heap[H]?=some (.cells #[.int .i64 0,.int .i64 1] 3)):NumR W (.agg #[.int .i64 1,.slice (some ⟨H,0,none⟩) 2 2]) 10000 2:=by
 refine⟨1,_,[0,1],rfl,⟨_,2,rfl,by simp,by simp,zcj (by decide) (zcj (by decide) zbh),fun _=>⟨H,0,_,_,rfl,h,fun i hi=>?_⟩⟩,.inr (by decide),by decide,.inr ⟨by simp,.inl rfl⟩,by simp⟩
 have:=World.news_of_block h i
 simp at hi
 rcases(by omega:i=0∨i=1) with rfl | rfl
 ·exact World.news_of_block h 0 _ rfl
 ·exact World.news_of_block h 1 _ rfl
theorem Dig.news{b off cap:Nat}(h:Dig w (.slice (some ⟨b,off,none⟩) ds.length cap) ds)(h0:0<ds.length):∀ j u,(ds.map (Value.int .i64))[j]?=some u→w.cell? ((⟨b,off,none⟩:Addr).add j)=some u:=fun j u hu=>by
 obtain⟨_,_,e,-,-,-,hac⟩:=h
 simp only [Value.slice.injEq,true_and] at e
 obtain⟨rfl,rfl⟩:=e
 obtain⟨ab,aoff,acur,afz,e,-,hac⟩:=hac h0
 simp only [Option.some.injEq,Addr.mk.injEq,and_true] at e
 obtain⟨rfl,rfl⟩:=e
 rw [List.getElem?_map] at hu
 by_cases hj:j<ds.length
 ·rw [List.getElem?_eq_getElem hj] at hu
  simp only [Option.map_some,Option.some.injEq] at hu
  subst hu
  have:=hac j hj
  rw [List.getD_eq_getElem?_getD,List.getElem?_eq_getElem hj,Option.getD_some] at this
  unfold Addr.add
  split
  ·rename_i h0;subst h0;exact this
  ·exact this
 ·rw [List.getElem?_eq_none (by omega)] at hu
  cases hu
theorem Dig.form(h:Dig w v ds)(h0:0<ds.length):∃ b off cap,v=.slice (some ⟨b,off,none⟩) ds.length cap:=by
 obtain⟨ao,cap,rfl,-,-,-,hac⟩:=h
 obtain⟨b,off,_,_,rfl,-⟩:=hac h0
 exact⟨b,off,cap,rfl⟩
def OverPost (w:World)(x y:Int)(n m:Nat)(e:Ending)(w':World):Prop:=
 ∃ vq vr q r,e=.returned (.tuple #[vq,vr])∧NumR w' vq q (n+6)∧NumR w' vr r m∧x=q*y+r∧Left r y∧Below w.heap.size w w'
structure OInv (w wr:World)(D:Nat)(a b:List Int)(m:Nat)(p:Nat)(vq:Value)(qs:List Int)(left:Int)(l0 l1 d0 d1:Value):Prop where
 q:Dig wr vq qs
 ql:qs.length=a.length-p
 e0:qs.length=0→vq=.slice none 0 0
 sum:dv qs*dv b+left=dv (a.drop p)
 le0:0≤left
 le1:left<dv b
 num:NumR wr (.agg #[l0,l1]) left m
 siz:NumR wr (.agg #[d0,d1]) (dv b) m
end Go.Proofs.YtdedolkgcdlmeaaGreatDoor
