import Derived.Test.YtdedolkgcdlmeaaGreatDoorRefComb
set_option maxRecDepth 100000
set_option maxHeartbeats 4000000
set_option linter.unusedSimpArgs false
namespace Go.Proofs.YtdedolkgcdlmeaaGreatDoor
open Go.RowKit Limbs Digs
variable{W w wr W':World}{n sb base cap k d g a0 b off j c:Nat}{v u:Value}{zs us:List Int}{nb D:Nat→Nat}
variable {Z:Prop}
theorem RowQ.setTyped(h:RowQ Z w v zs n){B:Nat}{c:Array Value}{t:TypeId}{fz:Nat × Nat}(hB:w.heap[B]?=some (.cells c t fz))(h1:t≠3)(h2:t≠40)(k:Nat)(u:Value):RowQ Z (w.setCell ⟨B,k,none⟩ u) v zs n:=by
 obtain⟨ao,cap,hv,h3,h4⟩:=h;refine⟨ao,cap,hv,h3,fun h0=>?_⟩;obtain⟨b,off,cur,fz',e,hh,hc⟩:=h4 h0;have hne:b≠B:=fun e=>by
  subst e;rw [hh] at hB;simp only [Option.some.injEq,Obj.cells.injEq] at hB;exact h2 hB.2.1.symm
 refine⟨b,off,cur,fz',e,(heap_setCell_other w ⟨B,k,none⟩ b u hne).trans hh,fun i hi=>?_⟩;obtain⟨s,o,l,c',h5,h6,h7⟩:=hc i hi;exact⟨s,o,l,c',(World.cell?_setCell_other (h:=fun e=>by simp at e <;> omega) ..).trans h5,(World.cell?_setCell_other (h:=fun e=>by simp at e <;> omega) ..).trans h6,h7.setTyped hB h1 k u⟩
theorem RowQ.mono{m:Nat}(h:RowQ Z w v zs n)(hm:n≤m):RowQ Z w v zs m:=by
 obtain⟨ao,cap,hv,h3,h4⟩:=h;refine⟨ao,cap,hv,h3,fun h0=>?_⟩;obtain⟨b,off,cur,fz',e,hh,hc⟩:=h4 h0;refine⟨b,off,cur,fz',e,hh,fun i hi=>?_⟩;obtain⟨s,o,l,c',h5,h6,h7⟩:=hc i hi;exact⟨s,o,l,c',h5,h6,h7.mono hm⟩
theorem RowQ.form(h:RowQ Z w v zs n)(h0:0<zs.length):∃ b off cap,v=.slice (some ⟨b,off,none⟩) zs.length cap:=by
 obtain⟨ao,cap,rfl,h3,h4⟩:=h;obtain⟨b,off,-,-,rfl,-⟩:=h4 h0;exact⟨b,off,cap,rfl⟩
structure StairQ (Z:Prop)(w W:World)(sb n:Nat)(R:Nat→Option (List Int))(D:Nat→Nat):Prop where
 low:w.heap.size≤sb
 below:Below w.heap.size w W
 blk:∃ cs,W.heap[sb]?=some (.cells cs 106)
 nil:∀ i,i<n→R i=none→W.cell? ⟨sb,i,none⟩=some (.slice none 0 0)
 row:∀ i,i<n→∀ r,R i=some r→∃ b off cap,W.cell? ⟨sb,i,none⟩=some (.slice (some ⟨b,off,none⟩) r.length cap)∧RowQ Z W (.slice (some ⟨b,off,none⟩) r.length cap) r (D i)
theorem StairQ.lt{R:Nat→Option (List Int)}(h:StairQ Z w W sb n R D):sb<W.heap.size:=by
 obtain⟨cs,e⟩:=h.blk;exact zj e
theorem StairQ.later{R:Nat→Option (List Int)}(h:StairQ Z w W sb n R D)(hb:Below W.heap.size W W'):StairQ Z w W' sb n R D where
 low:=h.low
 below:=h.below.trans (hb.mono h.below.size)
 blk:=by obtain⟨cs,e⟩:=h.blk;exact⟨cs,(hb.block _ (zj e)).trans e⟩
 nil:=fun i hi e=>(hb.cell (p:=⟨sb,i,none⟩) h.lt).trans (h.nil i hi e)
 row:=fun i hi r e=>by
  obtain⟨b,off,cap,hc,hv⟩:=h.row i hi r e;exact⟨b,off,cap,(hb.cell (p:=⟨sb,i,none⟩) h.lt).trans hc,hv.below hb zL⟩
theorem StairQ.mono{R:Nat→Option (List Int)}{D':Nat→Nat}(h:StairQ Z w W sb n R D)(hn:∀ i,i<n→D i≤D' i):StairQ Z w W sb n R D':=
 ⟨h.low,h.below,h.blk,h.nil,fun i hi r e=>by
  obtain⟨b,off,cap,hc,hv⟩:=h.row i hi r e;exact⟨b,off,cap,hc,hv.mono (hn i hi)⟩⟩
theorem StairQ.cell{R:Nat→Option (List Int)}(h:StairQ Z w W sb n R D){i:Nat}(hi:i<n):∃ o l c,W.cell? ⟨sb,i,none⟩=some (.slice o l c):=by
 cases e:R i with
 | none=>exact⟨_,_,_,h.nil i hi e⟩
 | some r=>obtain⟨b,off,cap,hc,-⟩:=h.row i hi r e;exact⟨_,_,_,hc⟩
theorem StairQ.thaw{R:Nat→Option (List Int)}(h:StairQ Z w W sb n R D)(k:Nat):W.frozen? ⟨sb,k,none⟩=false:=by
 obtain⟨cs,e⟩:=h.blk;simp [World.frozen?,e]
theorem StairQ.set{R:Nat→Option (List Int)}(h:StairQ Z w W sb n R D)(hk:k<n){r:List Int}(hr:RowQ Z W (.slice (some ⟨b,off,none⟩) r.length cap) r d):
  StairQ Z w (W.setCell ⟨sb,k,none⟩ (.slice (some ⟨b,off,none⟩) r.length cap)) sb n (putRow R k r) (fun i=>if i=k then d else D i):=by
 obtain⟨cs,hcs⟩:=h.blk;obtain⟨o,l,c,hc⟩:=h.cell hk
 have oth:∀ i u,i≠k→W.cell? ⟨sb,i,none⟩=some u→(W.setCell ⟨sb,k,none⟩ (.slice (some ⟨b,off,none⟩) r.length cap)).cell? ⟨sb,i,none⟩=some u:=fun i u hi e=>
  (World.cell?_setCell_other (h:=fun e=>by simp at e <;> omega) ..).trans e
 refine⟨h.low,h.below.setCell h.low _,⟨_,heap_setCell_same W sb k _ _ _ hcs⟩,?_,?_⟩
 ·intro i hi e;unfold putRow at e;by_cases hik:i=k
  ·rw [if_pos hik] at e;cases e
  ·rw [if_neg hik] at e;exact oth i _ hik (h.nil i hi e)
 ·intro i hi r' e;unfold putRow at e;by_cases hik:i=k
  ·rw [if_pos hik] at e;obtain rfl:=zI e;subst hik;exact⟨b,off,cap,World.cell?_setCell_same (h:=hc) ..,by rw [if_pos rfl];exact hr.setTyped hcs (by decide) (by decide) _ _⟩
  ·rw [if_neg hik] at e;obtain⟨b',off',cap',hc',hv'⟩:=h.row i hi r' e;exact⟨b',off',cap',oth i _ hik hc',by rw [if_neg hik];exact hv'.setTyped hcs (by decide) (by decide) _ _⟩
theorem StairQ.made (w:World)(n:Nat)(D:Nat→Nat):StairQ Z w (w.alloc (.cells (madeCells #[.slice none 0 0] n) 106)) w.heap.size n (fun _=>none) D where
 low:=Nat.le_refl _
 below:=(zB _ _).alloc zL _
 blk:=⟨_,heap_alloc_new w _⟩
 nil:=fun i hi _=>by
  rw [World.cell?_alloc_new];simp [madeCells,hi,Nat.mod_one]
 row:=fun i hi r e=>by cases e
structure GrowBQ (Z:Prop)(W:World)(base:Nat)(v:Value)(qs:List (Value × List Int))(nb:Nat→Nat):Prop where
 own:W.ownsRow base 106 1 v qs.length (qs.map (·.1))
 row:∀ j q,qs[j]?=some q→RowQ Z W q.1 q.2 (nb j)
theorem GrowBQ.nil (W:World)(base:Nat)(nb:Nat→Nat):GrowBQ Z W base (.slice none 0 0) [] nb:=⟨World.ownsRow_nil _ _ _ _,fun j q h=>by simp at h⟩
theorem GrowBQ.later{qs:List (Value × List Int)}(h:GrowBQ Z W base v qs nb)(hb:Below W.heap.size W W'):GrowBQ Z W' base v qs nb:=
 ⟨zcI h.own hb,fun j q e=>(h.row j q e).below hb zL⟩
theorem GrowBQ.mono{qs:List (Value × List Int)}{nb':Nat→Nat}(h:GrowBQ Z W base v qs nb)(hn:∀ j,j<qs.length→nb j≤nb' j):GrowBQ Z W base v qs nb':=
 ⟨h.own,fun j q e=>(h.row j q e).mono (hn j (List.getElem?_eq_some_iff.1 e).1)⟩
theorem GrowBQ.form{qs:List (Value × List Int)}(h:GrowBQ Z W base v qs nb):∃ o cap,v=.slice o qs.length cap∧(0<qs.length→∃ g,o=some ⟨g,0,none⟩):=by
 rcases h.own.2 with⟨rfl,hn⟩ |⟨g,cap,cur,rfl,-⟩
 ·exact⟨none,0,by rw [hn],fun h=>by omega⟩
 ·exact⟨_,cap,rfl,fun _=>⟨g,rfl⟩⟩
theorem GrowBQ.cell{qs:List (Value × List Int)}(h:GrowBQ Z W base (.slice (some ⟨g,0,none⟩) qs.length cap) qs nb){q:Value × List Int}(e:qs[j]?=some q):W.cell? ⟨g,j,none⟩=some q.1∧g<W.heap.size∧base≤g∧W.frozen? ⟨g,j,none⟩=false∧∃ cs,W.heap[g]?=some (.cells cs 106):=by
 rcases h.own.2 with⟨e',-⟩ |⟨g',cap',cur,e',hb,hh,hc1,hc2,hc3,hc4⟩
 ·cases e'
 ·simp only [zV,Option.some.injEq,Addr.mk.injEq,and_true,true_and] at e';obtain⟨rfl,rfl⟩:=e';refine⟨?_,zj hh,hb,by simp [World.frozen?,hh],cur,hh⟩;have:=World.news_of_block hh j q.1 (by
   have hj:=(List.getElem?_eq_some_iff.1 e).1;have e2:(qs.map (·.1))[j]?=some q.1:=by rw [List.getElem?_map,e];rfl
   rw [← hc4,List.getElem?_take,if_pos (by omega)] at e2;exact e2)
  have ea:(⟨g,0,none⟩:Addr).add j=⟨g,j,none⟩:=by unfold Addr.add;split <;> simp_all
  rwa [ea] at this
theorem GrowBQ.set{qs:List (Value × List Int)}(h:GrowBQ Z W base (.slice (some ⟨g,0,none⟩) qs.length cap) qs nb)(hj:j<qs.length)(hz:RowQ Z W u zs d):
  GrowBQ Z (W.setCell ⟨g,j,none⟩ u) base (.slice (some ⟨g,0,none⟩) (qs.set j (u,zs)).length cap) (qs.set j (u,zs)) (fun i=>if i=j then d else nb i):=by
 obtain⟨-,-,-,-,cs,hcs⟩:=h.cell (List.getElem?_eq_getElem hj);refine⟨?_,fun i q e=>?_⟩
 ·rw [List.length_set,List.map_set];exact(h.own.stored j u).1
 ·rw [List.getElem?_set] at e;by_cases hij:j=i
  ·rw [if_pos hij,if_pos hj] at e;obtain rfl:=zI e;rw [if_pos hij.symm];exact hz.setTyped hcs (by decide) (by decide) _ _
  ·rw [if_neg hij] at e;rw [if_neg (fun e=>hij e.symm)];exact(h.row i q e).setTyped hcs (by decide) (by decide) _ _
theorem zeZ{w':World}{qs:List (Value × List Int)}(h:GrowBQ Z W base v qs nb)(hz:RowQ Z W u zs d)
  (hown:w'.ownsRow base 106 1 (.slice (some ⟨g,0,none⟩) (qs.length+1) cap) (qs.length+1) (qs.map (·.1)++[u]))
  (hg:W.grownBy w' v.ownBlock):GrowBQ Z w' base (.slice (some ⟨g,0,none⟩) (qs.length+1) cap) (qs++[(u,zs)]) (fun i=>if i<qs.length then nb i else d):=by
 have hty:Typed W v.ownBlock [3,40]:=zaX h.own (by decide);refine⟨by rw [List.length_append,List.length_singleton,List.map_append];exact hown,fun i q e=>?_⟩;by_cases hi:i<qs.length
 ·rw [List.getElem?_append_left hi] at e;rw [if_pos hi];exact(h.row i q e).grown hg hty
 ·rw [List.getElem?_append_right (by omega)] at e;have h0:i-qs.length=0:=by
   have:=(List.getElem?_eq_some_iff.1 e).1;simpa using this
  rw [h0] at e;simp only [List.getElem?_cons_zero,Option.some.injEq] at e;rw [if_neg hi,← e];exact hz.grown hg hty
theorem GrowBQ.mat{qs:List (Value × List Int)}(h:GrowBQ Z W base v qs nb)(hd:∀ j,j<qs.length→nb j≤d):MatQ Z W v (qs.map (·.2)) d:=by
 have hg:GrowQ Z W base v qs d:=⟨h.own,fun q hq=>by
  obtain⟨j,hj,e⟩:=List.getElem_of_mem hq;exact(h.row j q (by rw [List.getElem?_eq_getElem hj,e])).mono (hd j hj)⟩
 exact hg.mat
variable {Z:Prop}
theorem zeH (w:World)(vx va vy vb:Value)(x y:Int)(us vs:List Int)(nx na ny nb m:Nat)(hx:NumR w vx x nx)(ha:RowQ Z w va us na)(hy:NumR w vy y ny)(hb:RowQ Z w vb vs nb)(hl:us.length=vs.length)(h8:us.length≤1000)
  (h1:nx+na+1≤m) (h2:ny+nb+1≤m) (hm:m≤100000000000):
  Calls Tryz.prog 85 #[vx,va,vy,vb] w fun e w'=>RowPostN w (List.zipWith (fun p q=>x*p+y*q) us vs) (m+1) e w':=by
 obtain⟨i0,hi,hz0,hz1,hz2⟩:=info_parts Tryz.infoRNum;have HI0:=hide hi;have HZ0:=hide hz0;have HZ1:=hide hz1;have HZ2:=hide hz2;clear hi hz0 hz1 hz2;have HA:=hide ha;have HB:=hide hb;have HX:=hide hx;have HY:=hide hy;have hlt:=zg (fun p q=>x*p+y*q) us vs hl;have HZ:=hide (zi (fun p q=>x*p+y*q) us vs hl);obtain⟨xs,xo,xl,xc,rfl,-⟩:=hx.form;obtain⟨ys,yo,yl,yc,rfl,-⟩:=hy.form;obtain⟨ao',acap,rfl,-,-⟩:=ha;obtain⟨bo',bcap,rfl,-,-⟩:=hb;clear hx hy;have HL:=hide hl;clear hl;have hT:=two w (.int .i64 xs) (.slice xo xl xc) (.int .i64 ys) (.slice yo yl yc) 40 40;obtain⟨W0,hW0⟩:∃ W0:World,W0=(w.alloc (.cells #[.int .i64 xs,.slice xo xl xc] 40)).alloc (.cells #[.int .i64 ys,.slice yo yl yc] 40):=⟨_,rfl⟩;have hsz:W0.heap.size=w.heap.size+2:=by rw [hW0];simp
 rw [← hW0] at hT;have HT:=hide hT;have HSZ:=hide hsz;have HLT:=hide hlt;clear hT hsz hlt;generalize List.zipWith (fun p q=>x*p+y*q) us vs=ts at *;go_enter Tryz.func85,Tryz.ntmps85;go_wp2;rw [← hW0];clear hW0;go_loopw [9,10] (fun out i wr=>∃(k:Nat) (ps:List (Rn × Int)),k≤us.length∧i=.int .i64 k∧Hid (GrowR wr (w.heap.size+2) out ps (m+1))∧Hid (ps.map (·.2)=ts.take k)∧Hid (Below (w.heap.size+2) W0 wr)) (fun _ i _=>us.length-(intOf i).toNat)
 case atStart=>exact⟨0,[],Nat.zero_le _,rfl,hide (GrowR.nil _ _ _),hide (by simp),hide (zB _ _)⟩
 case round=>
  obtain⟨k,ps,hk,rfl,HG,HP,HBE⟩:=hrel;have HPL:Hid (ps.length=k):=by
   have:=congrArg List.length HP.out;rw [zM,List.length_take] at this;show ps.length=k;have:=HLT.out;omega
  have hbs:w.heap.size+2≤wr.heap.size:=by have:=HBE.out.size;have:=HSZ.out;omega
  by_cases hkl:k<us.length
  ·have hbw:Below w.heap.size w wr:=HT.out.below.trans (HBE.out.mono (by omega));have hky:k<vs.length:=by have:=HL.out;omega
   obtain⟨ab,aof,_,e,la,sa,ao,al,ac,a2,a3,na'⟩:=(HA.out.below hbw zL).at k hkl;simp only [zV,true_and] at e;obtain⟨rfl,rfl⟩:=e;obtain⟨bb,bof,_,e,lb,sb,bo,bl,bc,a6,a7,nb'⟩:=(HB.out.below hbw zL).at k hky;simp only [zV,true_and] at e;obtain⟨rfl,rfl⟩:=e;have law:ab<w.heap.size:=by
    obtain⟨_,_,_,e,l,-⟩:=HA.out.at k hkl;simp only [zV,Option.some.injEq,Addr.mk.injEq,and_true,true_and] at e;omega
   have lbw:bb<w.heap.size:=by
    obtain⟨_,_,_,e,l,-⟩:=HB.out.at k hky;simp only [zV,Option.some.injEq,Addr.mk.injEq,and_true,true_and] at e;omega
   have NA:=hide na';have NB:=hide nb';have NX:=hide (HX.out.below hbw zL);have NY:=hide (HY.out.below hbw zL);obtain⟨a0,a1,-,-⟩:=HT.out.fst.later HBE.out (by omega);obtain⟨a4,a5,-,-⟩:=HT.out.res.later HBE.out (by omega);have lx:w.heap.size<wr.heap.size:=by omega
   have ly:w.heap.size+1<wr.heap.size:=by omega
   have HTS:Hid (∀ r:Rn,(ps++[(r,x*us.getD k 0+y*vs.getD k 0)]).map (·.2)=ts.take (k+1)):=fun r=>by
    have hkt:k<ts.length:=by have:=HLT.out;omega
    rw [List.map_append,HP.out,List.take_succ_eq_append_getElem hkt,← HZ.out k hkl,zG,List.getElem?_eq_getElem hkt];rfl
   have HBW:=hide hbw;clear na' nb' hbw;generalize us.getD k 0=p at *;generalize vs.getD k 0=q at *;go_wp2_with fail;refine zp (S:=(fun w'=>w'.cell? ⟨w.heap.size,0,none⟩=some (.int .i64 xs)∧w'.cell? ⟨w.heap.size,1,none⟩=some (.slice xo xl xc)∧w'.cell? ⟨ab,aof+k*2,none⟩=some (.int .i64 sa)∧w'.cell? ⟨ab,aof+k*2+1,none⟩=some (.slice ao al ac)∧w'.cell? ⟨w.heap.size+1,0,none⟩=some (.int .i64 ys)∧w'.cell? ⟨w.heap.size+1,1,none⟩=some (.slice yo yl yc)∧w'.cell? ⟨bb,bof+k*2,none⟩=some (.int .i64 sb)∧w'.cell? ⟨bb,bof+k*2+1,none⟩=some (.slice bo bl bc))) (k:=17) (by kernel_rfl) (by(try dsimp only);go_keep) (fun hHeld=>?_);refine zd 0 17 [] ?_;try simp only [zA]
   refine zd 1 18 [] ?_;try simp only [zA]
   refine zd 2 19 [] ?_;try simp only [zA]
   refine zd 3 20 [] ?_;try simp only [zA]
   refine zd 4 21 [] ?_;try simp only [zA]
   refine zd 5 22 [] ?_;try simp only [zA]
   refine zd 7 24 [] ?_;try simp only [zA]
   refine zd 8 25 [] ?_;try simp only [zA]
   refine zd 9 26 [] ?_;try simp only [zA]
   refine zd 10 27 [] ?_;try simp only [zA]
   refine zd 11 28 [] ?_;try simp only [zA]
   refine ze 6 (by kernel_rfl) rfl (fun K hK=>?_);go_simp
   (refine(zba _ _ _ x p nx na (by exact NX.out) (by exact NA.out) (by omega) (by omega)).mono ?_;rintro e w2 ⟨r2,rfl,hr2,hb⟩;have b0:=(hb.cell (p:=⟨w.heap.size,0,none⟩) lx).trans a0;have b1:=(hb.cell (p:=⟨w.heap.size,1,none⟩) lx).trans a1;have b2:=(hb.cell (p:=⟨ab,aof+k*2,none⟩) la).trans a2;have b3:=(hb.cell (p:=⟨ab,aof+k*2+1,none⟩) la).trans a3;have b4:=(hb.cell (p:=⟨w.heap.size+1,0,none⟩) ly).trans a4;have b5:=(hb.cell (p:=⟨w.heap.size+1,1,none⟩) ly).trans a5;have b6:=(hb.cell (p:=⟨bb,bof+k*2,none⟩) lb).trans a6;have b7:=(hb.cell (p:=⟨bb,bof+k*2+1,none⟩) lb).trans a7;have hs2:wr.heap.size≤w2.heap.size:=hb.size;have HR2:=hide hr2;have HW2:Hid (Below wr.heap.size wr w2):=((zB wr.heap.size wr).drew).trans hb;have NY2:=hide (NY.out.below HW2.out zL);have NB2:=hide (NB.out.below HW2.out zL);clear hb hr2)
   go_wp2_with fail;refine hK.out _ _ (fun _=>by(try dsimp only);go_keep) ?_;clear hK K;try simp only [zA]
   refine ze 12 (by kernel_rfl) rfl (fun K hK=>?_);go_simp
   (refine(zba _ _ _ y q ny nb (by exact NY2.out) (by exact NB2.out) (by omega) (by omega)).mono ?_;rintro e w3 ⟨r3,rfl,hr3,hb⟩;have c0:=(hb.cell (p:=⟨w.heap.size,0,none⟩) (zT lx hs2)).trans b0;have c1:=(hb.cell (p:=⟨w.heap.size,1,none⟩) (zT lx hs2)).trans b1;have c2:=(hb.cell (p:=⟨ab,aof+k*2,none⟩) (zT la hs2)).trans b2;have c3:=(hb.cell (p:=⟨ab,aof+k*2+1,none⟩) (zT la hs2)).trans b3;have c4:=(hb.cell (p:=⟨w.heap.size+1,0,none⟩) (zT ly hs2)).trans b4;have c5:=(hb.cell (p:=⟨w.heap.size+1,1,none⟩) (zT ly hs2)).trans b5;have c6:=(hb.cell (p:=⟨bb,bof+k*2,none⟩) (zT lb hs2)).trans b6;have c7:=(hb.cell (p:=⟨bb,bof+k*2+1,none⟩) (zT lb hs2)).trans b7;have hs3:wr.heap.size≤w3.heap.size:=Nat.le_trans hs2 hb.size;have HR3:=hide hr3;have HR2':=hide (HR2.out.below hb zL);have HW3:=hide (HW2.out.trans (hb.mono HW2.out.size));clear hb hr3)
   go_wp2_with fail;refine hK.out _ _ (fun _=>by(try dsimp only);go_keep) ?_;clear hK K;try simp only [zA]
   refine ze 13 (by kernel_rfl) rfl (fun K hK=>?_);go_simp
   (refine(zcK _ _ _ (x*p) (y*q) m (HR2'.out.mono (by omega)) (HR3.out.mono (by omega)) (by omega)).mono ?_;rintro e w4 ⟨r4,rfl,hr4,hb⟩;obtain⟨rs,ro,rl,rc,rfl,-⟩:=hr4.form;have d0:=(hb.cell (p:=⟨w.heap.size,0,none⟩) (zT lx hs3)).trans c0;have d1:=(hb.cell (p:=⟨w.heap.size,1,none⟩) (zT lx hs3)).trans c1;have d2:=(hb.cell (p:=⟨ab,aof+k*2,none⟩) (zT la hs3)).trans c2;have d3:=(hb.cell (p:=⟨ab,aof+k*2+1,none⟩) (zT la hs3)).trans c3;have d4:=(hb.cell (p:=⟨w.heap.size+1,0,none⟩) (zT ly hs3)).trans c4;have d5:=(hb.cell (p:=⟨w.heap.size+1,1,none⟩) (zT ly hs3)).trans c5;have d6:=(hb.cell (p:=⟨bb,bof+k*2,none⟩) (zT lb hs3)).trans c6;have d7:=(hb.cell (p:=⟨bb,bof+k*2+1,none⟩) (zT lb hs3)).trans c7;have hs4:wr.heap.size≤w4.heap.size:=Nat.le_trans hs3 hb.size;have HR4:Hid (NumR w4 (Rn.val ⟨rs,ro,rl,rc⟩) (x*p+y*q) (m+1)):=hr4;have HW4:=hide (HW3.out.trans (hb.mono HW3.out.size));have HG4:=hide (HG.out.later HW4.out);have ha4:Below w4.heap.size w4 (w4.alloc (.cells #[.int .i64 rs,.slice ro rl rc] 40)):=(zB _ _).alloc zL _;have e0:=(ha4.cell (p:=⟨w.heap.size,0,none⟩) (zT lx hs4)).trans d0;have e1:=(ha4.cell (p:=⟨w.heap.size,1,none⟩) (zT lx hs4)).trans d1;have e2:=(ha4.cell (p:=⟨ab,aof+k*2,none⟩) (zT la hs4)).trans d2;have e3:=(ha4.cell (p:=⟨ab,aof+k*2+1,none⟩) (zT la hs4)).trans d3;have e4:=(ha4.cell (p:=⟨w.heap.size+1,0,none⟩) (zT ly hs4)).trans d4;have e5:=(ha4.cell (p:=⟨w.heap.size+1,1,none⟩) (zT ly hs4)).trans d5;have e6:=(ha4.cell (p:=⟨bb,bof+k*2,none⟩) (zT lb hs4)).trans d6;have e7:=(ha4.cell (p:=⟨bb,bof+k*2+1,none⟩) (zT lb hs4)).trans d7;clear hb hr4 ha4)
   go_wp2_with fail;refine hK.out _ _ (fun _=>by(try dsimp only);go_keep) ?_;clear hK K;try simp only [zA]
   refine ze 14 (by kernel_rfl) rfl (fun K hK=>?_);go_simp;refine hK.out _ _ (fun _=>by(try dsimp only);go_keep) ?_;clear hK K;try simp only [zA]
   refine ze 15 (by kernel_rfl) rfl (fun K hK=>?_);refine step_append_lies _ rfl _ _ 106 rfl (w.heap.size+2) 40 i0 (.agg #[.int .i64 0,.slice none 0 0]) 2 32 (by kernel_rfl) HI0.out HZ0.out HZ1.out HZ2.out rfl (by decide) u9 ps.length (ps.flatMap rcells) rfl (HG4.out.1.alloc _) ⟨w4.heap.size,0,none⟩ 1 1 [.int .i64 rs,.slice ro rl rc] rfl rfl (World.news_of_block (heap_alloc_new w4 _)) (fun u hu=>by simp only [List.mem_cons,List.mem_nil_iff,or_false] at hu;rcases hu with rfl | rfl <;> rfl) (by decide) (by unfold maxLen;have:=HPL.out;omega) (by have:=HPL.out;omega) (by simp;omega) (w4.heap.size+1) (by simp) ?_;intro g cap' w5 hown5 hgrow5 hat5 hlt5;have hb5:Below (w.heap.size+2) w4 w5:=zP HG4.out.1 (by omega) hgrow5;have f0:=(hb5.cell (p:=⟨w.heap.size,0,none⟩) (by show w.heap.size<w.heap.size+2;omega)).trans d0;have f1:=(hb5.cell (p:=⟨w.heap.size,1,none⟩) (by show w.heap.size<w.heap.size+2;omega)).trans d1;have f2:=(hb5.cell (p:=⟨ab,aof+k*2,none⟩) (by show ab<w.heap.size+2;omega)).trans d2;have f3:=(hb5.cell (p:=⟨ab,aof+k*2+1,none⟩) (by show ab<w.heap.size+2;omega)).trans d3;have f4:=(hb5.cell (p:=⟨w.heap.size+1,0,none⟩) (by show w.heap.size+1<w.heap.size+2;omega)).trans d4;have f5:=(hb5.cell (p:=⟨w.heap.size+1,1,none⟩) (by show w.heap.size+1<w.heap.size+2;omega)).trans d5;have f6:=(hb5.cell (p:=⟨bb,bof+k*2,none⟩) (by show bb<w.heap.size+2;omega)).trans d6;have f7:=(hb5.cell (p:=⟨bb,bof+k*2+1,none⟩) (by show bb<w.heap.size+2;omega)).trans d7;have HG5:=hide (zaU HG4.out HR4.out hown5 hgrow5);have HB5:=hide (HBE.out.trans ((HW4.out.mono (by omega)).trans hb5));clear hown5 hgrow5 hat5 hlt5 hb5;refine hK.out _ _ (fun _=>by(try dsimp only);go_keep) ?_;clear hK K;try simp only [zA]
   refine ze 16 (by kernel_rfl) rfl (fun K hK=>?_);go_simp;refine hK.out _ _ (fun _=>by(try dsimp only);go_keep) ?_;clear hK K;try simp only [zA]
   refine zn (by kernel_rfl) ?_;have HP5:=hide (HTS.out ⟨rs,ro,rl,rc⟩);clear a0 a1 a2 a3 a4 a5 a6 a7 b0 b1 b2 b3 b4 b5 b6 b7 c0 c1 c2 c3 c4 c5 c6 c7 d0 d1 d2 d3 d4 d5 d6 d7 e0 e1 e2 e3 e4 e5 e6 e7 f0 f1 f2 f3 f4 f5 f6 f7 HTS HG HG4 HR4 HR2 HR2' HR3;go_wp2;go_roundw
   case rel=>exact⟨k+1,_,by omega,by go_num,HG5,HP5,HB5⟩
   case measure=>simp [intOf];omega
  ·obtain rfl:k=us.length:=by omega
   have HR:Hid (RowR wr u9 ts (m+1)):=by
    have:=HG.out.row;rw [HP.out,List.take_of_length_le (by have:=HLT.out;omega)] at this;exact this
   have HB:=hide (HT.out.below.trans (HBE.out.mono (by omega)));have HFR:Hid (∀ a l c,u9=.slice (some a) l c→w.heap.size≤a.block):=fun a l c e=>by
    rcases HG.out.1.2 with⟨e1,-⟩ |⟨g',cap',cur,e1,hb',-⟩
    ·rw [e1] at e;cases e
    ·rw [e1] at e;simp only [zV,Option.some.injEq] at e;rw [← e.1];have:=HSZ.out;show w.heap.size≤g';omega
   clear HG HP;go_wp2;go_ret;exact⟨_,rfl,HR.out,HB.out,HFR.out⟩
theorem zhp (w:World)(vx va vy vb:Value)(x y:Int)(us vs:List Int)(nx na ny nb m:Nat)(hx:NumR w vx x nx)(ha:RowR w va us na)(hy:NumR w vy y ny)(hb:RowR w vb vs nb)(hl:us.length=vs.length)(h8:us.length≤1000)
  (h1:nx+na+1≤m) (h2:ny+nb+1≤m) (hm:m≤100000000000):
  Calls Tryz.prog 85 #[vx,va,vy,vb] w fun e w'=>RowPostN w (List.zipWith (fun p q=>x*p+y*q) us vs) (m+1) e w':=
 zeH (Z:=False) w vx va vy vb x y us vs nx na ny nb m hx ha.toQ hy hb.toQ hl h8 h1 h2 hm
variable {Z:Prop}
structure InQ (Z:Prop)(w wr:World)(sb n a0 k c:Nat)(rows R:Nat→Option (List Int))(us zs:List Int)(v:Value):Prop where
 st:StairQ Z w wr sb n R (fun a=>if a<c then dT a0 (k+1+cn R a) else dT a0 (k+cn R a))
 ech:Ech R n n
 nz:NZ R
 zero:∀ j,j<c→zs.getD j 0=0
 vec:RowQ Z wr v zs (dT a0 (k+cn R c))
 len:zs.length=n
 gen:Alikes n (RowsOr R zs) (RowsOr rows us)
 cnt:cn R n≤k
structure OutQ (Z:Prop)(w wr:World)(sb n a0 k:Nat)(R:Nat→Option (List Int))(S:List Int→Prop):Prop where
 st:StairQ Z w wr sb n R (fun a=>dT a0 (k+cn R a))
 ech:Ech R n n
 nz:NZ R
 gen:Alikes n (RowsOf R) S
 cnt:cn R n≤k
theorem InQ.next{rows R:Nat→Option (List Int)}(h:InQ Z w wr sb n a0 k c rows R us zs v)(h0:zs.getD c 0=0):InQ Z w wr sb n a0 k (c+1) rows R us zs v:=
 ⟨h.st.mono fun i _=>by
  by_cases h1:i<c
  ·rw [if_pos h1,if_pos (by omega)];exact Nat.le_refl _
  ·rw [if_neg h1];split
   ·exact zt (by omega)
   ·exact Nat.le_refl _,h.ech,h.nz,fun j hj=>by
  by_cases e:j=c
  ·rw [e];exact h0
  ·exact h.zero j (by omega),h.vec.mono (zt (by have:=zc9 R (show c≤c+1 by omega);omega)),h.len,h.gen,h.cnt⟩
theorem InQ.last{rows R:Nat→Option (List Int)}(h:InQ Z w wr sb n a0 k n rows R us zs v):OutQ Z w wr sb n a0 (k+1) R (RowsOr rows us):=
 ⟨h.st.mono fun i hi=>by rw [if_pos hi];exact Nat.le_refl _,h.ech,h.nz,(zej h.len h.zero).trans h.gen,Nat.le_succ_of_le h.cnt⟩
theorem InQ.lay{rows R:Nat→Option (List Int)}(h:InQ Z w wr sb n a0 k c rows R us zs (.slice (some ⟨b,off,none⟩) zs.length cap))(hc:c<n)(hr:R c=none)(h0:zs.getD c 0≠0):
  OutQ Z w (wr.setCell ⟨sb,c,none⟩ (.slice (some ⟨b,off,none⟩) zs.length cap)) sb n a0 (k+1) (putRow R c zs) (RowsOr rows us):=by
 refine⟨(h.st.set hc h.vec).mono fun i _=>?_,h.ech.set h.len h.zero hc,h.nz.set h0,?_,?_⟩
 ·have hcp:=(zeG R c zs i).1;by_cases h1:i=c
  ·rw [if_pos h1];subst h1;exact zt (by omega)
  ·rw [if_neg h1];split
   ·exact zt (by omega)
   ·exact zt (by omega)
 ·have:=zel (R:=R) hr h.len (z:=1) (.inl rfl);have e:zs.map ((1:Int)*·)=zs:=by
   have:(fun x:Int=>1*x)=id:=by funext x;simp
   rw [this,List.map_id]
  rw [e] at this;exact this.trans h.gen
 ·have h1:=(zeG R c zs n).2;rw [if_pos hc] at h1;have:=h.cnt;omega
def RowPostQ (Z:Prop)(w:World)(zs:List Int)(n:Nat)(e:Ending)(w':World):Prop:=∃ v,e=.returned v∧RowQ Z w' v zs n∧Below w.heap.size w w'
theorem zbJ (w:World)(vx va vy vb:Value)(x y:Int)(us vs:List Int)(nx na ny nb m:Nat)(hx:NumR w vx x nx)(ha:RowQ Z w va us na)(hy:NumR w vy y ny)(hb:RowQ Z w vb vs nb)(hl:us.length=vs.length)(h8:us.length≤1000)
  (h1:nx+na+1≤m) (h2:ny+nb+1≤m) (hm:m≤100000000000):
  Calls Tryz.prog 85 #[vx,va,vy,vb] w fun e w'=>RowPostQ Z w (List.zipWith (fun p q=>x*p+y*q) us vs) (m+1) e w':=
 (zeH w vx va vy vb x y us vs nx na ny nb m hx ha hy hb hl h8 h1 h2 hm).mono fun _ _ ⟨v,a,b,c,_⟩=>⟨v,a,b.toQ,c⟩
end Go.Proofs.YtdedolkgcdlmeaaGreatDoor
