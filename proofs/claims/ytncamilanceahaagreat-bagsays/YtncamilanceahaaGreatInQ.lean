import Derived.Test.YtncamilanceahaaGreatStaQ
set_option maxRecDepth 100000
set_option maxHeartbeats 4000000
set_option linter.unusedSimpArgs false
namespace Go.Proofs.YtncamilanceahaaGreat
open Go.RowKit Limbs Digs
variable{w wr:World}{sb n a0 k c:Nat}{us zs:List Int}{v:Value}
variable {Z:Prop}
theorem zgT (w:World)(vx va vy vb:Value)(x y:Int)(us vs:List Int)(nx na ny nb m:Nat)(hx:NumR w vx x nx)(ha:RowQ Z w va us na)(hy:NumR w vy y ny)(hb:RowQ Z w vb vs nb)(hl:us.length=vs.length)(h8:us.length≤1000)
  (h1:nx+na+1≤m) (h2:ny+nb+1≤m) (hm:m≤100000000000):
  Calls Tryz.prog 46 #[vx,va,vy,vb] w fun e w'=>RowPostN w (List.zipWith (fun p q=>x*p+y*q) us vs) (m+1) e w':=by
 obtain⟨i0,hi,hz0,hz1,hz2⟩:=info_parts Tryz.infoRNum;have HI0:=hide hi;have HZ0:=hide hz0;have HZ1:=hide hz1;have HZ2:=hide hz2;clear hi hz0 hz1 hz2;have HA:=hide ha;have HB:=hide hb;have HX:=hide hx;have HY:=hide hy;have hlt:=zz (fun p q=>x*p+y*q) us vs hl;have HZ:=hide (zp (fun p q=>x*p+y*q) us vs hl);obtain⟨xs,xo,xl,xc,rfl,-⟩:=hx.form;obtain⟨ys,yo,yl,yc,rfl,-⟩:=hy.form;obtain⟨ao',acap,rfl,-,-⟩:=ha;obtain⟨bo',bcap,rfl,-,-⟩:=hb;clear hx hy;have HL:=hide hl;clear hl;have hT:=two w (.int .i64 xs) (.slice xo xl xc) (.int .i64 ys) (.slice yo yl yc) 76 76;obtain⟨W0,hW0⟩:∃ W0:World,W0=(w.alloc (.cells #[.int .i64 xs,.slice xo xl xc] 76)).alloc (.cells #[.int .i64 ys,.slice yo yl yc] 76):=⟨_,rfl⟩;have hsz:W0.heap.size=w.heap.size+2:=by rw [hW0];simp
 rw [← hW0] at hT;have HT:=hide hT;have HSZ:=hide hsz;have HLT:=hide hlt;clear hT hsz hlt;generalize List.zipWith (fun p q=>x*p+y*q) us vs=ts at *;go_enter Tryz.func46,Tryz.ntmps46;go_wp2;rw [← hW0];clear hW0;go_loopw [9,10] (fun out i wr=>∃(k:Nat) (ps:List (Rn × Int)),k≤us.length∧i=.int .i64 k∧Hid (GrowR wr (w.heap.size+2) out ps (m+1))∧Hid (ps.map (·.2)=ts.take k)∧Hid (Below (w.heap.size+2) W0 wr)) (fun _ i _=>us.length-(intOf i).toNat)
 case atStart=>exact⟨0,[],Nat.zero_le _,rfl,hide (GrowR.nil _ _ _),hide (by simp),hide (zB _ _)⟩
 case round=>
  obtain⟨k,ps,hk,rfl,HG,HP,HBE⟩:=hrel;have HPL:Hid (ps.length=k):=by
   have:=congrArg List.length HP.out;rw [zM,List.length_take] at this;show ps.length=k;have:=HLT.out;omega
  have hbs:w.heap.size+2≤wr.heap.size:=by have:=HBE.out.size;have:=HSZ.out;omega
  by_cases hkl:k<us.length
  ·have hbw:Below w.heap.size w wr:=HT.out.below.trans (HBE.out.mono (by omega));have hky:k<vs.length:=by have:=HL.out;omega
   obtain⟨ab,aof,_,e,la,sa,ao,al,ac,a2,a3,na'⟩:=(HA.out.below hbw zL).at k hkl;simp only [zV,true_and] at e;obtain⟨rfl,rfl⟩:=e;obtain⟨bb,bof,_,e,lb,sb,bo,bl,bc,a6,a7,nb'⟩:=(HB.out.below hbw zL).at k hky;simp only [zV,true_and] at e;obtain⟨rfl,rfl⟩:=e;have law:ab<w.heap.size:=by
    obtain⟨_,_,_,e,l,-⟩:=HA.out.at k hkl;simp only [zV,Option.some.injEq,Addr.mk.injEq,and_true,true_and] at e;omega
   have lbw:bb<w.heap.size:=by
    obtain⟨_,_,_,e,l,-⟩:=HB.out.at k hky;simp only [zV,Option.some.injEq,Addr.mk.injEq,and_true,true_and] at e;omega
   have NA:=hide na';have NB:=hide nb';have NX:=hide (HX.out.below hbw zL);have NY:=hide (HY.out.below hbw zL);obtain⟨a0,a1,-,-⟩:=HT.out.fst.later HBE.out (by omega);obtain⟨a4,a5,-,-⟩:=HT.out.res.later HBE.out (by omega);have lx:w.heap.size<wr.heap.size:=by omega
   have ly:w.heap.size+1<wr.heap.size:=by omega
   have HTS:Hid (∀ r:Rn,(ps++[(r,x*us.getD k 0+y*vs.getD k 0)]).map (·.2)=ts.take (k+1)):=fun r=>by
    have hkt:k<ts.length:=by have:=HLT.out;omega
    rw [List.map_append,HP.out,List.take_succ_eq_append_getElem hkt,← HZ.out k hkl,zG,List.getElem?_eq_getElem hkt];rfl
   have HBW:=hide hbw;clear na' nb' hbw;generalize us.getD k 0=p at *;generalize vs.getD k 0=q at *;go_wp2_with fail;refine zy (S:=(fun w'=>w'.cell? ⟨w.heap.size,0,none⟩=some (.int .i64 xs)∧w'.cell? ⟨w.heap.size,1,none⟩=some (.slice xo xl xc)∧w'.cell? ⟨ab,aof+k*2,none⟩=some (.int .i64 sa)∧w'.cell? ⟨ab,aof+k*2+1,none⟩=some (.slice ao al ac)∧w'.cell? ⟨w.heap.size+1,0,none⟩=some (.int .i64 ys)∧w'.cell? ⟨w.heap.size+1,1,none⟩=some (.slice yo yl yc)∧w'.cell? ⟨bb,bof+k*2,none⟩=some (.int .i64 sb)∧w'.cell? ⟨bb,bof+k*2+1,none⟩=some (.slice bo bl bc))) (k:=17) (by kernel_rfl) (by(try dsimp only);go_keep) (fun hHeld=>?_);refine zf 0 17 [] ?_;try simp only [zA]
   refine zf 1 18 [] ?_;try simp only [zA]
   refine zf 2 19 [] ?_;try simp only [zA]
   refine zf 3 20 [] ?_;try simp only [zA]
   refine zf 4 21 [] ?_;try simp only [zA]
   refine zf 5 22 [] ?_;try simp only [zA]
   refine zf 7 24 [] ?_;try simp only [zA]
   refine zf 8 25 [] ?_;try simp only [zA]
   refine zf 9 26 [] ?_;try simp only [zA]
   refine zf 10 27 [] ?_;try simp only [zA]
   refine zf 11 28 [] ?_;try simp only [zA]
   refine zg 6 (by kernel_rfl) rfl (fun K hK=>?_);go_simp
   (refine(zaS _ _ _ x p nx na (by exact NX.out) (by exact NA.out) (by omega) (by omega)).mono ?_;rintro e w2 ⟨r2,rfl,hr2,hb⟩;have b0:=(hb.cell (p:=⟨w.heap.size,0,none⟩) lx).trans a0;have b1:=(hb.cell (p:=⟨w.heap.size,1,none⟩) lx).trans a1;have b2:=(hb.cell (p:=⟨ab,aof+k*2,none⟩) la).trans a2;have b3:=(hb.cell (p:=⟨ab,aof+k*2+1,none⟩) la).trans a3;have b4:=(hb.cell (p:=⟨w.heap.size+1,0,none⟩) ly).trans a4;have b5:=(hb.cell (p:=⟨w.heap.size+1,1,none⟩) ly).trans a5;have b6:=(hb.cell (p:=⟨bb,bof+k*2,none⟩) lb).trans a6;have b7:=(hb.cell (p:=⟨bb,bof+k*2+1,none⟩) lb).trans a7;have hs2:wr.heap.size≤w2.heap.size:=hb.size;have HR2:=hide hr2;have HW2:Hid (Below wr.heap.size wr w2):=((zB wr.heap.size wr).drew).trans hb;have NY2:=hide (NY.out.below HW2.out zL);have NB2:=hide (NB.out.below HW2.out zL);clear hb hr2)
   go_wp2_with fail;refine hK.out _ _ (fun _=>by(try dsimp only);go_keep) ?_;clear hK K;try simp only [zA]
   refine zg 12 (by kernel_rfl) rfl (fun K hK=>?_);go_simp
   (refine(zaS _ _ _ y q ny nb (by exact NY2.out) (by exact NB2.out) (by omega) (by omega)).mono ?_;rintro e w3 ⟨r3,rfl,hr3,hb⟩;have c0:=(hb.cell (p:=⟨w.heap.size,0,none⟩) (zT lx hs2)).trans b0;have c1:=(hb.cell (p:=⟨w.heap.size,1,none⟩) (zT lx hs2)).trans b1;have c2:=(hb.cell (p:=⟨ab,aof+k*2,none⟩) (zT la hs2)).trans b2;have c3:=(hb.cell (p:=⟨ab,aof+k*2+1,none⟩) (zT la hs2)).trans b3;have c4:=(hb.cell (p:=⟨w.heap.size+1,0,none⟩) (zT ly hs2)).trans b4;have c5:=(hb.cell (p:=⟨w.heap.size+1,1,none⟩) (zT ly hs2)).trans b5;have c6:=(hb.cell (p:=⟨bb,bof+k*2,none⟩) (zT lb hs2)).trans b6;have c7:=(hb.cell (p:=⟨bb,bof+k*2+1,none⟩) (zT lb hs2)).trans b7;have hs3:wr.heap.size≤w3.heap.size:=Nat.le_trans hs2 hb.size;have HR3:=hide hr3;have HR2':=hide (HR2.out.below hb zL);have HW3:=hide (HW2.out.trans (hb.mono HW2.out.size));clear hb hr3)
   go_wp2_with fail;refine hK.out _ _ (fun _=>by(try dsimp only);go_keep) ?_;clear hK K;try simp only [zA]
   refine zg 13 (by kernel_rfl) rfl (fun K hK=>?_);go_simp
   (refine(zcy _ _ _ (x*p) (y*q) m (HR2'.out.mono (by omega)) (HR3.out.mono (by omega)) (by omega)).mono ?_;rintro e w4 ⟨r4,rfl,hr4,hb⟩;obtain⟨rs,ro,rl,rc,rfl,-⟩:=hr4.form;have d0:=(hb.cell (p:=⟨w.heap.size,0,none⟩) (zT lx hs3)).trans c0;have d1:=(hb.cell (p:=⟨w.heap.size,1,none⟩) (zT lx hs3)).trans c1;have d2:=(hb.cell (p:=⟨ab,aof+k*2,none⟩) (zT la hs3)).trans c2;have d3:=(hb.cell (p:=⟨ab,aof+k*2+1,none⟩) (zT la hs3)).trans c3;have d4:=(hb.cell (p:=⟨w.heap.size+1,0,none⟩) (zT ly hs3)).trans c4;have d5:=(hb.cell (p:=⟨w.heap.size+1,1,none⟩) (zT ly hs3)).trans c5;have d6:=(hb.cell (p:=⟨bb,bof+k*2,none⟩) (zT lb hs3)).trans c6;have d7:=(hb.cell (p:=⟨bb,bof+k*2+1,none⟩) (zT lb hs3)).trans c7;have hs4:wr.heap.size≤w4.heap.size:=Nat.le_trans hs3 hb.size;have HR4:Hid (NumR w4 (Rn.val ⟨rs,ro,rl,rc⟩) (x*p+y*q) (m+1)):=hr4;have HW4:=hide (HW3.out.trans (hb.mono HW3.out.size));have HG4:=hide (HG.out.later HW4.out);have ha4:Below w4.heap.size w4 (w4.alloc (.cells #[.int .i64 rs,.slice ro rl rc] 76)):=(zB _ _).alloc zL _;have e0:=(ha4.cell (p:=⟨w.heap.size,0,none⟩) (zT lx hs4)).trans d0;have e1:=(ha4.cell (p:=⟨w.heap.size,1,none⟩) (zT lx hs4)).trans d1;have e2:=(ha4.cell (p:=⟨ab,aof+k*2,none⟩) (zT la hs4)).trans d2;have e3:=(ha4.cell (p:=⟨ab,aof+k*2+1,none⟩) (zT la hs4)).trans d3;have e4:=(ha4.cell (p:=⟨w.heap.size+1,0,none⟩) (zT ly hs4)).trans d4;have e5:=(ha4.cell (p:=⟨w.heap.size+1,1,none⟩) (zT ly hs4)).trans d5;have e6:=(ha4.cell (p:=⟨bb,bof+k*2,none⟩) (zT lb hs4)).trans d6;have e7:=(ha4.cell (p:=⟨bb,bof+k*2+1,none⟩) (zT lb hs4)).trans d7;clear hb hr4 ha4)
   go_wp2_with fail;refine hK.out _ _ (fun _=>by(try dsimp only);go_keep) ?_;clear hK K;try simp only [zA]
   refine zg 14 (by kernel_rfl) rfl (fun K hK=>?_);go_simp;refine hK.out _ _ (fun _=>by(try dsimp only);go_keep) ?_;clear hK K;try simp only [zA]
   refine zg 15 (by kernel_rfl) rfl (fun K hK=>?_);refine step_append_lies _ rfl _ _ 74 rfl (w.heap.size+2) 76 i0 (.agg #[.int .i64 0,.slice none 0 0]) 2 32 (by kernel_rfl) HI0.out HZ0.out HZ1.out HZ2.out rfl (by decide) u9 ps.length (ps.flatMap rcells) rfl (HG4.out.1.alloc _) ⟨w4.heap.size,0,none⟩ 1 1 [.int .i64 rs,.slice ro rl rc] rfl rfl (World.news_of_block (heap_alloc_new w4 _)) (fun u hu=>by simp only [List.mem_cons,List.mem_nil_iff,or_false] at hu;rcases hu with rfl | rfl <;> rfl) (by decide) (by unfold maxLen;have:=HPL.out;omega) (by have:=HPL.out;omega) (by simp;omega) (w4.heap.size+1) (by simp) ?_;intro g cap' w5 hown5 hgrow5 hat5 hlt5;have hb5:Below (w.heap.size+2) w4 w5:=zaC HG4.out.1 (by omega) hgrow5;have f0:=(hb5.cell (p:=⟨w.heap.size,0,none⟩) (by show w.heap.size<w.heap.size+2;omega)).trans d0;have f1:=(hb5.cell (p:=⟨w.heap.size,1,none⟩) (by show w.heap.size<w.heap.size+2;omega)).trans d1;have f2:=(hb5.cell (p:=⟨ab,aof+k*2,none⟩) (by show ab<w.heap.size+2;omega)).trans d2;have f3:=(hb5.cell (p:=⟨ab,aof+k*2+1,none⟩) (by show ab<w.heap.size+2;omega)).trans d3;have f4:=(hb5.cell (p:=⟨w.heap.size+1,0,none⟩) (by show w.heap.size+1<w.heap.size+2;omega)).trans d4;have f5:=(hb5.cell (p:=⟨w.heap.size+1,1,none⟩) (by show w.heap.size+1<w.heap.size+2;omega)).trans d5;have f6:=(hb5.cell (p:=⟨bb,bof+k*2,none⟩) (by show bb<w.heap.size+2;omega)).trans d6;have f7:=(hb5.cell (p:=⟨bb,bof+k*2+1,none⟩) (by show bb<w.heap.size+2;omega)).trans d7;have HG5:=hide (zex HG4.out HR4.out hown5 hgrow5);have HB5:=hide (HBE.out.trans ((HW4.out.mono (by omega)).trans hb5));clear hown5 hgrow5 hat5 hlt5 hb5;refine hK.out _ _ (fun _=>by(try dsimp only);go_keep) ?_;clear hK K;try simp only [zA]
   refine zg 16 (by kernel_rfl) rfl (fun K hK=>?_);go_simp;refine hK.out _ _ (fun _=>by(try dsimp only);go_keep) ?_;clear hK K;try simp only [zA]
   refine zx (by kernel_rfl) ?_;have HP5:=hide (HTS.out ⟨rs,ro,rl,rc⟩);clear a0 a1 a2 a3 a4 a5 a6 a7 b0 b1 b2 b3 b4 b5 b6 b7 c0 c1 c2 c3 c4 c5 c6 c7 d0 d1 d2 d3 d4 d5 d6 d7 e0 e1 e2 e3 e4 e5 e6 e7 f0 f1 f2 f3 f4 f5 f6 f7 HTS HG HG4 HR4 HR2 HR2' HR3;go_wp2;go_roundw
   case rel=>exact⟨k+1,_,by omega,by go_num,HG5,HP5,HB5⟩
   case measure=>simp [intOf];omega
  ·obtain rfl:k=us.length:=by omega
   have HR:Hid (RowR wr u9 ts (m+1)):=by
    have:=HG.out.row;rw [HP.out,List.take_of_length_le (by have:=HLT.out;omega)] at this;exact this
   have HB:=hide (HT.out.below.trans (HBE.out.mono (by omega)));have HFR:Hid (∀ a l c,u9=.slice (some a) l c→w.heap.size≤a.block):=fun a l c e=>by
    rcases HG.out.1.2 with⟨e1,-⟩ |⟨g',cap',cur,e1,hb',-⟩
    ·rw [e1] at e;cases e
    ·rw [e1] at e;simp only [zV,Option.some.injEq] at e;rw [← e.1];have:=HSZ.out;show w.heap.size≤g';omega
   clear HG HP;go_wp2;go_ret;exact⟨_,rfl,HR.out,HB.out,HFR.out⟩
variable {Z:Prop}
structure InQ (Z:Prop)(w wr:World)(sb n a0 k c:Nat)(rows R:Nat→Option (List Int))(us zs:List Int)(v:Value):Prop where
 st:StairQ Z w wr sb n R (fun a=>if a<c then dT a0 (k+1+cn R a) else dT a0 (k+cn R a))
 ech:Ech R n n
 nz:NZ R
 zero:∀ j,j<c→zs.getD j 0=0
 vec:RowQ Z wr v zs (dT a0 (k+cn R c))
 len:zs.length=n
 gen:Alikes n (RowsOr R zs) (RowsOr rows us)
 cnt:cn R n≤k
structure OutQ (Z:Prop)(w wr:World)(sb n a0 k:Nat)(R:Nat→Option (List Int))(S:List Int→Prop):Prop where
 st:StairQ Z w wr sb n R (fun a=>dT a0 (k+cn R a))
 ech:Ech R n n
 nz:NZ R
 gen:Alikes n (RowsOf R) S
 cnt:cn R n≤k
theorem InQ.next{rows R:Nat→Option (List Int)}(h:InQ Z w wr sb n a0 k c rows R us zs v)(h0:zs.getD c 0=0):InQ Z w wr sb n a0 k (c+1) rows R us zs v:=
 ⟨h.st.mono fun i _=>by
  by_cases h1:i<c
  ·rw [if_pos h1,if_pos (by omega)];exact Nat.le_refl _
  ·rw [if_neg h1];split
   ·exact zae (by omega)
   ·exact Nat.le_refl _,h.ech,h.nz,fun j hj=>by
  by_cases e:j=c
  ·rw [e];exact h0
  ·exact h.zero j (by omega),h.vec.mono (zae (by have:=zcP R (show c≤c+1 by omega);omega)),h.len,h.gen,h.cnt⟩
theorem InQ.last{rows R:Nat→Option (List Int)}(h:InQ Z w wr sb n a0 k n rows R us zs v):OutQ Z w wr sb n a0 (k+1) R (RowsOr rows us):=
 ⟨h.st.mono fun i hi=>by rw [if_pos hi];exact Nat.le_refl _,h.ech,h.nz,(zdR h.len h.zero).trans h.gen,Nat.le_succ_of_le h.cnt⟩
theorem InQ.lay{rows R:Nat→Option (List Int)}{b off cap:Nat}(h:InQ Z w wr sb n a0 k c rows R us zs (.slice (some ⟨b,off,none⟩) zs.length cap))(hc:c<n)(hr:R c=none)(h0:zs.getD c 0≠0):
  OutQ Z w (wr.setCell ⟨sb,c,none⟩ (.slice (some ⟨b,off,none⟩) zs.length cap)) sb n a0 (k+1) (putRow R c zs) (RowsOr rows us):=by
 refine⟨(h.st.set hc h.vec).mono fun i _=>?_,h.ech.set h.len h.zero hc,h.nz.set h0,?_,?_⟩
 ·have hcp:=(zd9 R c zs i).1;by_cases h1:i=c
  ·rw [if_pos h1];subst h1;exact zae (by omega)
  ·rw [if_neg h1];split
   ·exact zae (by omega)
   ·exact zae (by omega)
 ·have:=zdT (R:=R) hr h.len (z:=1) (.inl rfl);have e:zs.map ((1:Int)*·)=zs:=by
   have:(fun x:Int=>1*x)=id:=by funext x;simp
   rw [this,List.map_id]
  rw [e] at this;exact this.trans h.gen
 ·have h1:=(zd9 R c zs n).2;rw [if_pos hc] at h1;have:=h.cnt;omega
def RowPostQ (Z:Prop)(w:World)(zs:List Int)(n:Nat)(e:Ending)(w':World):Prop:=∃ v,e=.returned v∧RowQ Z w' v zs n∧Below w.heap.size w w'
theorem zbA (w:World)(vx va vy vb:Value)(x y:Int)(us vs:List Int)(nx na ny nb m:Nat)(hx:NumR w vx x nx)(ha:RowQ Z w va us na)(hy:NumR w vy y ny)(hb:RowQ Z w vb vs nb)(hl:us.length=vs.length)(h8:us.length≤1000)
  (h1:nx+na+1≤m) (h2:ny+nb+1≤m) (hm:m≤100000000000):
  Calls Tryz.prog 46 #[vx,va,vy,vb] w fun e w'=>RowPostQ Z w (List.zipWith (fun p q=>x*p+y*q) us vs) (m+1) e w':=
 (zgT w vx va vy vb x y us vs nx na ny nb m hx ha hy hb hl h8 h1 h2 hm).mono fun _ _ ⟨v,a,b,c,_⟩=>⟨v,a,b.toQ,c⟩
end Go.Proofs.YtncamilanceahaaGreat
