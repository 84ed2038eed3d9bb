import Derived.Test.YtncamilanceahaaGreatRefE
set_option maxRecDepth 100000
set_option maxHeartbeats 1600000
namespace Go.Proofs.YtncamilanceahaaGreat
open Go.RowKit Limbs Digs
variable{g i k j n B:Nat}{zs a b ls qs:List Int}{w wr W:World}{a1 a0 l b0 b1 r0 r1:Value}{A cy T r:Int}
def RowI (w:World)(g:Nat)(zs:List Int):Prop:=
 (∃ cur fz,w.heap[g]?=some (.cells cur 3 fz))∧DB zs∧∀ j,j<zs.length→w.cell? ⟨g,j,none⟩=some (.int .i64 (zs.getD j 0))∧w.frozen? ⟨g,j,none⟩=false
theorem zi9 (m:Nat)(hm:m≤1000000000000)(W:World):(Instr.makeSlice 28 (.int .i64 (m:Int)) (.int .i64 (m:Int))).run Tryz.prog W=.ok (.slice (some ⟨W.heap.size,0,none⟩) m m) (W.alloc (.cells (madeCells #[.int .i64 0] m) 3)):=by
 obtain⟨i0,hi,hz0,hz1,hz2⟩:=info_parts Tryz.infoInt;have h:=run_make (P:=Tryz.prog) W 28 3 i0 (.int .i64 0) Tryz.underlying28 hi hz0 .i64 .i64 m m (by omega) (by omega) (by rw [hz2];omega) (by omega);rw [hz1,Int.toNat_natCast,Nat.mul_one] at h;exact h
theorem RowI.made (w:World)(m:Nat)(g:Nat)(hg:g=w.heap.size):RowI (w.alloc (.cells (madeCells #[.int .i64 0] m) 3)) g (List.replicate m 0):=by
 subst hg;refine⟨⟨_,_,heap_alloc_new w _⟩,zfJ m,fun j hj=>⟨?_,World.frozen?_alloc_new _ _ _ _⟩⟩;rw [List.length_replicate] at hj;rw [World.cell?_alloc_new];simp [madeCells,hj,Nat.mod_one,List.getD_eq_getElem?_getD]
theorem RowI.store(h:RowI w g zs)(hk:k<zs.length){z:Int}(hz:0≤z∧z<10000):RowI (w.setCell ⟨g,k,none⟩ (.int .i64 z)) g (zs.set k z):=by
 obtain⟨⟨cur,fz,h1⟩,h2,h3⟩:=h;refine⟨⟨cur.setIfInBounds k (.int .i64 z),fz,?_⟩,zfK h2 k hz,fun j hj=>?_⟩
 ·simp [World.setCell,Array.getElem?_modify,h1]
 rw [List.length_set] at hj;obtain⟨c1,c2⟩:=h3 j hj;obtain⟨c3,c4⟩:=h3 k hk;rw [World.frozen?_setCell,zC zs k j z hk];refine⟨?_,c2⟩;by_cases e:j=k
 ·subst e;rw [if_pos rfl];exact World.cell?_setCell_same (h:=c3) ..
 ·rw [if_neg e,← c1];exact World.cell?_setCell_other (h:=fun h=>e (congrArg Addr.off h).symm) ..
theorem RowI.dig(h:RowI w g zs)(hl:zs.length≤1000000000000)(cap:Nat)(hc:zs.length≤cap):Dig w (.slice (some ⟨g,0,none⟩) zs.length cap) zs:=by
 obtain⟨⟨cur,fz,h1⟩,h2,h3⟩:=h;exact⟨_,cap,rfl,hc,hl,h2,fun _=>⟨g,0,cur,fz,rfl,h1,fun i hi=>by rw [Nat.zero_add];exact(h3 i hi).1⟩⟩
theorem ThreeR.drewN(h:ThreeR w W a0 a1 b0 b1 r0 r1)(n:Nat):ThreeR w (W.drewN n) a0 a1 b0 b1 r0 r1:=⟨h.fst,h.snd,h.res,zP h.below n,h.size⟩
theorem ThreeR.set(h:ThreeR w W a0 a1 b0 b1 r0 r1)(hg:w.heap.size+1+1+1≤g)(k:Nat)(u:Value):ThreeR w (W.setCell ⟨g,k,none⟩ u) a0 a1 b0 b1 r0 r1:=
 ⟨h.fst.other (by omega) _ _,h.snd.other (by omega) _ _,h.res.other (by omega) _ _,h.below.setCell (by simp;omega) _,by simpa [World.setCell] using h.size⟩
def TInv (wr:World)(g:Nat)(a b:List Int)(i j:Nat)(cy:Int)(zs:List Int):Prop:=
 zs.length=a.length+b.length+1∧RowI wr g zs ∧
  dv zs+dp (i+j)*cy=dv (a.take i)*dv b+dp i *(a.getD i 0*dv (b.take j))∧(∀ t,i+b.length≤t→i+j≤t→zs.getD t 0=0)∧0≤cy∧cy<10000
def TOut (wr:World)(g:Nat)(a b:List Int)(i:Nat)(zs:List Int):Prop:=
 zs.length=a.length+b.length+1∧RowI wr g zs∧dv zs=dv (a.take i)*dv b∧∀ t,i+b.length≤t→zs.getD t 0=0
theorem TOut.inner(h:TOut wr g a b i zs):TInv wr g a b i 0 0 zs:=by
 obtain⟨h1,h2,h4,h5⟩:=h;exact⟨h1,h2,by simp [dv,h4],fun t ht _=>h5 t ht,by decide,by decide⟩
theorem TInv.step(h:TInv wr g a b i j cy zs)(ha:DB a)(hb:DB b)(hi:i<a.length)(hj:j≤b.length)(hT:T=zs.getD (i+j) 0+cy+a.getD i 0*b.getD j 0):
  TInv (wr.setCell ⟨g,i+j,none⟩ (.int .i64 (T%10000))) g a b i (j+1) (T/10000) (zs.set (i+j) (T%10000)):=by
 obtain⟨h1,h2,h4,h5,h6,h7⟩:=h;have hx:=ha i;have hy:=hb j;have hz:=h2.2.1 (i+j);have hp0:0≤a.getD i 0*b.getD j 0:=Int.mul_nonneg hx.1 hy.1;have hp1:a.getD i 0*b.getD j 0≤9999*9999:=Int.mul_le_mul (by omega) (by omega) hy.1 (by omega);refine⟨by rw [List.length_set];exact h1,h2.store (by omega) (by omega),?_,fun t ht ht'=>?_,by omega,by omega⟩
 ·rw [zhg _ _ _ (by omega),zaL];have e:dp (i+j) *(T%10000+10000 *(T/10000))=dp (i+j)*T:=by rw [Int.emod_add_mul_ediv]
  have e2:dp (i+(j+1)) *(T/10000)=dp (i+j) *(10000 *(T/10000)):=by rw [← Nat.add_assoc];simp only [dp];rw [Int.mul_comm 10000 (dp (i+j)),Int.mul_assoc]
  have e3:dp (i+j) *(a.getD i 0*b.getD j 0)=dp i *(a.getD i 0 *(dp j*b.getD j 0)):=by
   rw [zee,Int.mul_assoc,Int.mul_left_comm (dp j)]
  rw [e2,Int.mul_sub];rw [Int.mul_add] at e;rw [hT,Int.mul_add,Int.mul_add] at e;rw [← hT] at e;rw [Int.mul_add,Int.mul_add];omega
 ·rw [zC _ _ _ _ (by omega),if_neg (by omega)];exact h5 t ht (by omega)
theorem TInv.drewN(h:TInv wr g a b i j cy zs)(n:Nat):TInv (wr.drewN n) g a b i j cy zs:=h
theorem TInv.done(h:TInv wr g a b i j 0 zs)(hj:b.length≤j)(hj':j≤b.length+1):TOut wr g a b (i+1) zs:=by
 obtain⟨h1,h2,h4,h5,h6,h7⟩:=h;refine⟨h1,h2,?_,fun t ht=>h5 t (by omega) (by omega)⟩;rw [zbE b hj,Int.mul_zero,Int.add_zero] at h4;rw [h4,zaL,Int.add_mul,Int.mul_assoc]
theorem zaS (w:World)(va vb:Value)(x0 y0:Int)(n m:Nat)(ha:NumR w va x0 n)(hb:NumR w vb y0 m)(hn:n≤400000000000)(hm:m≤400000000000):
  Calls Tryz.prog 63 #[va,vb] w fun e w'=>RefPost w (x0*y0) (n+m+1) e w':=by
 obtain⟨sa,la,a,rfl,hla,nra,hx0,hsa,hna⟩:=ha;obtain⟨sb,lb,b,rfl,hlb,nrb,hy0,hsb,hnb⟩:=hb;have HA:=hide hla;have HB:=hide hlb;obtain⟨ao,acap,rfl,hacap,halen,hadb,-⟩:=hla;obtain⟨bo,bcap,rfl,hbcap,hblen,hbdb,-⟩:=hlb;have HX:=hide hx0;clear hx0;have HY:=hide hy0;clear hy0;clear nra nrb;have HSS:Hid ((sa*sb=1∨sa*sb=-1)∨(sa*sb=0∧dv a*dv b=0)):=by
  show _∨_;rcases hsa with⟨h1,h2,-⟩ |⟨-,h2⟩
  ·right;subst h2;rw [List.eq_nil_of_length_eq_zero h1];simp [dv]
  ·rcases hsb with⟨h3,h4,-⟩ |⟨-,h4⟩
   ·right;subst h4;rw [List.eq_nil_of_length_eq_zero h3];simp [dv]
   ·left;rcases h2 with h2 | h2 <;> rcases h4 with h4 | h4 <;> subst h2 <;> subst h4 <;> decide
 have hmk:=zi9 (a.length+b.length+1) (by omega);rw [show((a.length+b.length+1:Nat):Int)=(a.length:Int)+(b.length:Int)+1 by omega] at hmk;have hss:-1≤sa*sb∧sa*sb≤1:=by rcases HSS.out with h |⟨h,-⟩ <;> omega
 clear hsa hsb;go_enter Tryz.func63,Tryz.ntmps63;have hT:=hide (threeR w (.int .i64 sa) (.slice ao a.length acap) (.int .i64 sb) (.slice bo b.length bcap) (.int .i64 0) (.slice none 0 0));go_wp2;have hT0:=hide (hT.out.later ((zB _ _).alloc zL (.cells (madeCells #[.int .i64 0] (a.length+b.length+1)) 3)));have hO:=hide (show TOut _ (w.heap.size+1+1+1) a b 0 _ from⟨List.length_replicate,RowI.made (((w.alloc (.cells #[.int .i64 sa,.slice ao a.length acap] 76)).alloc (.cells #[.int .i64 sb,.slice bo b.length bcap] 76)).alloc (.cells #[.int .i64 0,.slice none 0 0] 76)) (a.length+b.length+1) _ (by simp),by simp [dv,zhf],fun _ _=>zcW _ _⟩);clear hT;go_loopw [6] (fun i wr=>∃(k:Nat) (zs:List Int),k≤a.length∧i=.int .i64 k∧ThreeR w wr (.int .i64 sa) (.slice ao a.length acap) (.int .i64 sb) (.slice bo b.length bcap) (.int .i64 0) (.slice none 0 0)∧TOut wr (w.heap.size+1+1+1) a b k zs) (fun i _=>a.length-(intOf i).toNat)
 case atStart=>exact⟨0,_,Nat.zero_le _,rfl,hT0.out,hO.out⟩
 case round=>
  clear hT0 hO;obtain⟨i,zs,hi,rfl,hTr,hout⟩:=hrel;obtain⟨k0,k1,-,-⟩:=hTr.fst.box;obtain⟨l0,l1,-,-⟩:=hTr.snd.box;by_cases hlt:i<a.length
  ·have HO:=hide hout;have HT1:=hide hTr;clear hout hTr;go_wp2;go_loopw [7,8] (fun c j wr=>∃(k:Nat) (cy:Int) (zs:List Int),k≤b.length+1∧(b.length<k→cy=0)∧j=.int .i64 k∧c=.int .i64 cy∧ThreeR w wr (.int .i64 sa) (.slice ao a.length acap) (.int .i64 sb) (.slice bo b.length bcap) (.int .i64 0) (.slice none 0 0)∧TInv wr (w.heap.size+1+1+1) a b i k cy zs) (fun _ j _=>b.length+1-(intOf j).toNat)
   case atStart=>exact⟨0,0,zs,Nat.zero_le _,fun _=>rfl,rfl,rfl,HT1.out,HO.out.inner⟩
   case round=>
    clear HO HT1 k0 k1 l0 l1;obtain⟨j,cy,ys,hj,hjc,rfl,rfl,hTr,hinv⟩:=hrel;obtain⟨k0,k1,-,-⟩:=hTr.fst.box;obtain⟨l0,l1,-,-⟩:=hTr.snd.box;have hc0:=hinv.2.2.2.2.1;have hc1:=hinv.2.2.2.2.2;by_cases hend:b.length≤j∧cy=0
    ·obtain⟨he,rfl⟩:=hend;have HD:=hide (hinv.done he hj);have HT2:=hide hTr;clear hinv hTr;go_wp2;go_roundw
     case rel=>exact⟨i+1,_,by omega,by go_num,HT2.out,HD.out⟩
     case measure=>simp [intOf];omega
    ·have hjl:j≤b.length:=by
      rcases Nat.lt_or_ge b.length j with h | h
      ·exact absurd ⟨by omega,hjc h⟩ hend
      ·exact h
     obtain⟨hcell,hfr⟩:=hinv.2.1.2.2 (i+j) (by have:=hinv.1;omega);have hgz:=hinv.2.1.2.1 (i+j);have hgx:=hadb i;have hgy:=hbdb j;have hyl:=hinv.1;by_cases hjb:j<b.length
     ·have HST:=hide (fun T h=>hinv.step hadb hbdb hlt (j:=j) hjl (T:=T) h);have HT2:=hide hTr;obtain⟨ao',acap',ea,-,-,-,hac⟩:=HA.out.below hTr.below zL;obtain⟨bo',bcap',eb,-,-,-,hbc⟩:=HB.out.below hTr.below zL;simp only [zV,true_and] at ea eb;obtain⟨rfl,rfl⟩:=ea;obtain⟨rfl,rfl⟩:=eb;obtain⟨ab,aoff,acur,afz,rfl,-,hac⟩:=hac (by omega);obtain⟨bb,boff,bcur,bfz,rfl,-,hbc⟩:=hbc (by omega);have hca:=hac i hlt;have hcb:=hbc j hjb;clear hac hbc hinv hTr hend hjc;generalize a.getD i 0=x at *;generalize b.getD j 0=y at *;generalize ys.getD (i+j) 0=z at *;have hp0:0≤x*y:=Int.mul_nonneg hgx.1 hgy.1;have hp1:x*y≤9999*9999:=Int.mul_le_mul (by omega) (by omega) hgy.1 (by omega);have HS:=hide (HST.out _ rfl);clear HST;generalize hpe:x*y=q at *;go_wp2
      go_quiet (fail)
      go_wp2;go_roundw
      case rel=>exact⟨j+1,_,_,by omega,fun h=>absurd h (by omega),by go_num,rfl,(HT2.out.drewN _).set zL _ _,HS.out.drewN _⟩
      case measure=>simp [intOf];omega
     ·obtain rfl:j=b.length:=by omega
      have hcp:0<cy:=by omega
      have hz0:ys.getD (i+b.length) 0=0:=hinv.2.2.2.1 _ zL  zL;have HS:=hide (hinv.step hadb hbdb hlt (j:=b.length) hjl (T:=cy) (by rw [hz0,zbF b _ zL];omega));rw [hz0] at hcell;have HT2:=hide hTr;have hm:cy%10000=cy:=by omega
      have hq:cy/10000=0:=by omega
      have HQ:=hide hq;clear hq;rw [hm] at HS;have hcd:decide (0<cy)=true:=decide_eq_true hcp;clear hinv hTr hend hjc hgz hz0;go_wp2;go_roundw
      case rel=>exact⟨b.length+1,_,_,by omega,fun _=>HQ.out,by go_num,rfl,HT2.out.set zL _ _,HS.out⟩
      case measure=>simp [intOf]
  ·obtain rfl:i=a.length:=by omega
   have HV:=hide (show dv zs=dv a*dv b by have:=hout.2.2.1;rw [List.take_length] at this;exact this);have hzl:=hout.1;have HD:=hide (hout.2.1.dig (by omega) (a.length+b.length+1) (by omega));have HT2:=hide hTr;clear hout hTr;go_wp2_with fail;refine(zao wr (sa*sb) _ zs (by rw [← hzl];rw [hzl];exact hzl ▸ HD.out) (by rw [HV.out];have:=HSS.out;omega)).mono ?_;rintro e w2 ⟨r,rfl,hr,hb2⟩;have hT3:=HT2.out.later hb2;rw [HV.out,show sa*sb *(dv a*dv b)=x0*y0 by rw [HX.out,HY.out,Int.mul_assoc,Int.mul_assoc,Int.mul_left_comm sb]] at hr;replace hr:=hr.mono (show zs.length≤n+m+1 by omega);have HR:=hide hr;obtain⟨sr,o,l,c,rfl,-⟩:=hr.form;obtain⟨c0,c1,f0,f1⟩:=hT3.res.box;have HF:=hide (boxedR (w:=w) HR.out hT3.res hT3.below (by omega));clear hr hT3 hb2 HR HT2 HD HV HX HY HSS;go_wp2;exact bodyPost_ret (v:=.agg #[.int .i64 sr,.slice o l c]) (by simp [results,Tryz.results63,go_sem,c0,c1]) rfl HF.out
theorem zhd (n:Nat):dp n≤bp n:=by
 induction n with
 | zero=>simp [bp,dp]
 | succ n ih=>simp only [bp,dp];have:=zap n;omega
theorem RowI.owns{base cap:Nat}{ds:List Int}(h:w.ownsRow base 3 1 (.slice (some ⟨g,0,none⟩) ds.length cap) ds.length (ds.map (Value.int .i64)))(hd:DB ds):RowI w g ds:=by
 refine⟨?_,hd,fun j hj=>⟨?_,h.frozenAt j⟩⟩
 ·rcases h.2 with⟨e,-⟩ |⟨g',cap',cur,e,hb,hg,-⟩
  ·cases e
  ·simp only [zV,Option.some.injEq,Addr.mk.injEq,true_and,and_true] at e;obtain⟨rfl,rfl⟩:=e;exact⟨_,_,hg⟩
 ·rw [h.cellAt j (by omega)];simp [List.getD_eq_getElem?_getD,hj]
theorem RowI.take(h:RowI w g zs)(n:Nat):RowI w g (zs.take n):=by
 obtain⟨h1,h2,h3⟩:=h;refine⟨h1,zbr h2 n,fun j hj=>?_⟩;rw [List.length_take] at hj;rw [zay zs n j (by omega)];exact h3 j (by omega)
theorem RowI.later{w':World}(h:RowI w g zs)(hb:Below B w w')(hg:g<B):RowI w' g zs:=by
 obtain⟨⟨cur,fz,h1⟩,h2,h3⟩:=h;exact⟨⟨cur,fz,(hb.block g hg).trans h1⟩,h2,fun j hj=>⟨(hb.cell (p:=⟨g,j,none⟩) hg).trans (h3 j hj).1,(hb.frozen (p:=⟨g,j,none⟩) hg).trans (h3 j hj).2⟩⟩
structure IBox (w W:World)(a0 a1:Value):Prop where
 fst:BoxR W w.heap.size a0 a1
 res:Box W (w.heap.size+1) (.bool false) (.slice none 0 0)
 below:Below w.heap.size w W
 size:w.heap.size+1<W.heap.size
theorem iBox (w:World)(a0 a1:Value):IBox w ((w.alloc (.cells #[a0,a1] 76)).alloc (.cells #[.bool false,.slice none 0 0] 90)) a0 a1 where
 fst:=(zn w _ _ _ rfl).later ((zB _ _).alloc (by simp) _:Below (w.heap.size+1) _ _) (by omega)
 res:=zl (w.alloc _) _ _ _ _ (by simp)
 below:=((zB _ _).alloc zL _).alloc (by simp) _
 size:=by simp
theorem IBox.later{W':World}(h:IBox w W a0 a1)(hb:Below B W W')(hB:w.heap.size+1+1≤B):IBox w W' a0 a1 where
 fst:=h.fst.later hb (by omega)
 res:=h.res.later hb (by omega)
 below:=h.below.trans (hb.mono (by omega))
 size:=zT h.size hb.size
def IOut (w wr:World)(a0 a1:Value)(A:Int)(n:Nat)(g:Nat)(l:Value)(zs ls:List Int):Prop:=
 IBox w wr a0 a1∧RowI wr g zs∧Nrm zs∧zs.length≤n∧wr.ownsRow (g+1) 112 1 l ls.length (ls.map (Value.int .u32))∧LB ls∧A=lv ls+bp ls.length*dv zs ∧
  (dv zs=0→ls.length=0∨ls.getD (ls.length-1) 0≠0)∧g<wr.heap.size∧lenOf l=ls.length∧ls.length≤n
theorem IOut.few(h:IOut w wr a0 a1 A n g l zs ls)(hA:A<bp n)(hz:zs.length≠0):ls.length<n:=by
 obtain⟨-,h2,h3,-,-,h6,h7,-⟩:=h;have h8:=zcg h2.2.1 h3 hz;have h9:=zF h6;have h10:=zQ ls.length;have e5:bp ls.length*1≤bp ls.length*dv zs:=Int.mul_le_mul_of_nonneg_left (by omega) (by omega);by_cases hk:ls.length<n
 ·exact hk
 ·have:=zad (m:=n) (n:=ls.length) (by omega);omega
def IDiv (wr:World)(g:Nat)(zs:List Int)(p:Nat)(r:Int)(qs:List Int):Prop:=
 qs.length=zs.length∧RowI wr g qs∧qs.take p=zs.take p∧dv (zs.drop p)=4294967296*dv (qs.drop p)+r∧0≤r∧r<4294967296
theorem IDiv.start(h:RowI wr g zs):IDiv wr g zs zs.length 0 zs:=
 ⟨rfl,h,rfl,by rw [List.drop_length];simp [dv],by decide,by decide⟩
theorem IDiv.step{p:Nat}(h:IDiv wr g zs (p+1) r qs)(hp:p<zs.length)(hT:T=r*10000+qs.getD p 0):
  IDiv (wr.setCell ⟨g,p,none⟩ (.int .i64 (T/4294967296))) g zs p (T%4294967296) (qs.set p (T/4294967296)):=by
 obtain⟨h1,h2,h4,h5,h6,h7⟩:=h;have hz:=h2.2.1 p;have he:qs.getD p 0=zs.getD p 0:=zev h4 (Nat.lt_succ_self p);refine⟨by rw [List.length_set];exact h1,h2.store (by omega) (by omega),?_,?_,by omega,by omega⟩
 ·rw [zau _ _ _ _ zL];have:=congrArg (List.take p) h4
  rwa [List.take_take,List.take_take,Nat.min_eq_left (by omega)] at this
 ·rw [zE zs p hp,zE (qs.set p (T/4294967296)) p (by rw [List.length_set];omega),zce qs p (p+1) _ (Nat.lt_succ_self p),zC _ _ _ _ (by omega),if_pos rfl];simp only [dv];rw [h5,← he];omega
theorem IOut.step{w1 w3:World}{m:Nat}{l':Value}(h:IOut w wr a0 a1 A n g l zs ls)(hgw:w.heap.size+1+1≤g)(hA:A<bp n)(hz:zs.length≠0)
  (hd:IDiv w1 g zs 0 r qs) (hb1:Below g wr w1) (hg1:wr.grownBy w1 (some g))
  (hown:w3.ownsRow (g+1) 112 1 l' (ls.length+1) (ls.map (Value.int .u32)++[.int .u32 r])) (hg3:(w1.alloc (.cells #[.int .u32 r] 112)).grownBy w3 l.ownBlock)
  (hm:m≤qs.length) (hqm:dv (qs.take m)=dv qs) (hnm:Nrm (qs.take m)):IOut w w3 a0 a1 A n g l' (qs.take m) (ls++[r]):=by
 have hf:=h.few hA hz;obtain⟨h1,h2,h3,h4,h5,h6,h7,h8,h9,h10,h11⟩:=h;obtain⟨d1,d2,d3,d4,d5,d6⟩:=hd;rw [List.drop_zero,List.drop_zero] at d4;have hpos:=zcg h2.2.1 h3 hz;have hown1:=h5.kept hg1 (.inr (fun e=>by have:=h5.lt _ e;omega));have hb3:Below (g+1) w1 w3:=zbv hown1 (by have:=hg1.size;omega) hg3;refine⟨(h1.later hb1 hgw).later hb3 (by omega),(d2.take m).later hb3 (by omega),hnm,by rw [List.length_take];omega,by rw [List.length_append,List.map_append];exact hown,zfO h6 ⟨d5,d6⟩,?_,?_,?_,?_,by simp;omega⟩
 ·rw [zij,hqm,h7,d4,List.length_append,List.length_singleton];simp only [bp];rw [Int.mul_add];have e:bp ls.length *(4294967296*dv qs)=4294967296*bp ls.length*dv qs:=by rw [Int.mul_left_comm,Int.mul_assoc]
  rw [e];omega
 ·intro h0;right;rw [hqm] at h0;rw [List.length_append,List.length_singleton,Nat.add_sub_cancel,zG,List.getElem?_append_right zL,Nat.sub_self];simp;omega
 ·have:=hb3.size;have:=hg1.size;omega
 ·rw [zh5 hown];simp
theorem zju{s d:Int}(hs:(k=0∧s=0)∨(0<k∧(s=1∨s=-1)))(hk:k=0→d=0):(if decide (s<0)=true then -d else d)=s*d:=by
 rcases hs with⟨h1,h2⟩ |⟨-,h2 | h2⟩
 ·subst h2;rw [hk h1];simp
 ·subst h2;simp
 ·subst h2;simp
theorem IOut.done{sa:Int}(h:IOut w wr (.int .i64 sa) a1 A n g l zs ls)(hn:n≤1000000)(hz:zs.length=0)(hs:(k=0∧sa=0)∨(0<k∧(sa=1∨sa=-1)))(hk:k=0→A=0)(hk':A=0→k=0):
  NumL wr (.agg #[.bool (decide (sa<0)),l]) (sa*A) n:=by
 obtain⟨h1,h2,h3,h4,h5,h6,h7,h8,h9,h10,h11⟩:=h;have e0:zs=[]:=List.eq_nil_of_length_eq_zero hz;subst e0;have e:A=lv ls:=by simpa [dv] using h7
 refine⟨_,l,ls,rfl,Lim.owns h5 h6 (by omega),h8 rfl,fun h0=>?_,?_,h11⟩
 ·have:A=0:=by rw [e,List.eq_nil_of_length_eq_zero h0];rfl
  have:=hk' this;have:sa=0:=by omega
  subst this;rfl
 ·rw [← e,zju hs hk]
theorem zh3 (w:World)(va:Value)(x:Int)(n:Nat)(ha:NumR w va x n)(hn6:n≤1000000:=by omega):
  Calls Tryz.prog 43 #[va] w fun e w'=>IntPost w x n e w':=by
 obtain⟨sa,la,a,rfl,hla,nra,hx,hsa,hna⟩:=ha;have HA:=hide hla;obtain⟨ao,acap,rfl,hacap,halen,hadb,-⟩:=hla;replace halen:a.length≤1000000:=by omega
 have HX:=hide hx;clear hx;obtain⟨i0,hi,hz0,hz1,hz2⟩:=info_parts Tryz.infoInt;obtain⟨j0,hj,hy0,hy1,hy2⟩:=info_parts Tryz.infoU32;by_cases hl0:a.length=0
 ·rcases hsa with⟨-,rfl,e⟩ |⟨h,-⟩
  ·simp only [zV] at e;obtain⟨rfl,-,rfl⟩:=e;have e0:a=[]:=List.eq_nil_of_length_eq_zero hl0;subst e0;have HF:Hid (NumPost w x n (.returned (.agg #[.bool false,.slice none 0 0])) ((w.alloc (.cells #[.int .i64 0,.slice none 0 0] 76)).alloc (.cells #[.bool false,.slice none 0 0] 90))):=
    ⟨_,rfl,⟨false,_,[],rfl,⟨none,0,rfl,Nat.le_refl _,by simp,zaF,fun h=>absurd h (by simp)⟩,.inl rfl,fun _=>rfl,by rw [HX.out];simp [dv,lv],by simp⟩,(iBox w _ _).below⟩
   clear HA HX nra;go_enter Tryz.func43,Tryz.ntmps43;go_wp2;go_loopw [3,4] (fun d l wr=>d=.slice none 0 0∧l=.slice none 0 0∧wr=(w.alloc (.cells #[.int .i64 0,.slice none 0 0] 76)).alloc (.cells #[.bool false,.slice none 0 0] 90)) (fun _ _ _=>0)
   case atStart=>exact⟨rfl,rfl,rfl⟩
   case round=>
    obtain⟨rfl,rfl,rfl⟩:=hrel;go_wp2;exact bodyPost_ret (v:=.agg #[.bool false,.slice none 0 0]) (by simp [results,Tryz.results43,go_sem]) rfl ⟨HF.out,fun neg s e a l c h=>by simp only [Ending.returned.injEq,Value.agg.injEq,Array.mk.injEq,List.cons.injEq,and_true] at e;rw [← e.2] at h;cases h⟩
  ·omega
 ·have hsa':(a.length=0∧sa=0)∨(0<a.length∧(sa=1∨sa=-1)):=by
   rcases hsa with⟨h1,h2,-⟩ |⟨h1,h2⟩
   ·omega
   ·exact .inr ⟨h1,h2⟩
  clear hsa;have HSA:=hide hsa';clear hsa';have HZ:=hide (zch hadb nra);have hAlt:Hid (dv a<bp a.length):=by
   have h1:=za9 hadb;have h2:=zhd a.length;exact(by omega:dv a<bp a.length)
  have HN:Hid (∀ ab aoff,ao=some ⟨ab,aoff,none⟩→∀ j u,(a.map (Value.int .i64))[j]?=some u→((w.alloc (.cells #[.int .i64 sa,.slice ao a.length acap] 76)).alloc (.cells #[.bool false,.slice none 0 0] 90)).cell? ((⟨ab,aoff,none⟩:Addr).add j)=some u):=by
   intro ab aoff hao j u hu;obtain⟨_,_,e,-,-,-,hac⟩:=HA.out.below (iBox w (.int .i64 sa) (.slice ao a.length acap)).below zL;simp only [zV,true_and] at e;obtain⟨rfl,rfl⟩:=e;obtain⟨ab',aoff',acur,afz,e,-,hac⟩:=hac (by omega);rw [hao] at e;simp only [Option.some.injEq,Addr.mk.injEq,and_true] at e;obtain⟨rfl,rfl⟩:=e;rw [List.getElem?_map] at hu;by_cases hj:j<a.length
   ·rw [List.getElem?_eq_getElem hj] at hu;simp only [Option.map_some,Option.some.injEq] at hu;subst hu;have:=hac j hj;rw [zG,List.getElem?_eq_getElem hj,Option.getD_some] at this;unfold Addr.add;split
    ·rename_i h0;subst h0;exact this
    ·exact this
   ·rw [List.getElem?_eq_none (by omega)] at hu;cases hu
  obtain⟨ab,aoff,hao⟩:∃ ab aoff,ao=some ⟨ab,aoff,none⟩:=by
   obtain⟨_,_,e,-,-,-,hac⟩:=HA.out;simp only [zV,true_and] at e;obtain⟨rfl,rfl⟩:=e;obtain⟨ab,aoff,acur,afz,e,-,hac⟩:=hac (by omega);exact⟨ab,aoff,e⟩
  subst hao;have HN':=hide (HN.out ab aoff rfl);have HIB:=hide (iBox w (.int .i64 sa) (.slice (some ⟨ab,aoff,none⟩) a.length acap));clear HN HA;go_enter Tryz.func43,Tryz.ntmps43;go_wp2_with (at_builtin;refine wpList_append_lies _ rfl _ _ 28 rfl (w.heap.size+1+1) 3 i0 (.int .i64 0) 1 8 Tryz.underlying28 hi hz0 hz1 hz2 rfl (by decide) (.slice none 0 0) 0 [] rfl (World.ownsRow_nil _ _ _ _) ⟨ab,aoff,none⟩ a.length acap (a.map (Value.int .i64)) rfl (by simp) HN'.out (fun u hu=>by obtain⟨z,-,rfl⟩:=List.mem_map.1 hu;rfl) (by omega) (by unfold maxLen;omega) (by omega) (by simp) (w.heap.size+1+1) (by simp) ?_);intro g cap w1 hown hgrow hat hlt;obtain rfl:g=w.heap.size+1+1:=by rcases hat with h | h;cases h;exact h
  have hcap:a.length≤cap:=by
   rcases hown.2 with⟨e,-⟩ |⟨_,_,_,e,-,-,hc,-⟩
   ·cases e
   ·simp only [zV] at e;rw [e.2.2];exact hc
  have HO:=hide (show IOut w w1 (.int .i64 sa) (.slice (some ⟨ab,aoff,none⟩) a.length acap) (dv a) a.length (w.heap.size+1+1) (.slice none 0 0) a [] from
   ⟨HIB.out.later (B:=w.heap.size+1+1) ((zB _ _).grown hgrow (by simp) (fun k hk=>by cases hk)) zL,RowI.owns hown hadb,nra,Nat.le_refl _,World.ownsRow_nil _ _ _ _,zaF,by simp [lv,bp],fun _=>.inl rfl,hlt,rfl,by simp⟩)
  clear hown hgrow hat hlt HN' HIB nra;go_wp2;go_loopw [3,4] (fun d l wr=>∃ zs ls:List Int,d=.slice (some ⟨w.heap.size+1+1,0,none⟩) zs.length cap∧IOut w wr (.int .i64 sa) (.slice (some ⟨ab,aoff,none⟩) a.length acap) (dv a) a.length (w.heap.size+1+1) l zs ls) (fun _ l _=>a.length-lenOf l)
  case atStart=>exact⟨a,[],by simp,HO.out⟩
  case round=>
   clear HO;obtain⟨wo,hwo⟩:∃ wo:World,wo=wr:=⟨_,rfl⟩;obtain⟨zs,ls,rfl,hout⟩:=hrel;by_cases hz:zs.length=0
   ·obtain⟨o,l,c,rfl⟩:∃ o l c,u4=.slice o l c:=by
     rcases hout.2.2.2.2.1.2 with⟨e,-⟩ |⟨_,_,_,e,-⟩
     ·exact⟨_,_,_,e⟩
     ·exact⟨_,_,_,e⟩
    have HD:=hide (hout.done (k:=a.length) (by omega) hz HSA.out HZ.out.2 HZ.out.1);obtain⟨k0,k1,-,-⟩:=hout.1.fst.box;obtain⟨c0,c1,f0,f1⟩:=hout.1.res;have HD':=hide (show NumL wr (.agg #[.bool (decide (sa<0)),.slice o l c]) x n by rw [HX.out];exact HD.out.mono hna);have HF:=hide (boxed (w:=w) HD'.out c0 c1 (by simp) (by simp) hout.1.below (by omega));have HNW:Hid (NewSl w (.slice o l c)):=fun ad l' c' h=>by
     rcases hout.2.2.2.2.1.2 with⟨e,-⟩ |⟨g',_,_,e,hbg,-⟩
     ·rw [e] at h;cases h
     ·rw [e] at h;simp only [zV,Option.some.injEq] at h;rw [← h.1];show w.heap.size≤g';omega
    clear hout HD HD' HX HZ HSA hAlt;go_wp2;exact bodyPost_ret (v:=.agg #[.bool (decide (sa<0)),.slice o l c]) (by simp [results,Tryz.results43,go_sem,c0,c1]) rfl ⟨HF.out,fun neg s e=>by simp only [Ending.returned.injEq,Value.agg.injEq,Array.mk.injEq,List.cons.injEq,and_true] at e;rw [← e.2];exact HNW.out⟩
   ·have hfew:=hout.few hAlt.out hz;have hzn:=hout.2.2.2.1;have HOUT:=hide hout;have HRI:=hide hout.2.1;clear hout;subst hwo;go_wp2;go_loopw [5,6] (fun c i w1=>∃(p:Nat) (r:Int) (qs:List Int),p≤zs.length∧i=.int .i64 ((p:Int)-1)∧c=.int .i64 r∧IDiv w1 (w.heap.size+1+1) zs p r qs∧Below (w.heap.size+1+1) wo w1∧wo.grownBy w1 (some (w.heap.size+1+1))) (fun _ i _=>(intOf i+1).toNat)
    case atStart=>exact⟨zs.length,0,zs,Nat.le_refl _,by go_num,rfl,IDiv.start HRI.out,zB _ _,World.grownBy.refl _ _⟩
    case round=>
     obtain⟨p,r,qs,hp,rfl,rfl,hd,hb1,hg1⟩:=hrel;have hr0:=hd.2.2.2.2.1;have hr1:=hd.2.2.2.2.2;by_cases hp0:p=0
     ·subst hp0;have hql:=hd.1;have hown:=HOUT.out.2.2.2.2.1.kept hg1 (.inr (fun e=>by have:=HOUT.out.2.2.2.2.1.lt _ e;omega));have HBL:Hid (w.heap.size+1+1<wr.heap.size):=by have:=zm hd.2.1.1.choose_spec.choose_spec;exact this
      have HROW:=hide hd.2.1;have HSTA:=hide (fun l' w3 m ho hg hm hqm hnm=>HOUT.out.step (l':=l') (w3:=w3) (m:=m) zL hAlt.out hz hd hb1 hg1 ho hg hm hqm hnm);have hll:=HOUT.out.2.2.2.2.2.2.2.2.2.1;clear hd hb1 hg1;go_wp2_with (at_builtin;refine wpList_append_lies _ rfl _ _ 88 rfl (w.heap.size+1+1+1) 112 j0 (.int .u32 0) 1 4 Tryz.underlying88 hj hy0 hy1 hy2 rfl (by decide) u4 ls.length (ls.map (Value.int .u32)) rfl (hown.alloc _) ⟨wr.heap.size,0,none⟩ 1 1 [.int .u32 r] rfl rfl (World.news_of_block (heap_alloc_new wr _)) (fun u hu=>by rw [List.mem_singleton] at hu;rw [hu];rfl) (by decide) (by unfold maxLen;omega) (by omega) (by simp;have:=HBL.out;omega) (wr.heap.size+1) (by simp) ?_);intro g' cap' w3 hown3 hgrow3 hat3 hlt3;have HQ3:=hide (HROW.out.later (zbv hown (by have:=HBL.out;omega) hgrow3) (by omega));have HST:=hide (fun m hm hqm hnm=>HSTA.out _ _ m hown3 hgrow3 hm hqm hnm);clear hown3 hgrow3 hat3 hlt3 hown HSTA HROW HOUT HRI;go_wp2
      go_loop [3] (fun t=>∃ m:Nat,m≤qs.length∧t=.slice (some ⟨w.heap.size+1+1,0,none⟩) m cap∧Hid (dv (qs.take m)=dv qs)) (fun t=>lenOf t)
      case atStart=>exact⟨qs.length,Nat.le_refl _,by rw [hql],by show dv _=_;rw [List.take_length]⟩
      case round=>
       obtain⟨m,hm,rfl,HV⟩:=hrel;by_cases h0:m=0
       ·subst h0;have HF:=hide (HST.out 0 hm HV.out (zbg hm (.inl rfl)));have hml:(qs.take 0).length=0:=by simp
        clear HST HV;go_wp2;go_roundw
        case rel=>exact⟨qs.take 0,ls++[r],by rw [hml],HF.out⟩
        case measure=>show a.length-(ls.length+1)<a.length-lenOf _;omega
       ·obtain⟨k,rfl⟩:∃ k,m=k+1:=⟨m-1,by omega⟩;obtain⟨hcell,-⟩:=HQ3.out.2.2 k (by omega);have hzb:=HQ3.out.2.1 k;have HG:Hid (qs.getD (k+1-1) 0=qs.getD k 0):=by show _=_;rw [Nat.add_sub_cancel]
        generalize hz:qs.getD k 0=z at *;by_cases hz0:z=0
        ·subst hz0;go_wp2
         go_round
         case rel=>exact⟨k,by omega,rfl,by have:=zei (ds:=qs) (n:=k+1) (by omega) HG.out;rw [Nat.add_sub_cancel] at this;exact this.trans HV.out⟩
         case measure=>simp [lenOf]
        ·have hz1:(z==0)=false:=by simp [hz0]
         have HF:=hide (HST.out (k+1) hm HV.out (zbg hm (.inr (by rw [HG.out];exact hz0))));have hml:(qs.take (k+1)).length=k+1:=by rw [List.length_take];omega
         clear HST HV;go_wp2;go_roundw
         case rel=>exact⟨qs.take (k+1),ls++[r],by rw [hml],HF.out⟩
         case measure=>show a.length-(ls.length+1)<a.length-lenOf _;omega
     ·obtain⟨k,rfl⟩:∃ k,p=k+1:=⟨p-1,by omega⟩;obtain⟨hcell,hfr⟩:=hd.2.1.2.2 k (by have:=hd.1;omega);have hzb:=hd.2.1.2.1 k;have HS:=hide (hd.step (by omega) rfl);have HB1:=hide hb1;have HG1:=hide hg1;clear hd hb1 hg1 HOUT HRI;have hki:((k+1:Nat):Int)-1=(k:Int):=by omega
      rw [hki];generalize qs.getD k 0=z at *;go_wp2;go_roundw
      case rel=>exact⟨k,_,_,by omega,by go_num,rfl,HS.out,HB1.out.setCell zL _,zck HG1.out _ _⟩
      case measure=>simp [intOf]
end Go.Proofs.YtncamilanceahaaGreat
