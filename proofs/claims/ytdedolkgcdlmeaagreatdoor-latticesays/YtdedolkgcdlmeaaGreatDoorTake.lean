import Derived.Test.YtdedolkgcdlmeaaGreatDoorOf
import Derived.Laws.CopyOwn
import Derived.Deep.AppendLies
import Derived.Deep.RegionWith
set_option maxRecDepth 100000
set_option maxHeartbeats 800000
namespace Go.Proofs.YtdedolkgcdlmeaaGreatDoor
open Go.RowKit Limbs
variable{zs ys b l xs:List Int}{w wr w' W:World}{k g off s p:Nat}{P Q z cy y x T X:Int}{a0 a1 r0 r1:Value}
theorem Tryz.sizeU32:(Tryz.prog.info? 104).map (·.size)=some 1:=by kernel_rfl
theorem Row.of_block{t:TypeId}(h:w.heap[g]?=some (.cells (zs.map (Value.int .u32)).toArray t (0,0)))(hlb:LB zs):Row w g zs:=by
 refine⟨?_,hlb,fun j hj=>⟨?_,frozen_of_row w g j _ t h⟩⟩
 ·rcases Nat.lt_or_ge g w.heap.size with hlt | hge
  ·exact hlt
  ·rw [Array.getElem?_eq_none hge] at h;cases h
 ·rw [cell_of_row w g j _ t (0,0) h];simp [List.getD_eq_getElem?_getD,hj]
theorem zjc (m:Nat):madeCells #[Value.int .u32 0] m=((List.replicate m (0:Int)).map (Value.int .u32)).toArray:=by
 apply Array.ext_getElem?;intro j;by_cases hj:j<m
 ·simp [madeCells,hj,Nat.mod_one]
 ·simp [madeCells,hj]
def FreshPost (w:World)(zs:List Int)(e:Ending)(w':World):Prop:=
 e=.returned (.slice (some ⟨w.heap.size,0,none⟩) zs.length zs.length)∧Row w' w.heap.size zs∧Below w.heap.size w w'
theorem zhB (w:World)(ao:Option Addr)(cap:Nat)(zs:List Int)(hc:0<zs.length→∃ b off,ao=some ⟨b,off,none⟩∧b<w.heap.size∧∀ i,i<zs.length→w.cell? ⟨b,off+i,none⟩=some (.int .u32 (zs.getD i 0))):
  ∃ W,(∀ ty,(Builtin.copy_ #[27,27] ty #[.slice (some ⟨w.heap.size,0,none⟩) zs.length zs.length,.slice ao zs.length cap]).run Tryz.prog (w.alloc (.cells ((List.replicate zs.length (0:Int)).map (Value.int .u32)).toArray 104))=.ok (goInt zs.length) W) ∧
   W.heap[w.heap.size]?=some (.cells (zs.map (Value.int .u32)).toArray 104 (0,0))∧Below w.heap.size w W:=by
 by_cases h0:zs.length=0
 ·obtain rfl:zs=[]:=List.eq_nil_of_length_eq_zero h0;refine⟨_,fun ty=>?_,heap_alloc_new w _,(zB _ _).alloc zL _⟩;exact run_copy_none _ _ _ ty 104 _ _ _ _ _ _ Tryz.underlying27 Tryz.sizeU32 (by simp)
 ·obtain⟨b,off,rfl,hb,hcell⟩:=hc (by omega);have hsrc:∀ j v,(zs.map (Value.int .u32))[j]?=some v→(w.alloc (.cells ((List.replicate zs.length (0:Int)).map (Value.int .u32)).toArray 104)).cell? ((⟨b,off,none⟩:Addr).add j)=some v:=by
   intro j u hj;rw [List.getElem?_map] at hj;by_cases hjl:j<zs.length
   ·rw [List.getElem?_eq_getElem hjl] at hj;simp at hj;subst hj;have hadd:(⟨b,off,none⟩:Addr).add j=⟨b,off+j,none⟩:=by unfold Addr.add;split <;> simp_all
    rw [hadd,World.cell?_alloc_past _ _ _ hb,hcell j hjl];simp [List.getD_eq_getElem?_getD,hjl]
   ·rw [List.getElem?_eq_none (by omega)] at hj;cases hj
  have hrun:=fun ty=>run_copy_row (P:=Tryz.prog) (w.alloc (.cells ((List.replicate zs.length (0:Int)).map (Value.int .u32)).toArray 104)) 27 27 ty 104 w.heap.size 0 zs.length zs.length ⟨b,off,none⟩ zs.length cap _ 104 (zs.map (Value.int .u32)) Tryz.underlying27 Tryz.sizeU32 (heap_alloc_new w _) (by simp) hsrc (by simp) (ints_oneCell _ _);rw [zM] at hrun;refine⟨_,hrun,?_,below_setRow ((zB _ _).alloc zL _) zL _⟩;rw [setRow_heap _ _ _ _ _ _ (heap_alloc_new w _)];simp
theorem zbV (w:World)(v:Value)(zs:List Int)(h:Lim w v zs):
  Calls Tryz.prog 96 #[v] w fun e w'=>FreshPost w zs e w':=by
 obtain⟨ao,cap,rfl,hcap,hlen,hlb,hc⟩:=h;obtain⟨W,hcp,hrow,hbe⟩:=zhB w ao cap zs hc;clear hc;have hmk:=zbc zs.length (by omega);rw [zjc] at hmk;have HL:=hide (Row.of_block hrow hlb);have HB:=hide hbe;clear hrow hbe;generalize ((List.replicate zs.length (0:Int)).map (Value.int .u32)).toArray=C at *;go_enter Tryz.func96,Tryz.ntmps96;go_wp2;go_ret;exact⟨rfl,HL.out,HB.out⟩
theorem FreshPost.lim(hr:Row w' w.heap.size zs)(hl:zs.length≤1000000):Lim w' (.slice (some ⟨w.heap.size,0,none⟩) zs.length zs.length) zs:=hr.lim _ zL hl
structure Two (w W:World)(a0 a1 r0 r1:Value):Prop where
 fst:Box W w.heap.size a0 a1
 res:Box W (w.heap.size+1) r0 r1
 below:Below w.heap.size w W
 size:w.heap.size+1<W.heap.size
theorem two (w:World)(a0 a1 r0 r1:Value)(t1 t2:TypeId):Two w ((w.alloc (.cells #[a0,a1] t1)).alloc (.cells #[r0,r1] t2)) a0 a1 r0 r1 where
 fst:=(zf w _ _ _ _ rfl).later ((zB _ _).alloc (by simp) _:Below (w.heap.size+1) _ _) (by omega)
 res:=zf _ _ _ _ _ (by simp)
 below:=((zB _ _).alloc zL _).alloc (by simp) _
 size:=by simp
theorem Two.later{W':World}(h:Two w W a0 a1 r0 r1)(hb:Below W.heap.size W W'):Two w W' a0 a1 r0 r1 where
 fst:=h.fst.later hb (by have:=h.size;omega)
 res:=h.res.later hb h.size
 below:=h.below.trans (hb.mono h.below.size)
 size:=zT h.size hb.size
theorem Two.drew(h:Two w W a0 a1 r0 r1):Two w W.drew a0 a1 r0 r1:=⟨h.fst,h.res,h.below.drew,h.size⟩
theorem zfL (w:World)(va:Value)(x:Int)(n:Nat)(ha:NumL w va x n)(hn:n≤1000000):
  Calls Tryz.prog 55 #[va] w fun e w'=>NumPost w (-x) n e w':=by
 obtain⟨an,sa,a,rfl,hla,nra,-,hx,hna⟩:=ha;have HA:=hide hla;obtain⟨ao,acap,rfl,-⟩:=hla;have HX:=hide hx;clear hx;go_enter Tryz.func55,Tryz.ntmps55;go_wp2_with fail;have hT:=two w (.bool an) (.slice ao a.length acap) (.bool false) (.slice none 0 0) 29 29;generalize (w.alloc (.cells #[.bool an,.slice ao a.length acap] 29)).alloc (.cells #[.bool false,.slice none 0 0] 29)=W at *;obtain⟨k0,k1,-,-⟩:=hT.fst
 go_region_held3 (fun w'=>w'.cell? ⟨w.heap.size,0,none⟩=some (.bool an)∧w'.cell? ⟨w.heap.size,1,none⟩=some (.slice ao a.length acap)) (go_keep)
  (first
   |(go_at_call 96;refine(zbV _ _ a (HA.out.below (by exact hT.below.drew) zL)).mono ?_;rintro e w1 ⟨rfl,hr1,hb1⟩;have hT1:=hT.drew.later hb1;obtain⟨p0,p1,-,-⟩:=hT1.fst)
   |(go_at_call 95;refine(z8 _ _ _ a n (FreshPost.lim hr1 (by omega)) hna).mono ?_;rintro e w2 ⟨r,rfl,hr,hb2⟩;have hT2:=hT1.later hb2;obtain⟨p0',p1',-,-⟩:=hT2.fst;obtain⟨c0,c1,f0,f1⟩:=hT2.res;have HR:=hide hr;obtain⟨rn,rs,rz,rfl,hl,-⟩:=hr;obtain⟨ro,rcap,rfl,-⟩:=hl))
 have e:(if (!an)=true then -lv a else lv a)=-x:=by rw [HX.out];cases an <;> simp
 rw [e] at HR;have HF:=hide (boxed (w:=w) HR.out c0 c1 (by simp) (by simp) hT2.below (by omega));clear hT hT1 hT2 hb1 hb2 HR e hr1;go_wp2;exact bodyPost_ret (v:=.agg #[.bool rn,.slice ro rz.length rcap]) (by simp [results,Tryz.results55,go_sem,c0,c1]) rfl HF.out
theorem zee (w:World)(va vb:Value)(x y:Int)(n:Nat)(ha:NumL w va x n)(hb:NumL w vb y n)(hn:n≤900000):
  Calls Tryz.prog 97 #[va,vb] w fun e w'=>NumPost w (x-y) (n+1) e w':=by
 obtain⟨an,sa,a,rfl,hla,nra,-,hx,hna⟩:=ha;obtain⟨bn,sb,b,rfl,hlb,nrb,-,hy,hnb⟩:=hb;have HA:=hide hla;have HB:=hide hlb;obtain⟨ao,acap,rfl,-⟩:=hla;obtain⟨bo,bcap,rfl,-⟩:=hlb;have HX:=hide hx;clear hx;have HY:=hide hy;clear hy;go_enter Tryz.func97,Tryz.ntmps97;go_wp2_with fail;have hT:=three w (.bool an) (.slice ao a.length acap) (.bool bn) (.slice bo b.length bcap) (.bool false) (.slice none 0 0) 29 29 29;refine(zey _ _ _ a _ _ b (HA.out.below hT.below zL) (HB.out.below hT.below zL) nra nrb n hna hnb hn).mono ?_;rintro e w2 ⟨r,rfl,hr,hb2⟩;have hT2:=hT.later hb2;obtain⟨c0,c1,f0,f1⟩:=hT2.res;have HR:=hide hr;obtain⟨rn,rs,rz,rfl,hl,-⟩:=hr;obtain⟨ro,rcap,rfl,-⟩:=hl;have e:sg an (lv a)+sg (!bn) (lv b)=x-y:=by rw [HX.out,HY.out];unfold sg;cases an <;> cases bn <;> simp <;> omega
 rw [e] at HR;have HF:=hide (boxed (w:=w) HR.out c0 c1 (by simp) (by simp) hT2.below (by simp));clear hT hT2 hb2 HR e;go_wp2;exact bodyPost_ret (v:=.agg #[.bool rn,.slice ro rz.length rcap]) (by simp [results,Tryz.results97,go_sem,c0,c1]) rfl HF.out
theorem zcQ (hi lo:Int)(h0:0≤hi)(h1:hi<4294967296)(h2:0≤lo)(h3:lo<4294967296):bits BinOp.or IntKind.u64 (hi*4294967296) lo=hi*4294967296+lo:=by
 rw [u64_or _ _ (by omega) (by omega) (by omega) (by omega),nat_join 32 _ _ (by omega) (by omega)];omega
theorem zdb (hi lo:Int)(h0:0≤hi)(h1:hi<4294967296)(h2:0≤lo)(h3:lo<4294967296):0≤hi*4294967296+lo∧hi*4294967296+lo<18446744073709551616:=by omega
theorem zf1{hi lo:Int}(h0:0≤hi)(h1:hi<y)(h2:0≤lo)(h3:lo<4294967296):0≤(hi*4294967296+lo)/y∧(hi*4294967296+lo)/y<4294967296:=by
 have hy:0<y:=by omega
 refine⟨Int.ediv_nonneg (by omega) (by omega),?_⟩;rw [Int.ediv_lt_iff_lt_mul hy];have:(hi+1)*4294967296≤y*4294967296:=Int.mul_le_mul_of_nonneg_right (by omega) (by decide);rw [Int.mul_comm 4294967296 y];omega
def Drawn (w w':World):Prop:=∃ nq,w'=w.drewN nq
theorem div32 (hi lo y:Int)(w:World)(h0:0≤hi)(h1:hi<y)(h2:0≤lo)(h3:lo<4294967296)(h4:y<4294967296):
  Calls Tryz.prog 153 #[.int .u32 hi,.int .u32 lo,.int .u32 y] w fun e w'=>e=.returned (.tuple #[.int .u32 ((hi*4294967296+lo)/y),.int .u32 ((hi*4294967296+lo)%y)])∧Drawn w w':=by
 have hor:=zcQ hi lo h0 (by omega) h2 h3;have hsh:=zdb hi lo h0 (by omega) h2 h3;have hq:=zf1 h0 h1 h2 h3;have hr0:=Int.emod_nonneg (hi*4294967296+lo) (show y≠0 by omega);have hr1:=Int.emod_lt_of_pos (hi*4294967296+lo) (show 0<y by omega);have hy1:(y != 0)=true:=by rw [bne_iff_ne];omega
 have hy2:decide (y≤hi)=false:=decide_eq_false (by omega);have hy3:(y==0)=false:=by rw [beq_eq_false_iff_ne];omega
 go_enter Tryz.func153,Tryz.ntmps153;go_wp2
 go_quiet (fail)
 go_wp2;go_ret2;exact⟨rfl,_,rfl⟩
theorem Row.drewN(h:Row w g zs)(n:Nat):Row (w.drewN n) g zs:=h
theorem zdI{r:Option Nat}(h:w.grownBy w' r)(n:Nat):w.grownBy (w'.drewN n) r:=⟨h.os,h.tape,h.output,h.size,h.block⟩
theorem zcI(h:w.grownBy w' (some g))(k:Nat)(u:Value):w.grownBy (w'.setCell ⟨g,k,none⟩ u) (some g):=
 ⟨h.os,h.tape,h.output,by simpa using h.size,fun j hj hne=>by
  rw [heap_setCell_other _ _ _ _ (fun e=>hne (by simp [e]))];exact h.block j hj hne⟩
def DivInv (w wr:World)(g:Nat)(b:Int)(zs:List Int)(p:Nat)(r:Int)(qs:List Int):Prop:=
 qs.length=zs.length∧Row wr g qs∧w.grownBy wr (some g)∧qs.take p=zs.take p∧lv (zs.drop p)=b*lv (qs.drop p)+r
theorem DivInv.start(h:Row w g zs)(b:Int):DivInv w w g b zs zs.length 0 zs:=
 ⟨rfl,h,World.grownBy.refl _ _,rfl,by rw [List.drop_length];simp [lv]⟩
theorem zfa{a:List Int}{i:Nat}(h:a.take p=b.take p)(hi:i<p):a.getD i 0=b.getD i 0:=by
 rw [← zaG a p i hi,h,zaG b p i hi]
theorem DivInv.step{b:Int}{r:Int}{qs:List Int}(h:DivInv w wr g b zs (p+1) r qs)(hp:p<zs.length){q s:Int}(hq:0≤q∧q<4294967296)(hs:r*4294967296+zs.getD p 0=b*q+s)(nq:Nat):
  DivInv w ((wr.drewN nq).setCell ⟨g,p,none⟩ (.int .u32 q)) g b zs p s (qs.set p q):=by
 obtain⟨h1,h2,h3,h4,h5⟩:=h;refine⟨by rw [List.length_set];exact h1,(h2.drewN nq).store (by omega) hq,zcI (zdI h3 nq) _ _,?_,?_⟩
 ·rw [zaz _ _ _ _ zL];have:=congrArg (List.take p) h4
  rwa [List.take_take,List.take_take,Nat.min_eq_left (by omega)] at this
 ·rw [zC zs p hp,zC (qs.set p q) p (by rw [List.length_set];omega),zcx _ _ _ _ (Nat.lt_succ_self p),zQ _ _ _ _ (by omega),if_pos rfl];simp only [lv];rw [h5,Int.mul_add,Int.mul_add];have e:b *(4294967296*lv (qs.drop (p+1)))=4294967296 *(b*lv (qs.drop (p+1))):=by rw [Int.mul_left_comm]
  rw [e];omega
def DivOnePost (w:World)(g:Nat)(b:Int)(zs:List Int)(e:Ending)(w':World):Prop:=
 ∃ r qs,e=.returned (.int .u32 r)∧0≤r∧r<b∧qs.length=zs.length∧Row w' g qs∧w.grownBy w' (some g)∧lv zs=b*lv qs+r
theorem zeZ (w:World)(g cap:Nat)(zs:List Int)(b:Int)(hr:Row w g zs)(hl:zs.length≤1000000)(hb0:0<b)(hb1:b<4294967296):
  Calls Tryz.prog 137 #[.slice (some ⟨g,0,none⟩) zs.length cap,.int .u32 b] w fun e w'=>DivOnePost w g b zs e w':=by
 have HR:=hide hr;have hlb:=hr.2.1;clear hr;go_enter Tryz.func137,Tryz.ntmps137;go_wp2;go_loopw [5,10] (fun c i wr=>∃(k:Nat) (r:Int) (qs:List Int),k≤zs.length∧i=.int .i64 k∧c=.int .u32 r∧0≤r∧r<b∧DivInv w wr g b zs (zs.length-k) r qs) (fun _ i _=>zs.length-(intOf i).toNat)
 case atStart=>exact⟨0,0,zs,Nat.zero_le _,rfl,rfl,Int.le_refl _,hb0,DivInv.start HR.out b⟩
 case round=>
  obtain⟨k,r,qs,hk,rfl,rfl,hr0,hr1,hinv⟩:=hrel;by_cases hlt:k<zs.length
  ·obtain⟨p,hp⟩:∃ p,p=zs.length-1-k:=⟨_,rfl⟩;have hP:(zs.length:Int)-1-(k:Int)=(p:Int):=by omega
   have hpl:p<zs.length:=by omega
   rw [show zs.length-k=p+1 by omega] at hinv;have hz:=hlb p;obtain⟨hcell,hfr⟩:=hinv.2.1.2.2 p (by have:=hinv.1;omega);rw [zfa hinv.2.2.2.1 (Nat.lt_succ_self p)] at hcell;have hst:=fun q s hq hs nq=>hinv.step hpl (q:=q) (s:=s) hq hs nq;have HK:=hide (show zs.length-(k+1)=p by omega);clear hp;generalize zs.getD p 0=z at *;go_wp2_with fail;refine(div32 r z b _ hr0 hr1 hz.1 hz.2 hb1).mono ?_;rintro e w' ⟨rfl,nq,rfl⟩;have hq:=zf1 hr0 hr1 hz.1 hz.2;have hm0:=Int.emod_nonneg (r*4294967296+z) (show b≠0 by omega);have hm1:=Int.emod_lt_of_pos (r*4294967296+z) hb0;have HS:=hide (hst _ _ hq (Int.mul_ediv_add_emod (r*4294967296+z) b).symm nq);clear hst;generalize (r*4294967296+z)/b=q at *;generalize (r*4294967296+z)%b=s at *;go_wp2;go_roundw
   case rel=>exact⟨k+1,s,_,by omega,by go_num,rfl,hm0,hm1,by rw [HK.out];exact HS.out⟩
   case measure=>simp [intOf];omega
  ·obtain rfl:k=zs.length:=by omega
   rw [Nat.sub_self] at hinv;go_wp2;go_ret;exact⟨r,qs,rfl,hr0,hr1,hinv.1,hinv.2.1,hinv.2.2.1,by have:=hinv.2.2.2.2;simpa using this⟩
structure Pow (s:Nat)(P Q:Int):Prop where
 eq:(2:Int) ^ s=P
 pos:1≤P
 top:P≤2147483648
 co:P*Q=4294967296
 cpos:2≤Q
 small:s≤31
theorem zjZ (s:Nat)(h:s≤31):∃ P Q,Pow s P Q:=by
 refine⟨2 ^ s,2 ^ (32-s),rfl,?_,?_,?_,?_,h⟩
 ·have:0<(2:Int) ^ s:=Int.pow_pos (by decide);omega
 ·have:((2 ^ s:Nat):Int)≤((2 ^ 31:Nat):Int):=Int.ofNat_le.2 (Nat.pow_le_pow_right (by decide) h);have e:((2 ^ s:Nat):Int)=(2:Int) ^ s:=by norm_cast
  rw [e] at this;exact this
 ·rw [← Int.pow_add,show s+(32-s)=32 by omega];decide
 ·have:((2 ^ 1:Nat):Int)≤((2 ^ (32-s):Nat):Int):=Int.ofNat_le.2 (Nat.pow_le_pow_right (by decide) (by omega));have e:((2 ^ (32-s):Nat):Int)=(2:Int) ^ (32-s):=by norm_cast
  rw [e] at this;exact this
theorem zfV(h:Pow s P Q)(o x:Int)(h0:0≤o)(h1:o<P):
  bits BinOp.or IntKind.u32 o (x*P%4294967296)=o+x*P%4294967296∧o+x*P%4294967296<4294967296:=by
 have hc:=h.co;have hp:=h.pos;have hq:=h.cpos;have e:x*P%4294967296=(x%Q)*P:=by
  rw [← hc,Int.mul_comm x P,Int.mul_emod_mul_of_pos x Q (by omega:0<P),Int.mul_comm]
 have m0:=Int.emod_nonneg x (show Q≠0 by omega);have m1:=Int.emod_lt_of_pos x (show 0<Q by omega);have b1:(x%Q+1)*P≤Q*P:=Int.mul_le_mul_of_nonneg_right (by omega) (by omega);rw [Int.mul_comm Q P,hc,Int.add_mul,Int.one_mul] at b1;have b0:0≤(x%Q)*P:=Int.mul_nonneg m0 (by omega);have t:=h.top;rw [e];refine⟨?_,by omega⟩;rw [u32_or _ _ h0 (by omega) b0 (by omega),Nat.or_comm,nat_join s]
 ·omega
 ·have ep:P=((2 ^ s:Nat):Int):=by rw [← h.eq];norm_cast
  obtain⟨k,hk⟩:=Int.eq_ofNat_of_zero_le m0;rw [hk,ep,← Int.natCast_mul,Int.toNat_natCast];exact Nat.mul_mod_left _ _
 ·have ep:P=((2 ^ s:Nat):Int):=by rw [← h.eq];norm_cast
  omega
def UpInv (w wr:World)(l:List Int)(P:Int)(k:Nat)(zs:List Int):Prop:=
 zs.length=l.length+1∧Row wr w.heap.size zs∧Below w.heap.size w wr∧lv (zs.take (k+1))=lv (l.take k)*P∧zs.getD k 0<P
theorem UpInv.start (w:World)(l:List Int)(hp:1≤P):UpInv w (w.alloc (.cells (madeCells #[.int .u32 0] (l.length+1)) 104)) l P 0 (List.replicate (l.length+1) 0):=
 ⟨List.length_replicate,Row.made w _,(zB _ _).alloc zL _,by simp [lv],by rw [zdG];omega⟩
theorem UpInv.step(h:UpInv w wr l P k zs)(hk:k<l.length)(hP:Pow s P Q)(hl:LB l){o:Int}(ho:zs.getD k 0=o)(hx:l.getD k 0=x):
  UpInv w ((wr.setCell ⟨w.heap.size,k,none⟩ (.int .u32 (o+x*P%4294967296))).setCell ⟨w.heap.size,k+1,none⟩ (.int .u32 (x*P/4294967296))) l P (k+1) ((zs.set k (o+x*P%4294967296)).set (k+1) (x*P/4294967296)):=by
 obtain⟨h1,h2,h3,h4,h5⟩:=h;subst ho;subst hx;have hx:=hl k;have ho:=h2.2.1 k;have hor:=(zfV hP _ (l.getD k 0) ho.1 h5).2;have hp:=hP.pos;have ht:=hP.top;have hw0:0≤l.getD k 0*P:=Int.mul_nonneg hx.1 (by omega);have hw1:(l.getD k 0+1)*P≤4294967296*P:=Int.mul_le_mul_of_nonneg_right (by omega) (by omega);rw [Int.add_mul,Int.one_mul] at hw1;have e':(lv (l.take k)+bp k*l.getD k 0)*P=lv (zs.take (k+1))+bp k *(l.getD k 0*P):=by rw [Int.add_mul,h4,Int.mul_assoc]
 generalize l.getD k 0*P=W at *;have e:=zD l k;refine⟨by rw [List.length_set,List.length_set];exact h1,?_,(h3.setCell zL _).setCell zL _,?_,?_⟩
 ·have hr:=h2.store (show k<zs.length by omega) (z:=zs.getD k 0+W%4294967296) (by omega);exact hr.store (by rw [List.length_set];omega) (by omega)
 ·have e1:=zD zs k;have e2:bp (k+1) *(W/4294967296)=bp k *(4294967296 *(W/4294967296)):=by simp only [bp];rw [Int.mul_comm 4294967296 (bp k),Int.mul_assoc]
  have e3:bp k *(W%4294967296+4294967296 *(W/4294967296))=bp k*W:=by rw [Int.emod_add_mul_ediv]
  rw [zD,zaz _ _ _ _ zL,zQ _ _ _ _ (by rw [List.length_set];omega),if_pos rfl,zD,zaz _ _ _ _ zL,zQ _ _ _ _ (by omega),if_pos rfl,e,e',e2,Int.mul_add];rw [Int.mul_add] at e3;omega
 ·rw [zQ _ _ _ _ (by rw [List.length_set];omega),if_pos rfl];omega
def UpPost (w:World)(l:List Int)(P:Int)(e:Ending)(w':World):Prop:=
 ∃ zs,e=.returned (.slice (some ⟨w.heap.size,0,none⟩) (l.length+1) (l.length+1))∧zs.length=l.length+1∧Row w' w.heap.size zs∧lv zs=lv l*P∧Below w.heap.size w w'
theorem zgo (w:World)(v:Value)(l:List Int)(s:Nat)(hl:Lim w v l)(hP:Pow s P Q)(hla:l.length≤900000):
  Calls Tryz.prog 142 #[v,.int .i64 (s:Int)] w fun e w'=>UpPost w l P e w':=by
 obtain⟨ao,acap,rfl,hacap,halen,hlb,hac⟩:=hl;have hmk:=zbc (l.length+1) (by omega);rw [show((l.length+1:Nat):Int)=(l.length:Int)+1 by omega] at hmk;have hs:=hP.small;have hmin:min s 64=s:=by omega
 have hpe:=hP.eq;have HP:=hide hP;have hp1:=hP.pos;have hp2:=hP.top;go_enter Tryz.func142,Tryz.ntmps142;go_wp2;go_loopw [14] (fun i wr=>∃(k:Nat) (zs:List Int),k≤l.length∧i=.int .i64 k∧UpInv w wr l P k zs) (fun i _=>l.length-(intOf i).toNat)
 case atStart=>exact⟨0,_,Nat.zero_le _,rfl,UpInv.start w l hp1⟩
 case round=>
  obtain⟨k,zs,hk,rfl,hinv⟩:=hrel;by_cases hlt:k<l.length
  ·obtain⟨b,off,rfl,hb,hc⟩:=hac (by omega);have hcl:wr.cell? ⟨b,off+k,none⟩=some (.int .u32 (l.getD k 0)):=(hinv.2.2.1.cell (p:=⟨b,off+k,none⟩) hb).trans (hc k hlt);have hst:=hinv.step hlt HP.out hlb rfl rfl;obtain⟨hcell,hfr⟩:=hinv.2.1.2.2 k (by have:=hinv.1;omega);obtain⟨hcell1,hfr1⟩:=hinv.2.1.2.2 (k+1) (by have:=hinv.1;omega);have hg:=hlb k;have ho:=hinv.2.1.2.1 k;have hor:=zfV HP.out _ (l.getD k 0) ho.1 hinv.2.2.2.2;clear hc hac;generalize zs.getD k 0=o at *;generalize zs.getD (k+1) 0=o1 at *;generalize l.getD k 0=x at *;have hw0:0≤x*P:=Int.mul_nonneg hg.1 (by omega);have hw1:x*P≤4294967295*2147483648:=Int.mul_le_mul (by omega) hp2 (by omega) (by decide);go_wp2;go_roundw
   case rel=>exact⟨k+1,_,by omega,by go_num,hst⟩
   case measure=>simp [intOf];omega
  ·obtain rfl:k=l.length:=by omega
   have hl:=hinv.1;have HV:=hide (show lv zs=lv l*P by have:=hinv.2.2.2.1;rwa [zaj zs (by omega),List.take_length] at this);go_wp2;go_ret;exact⟨zs,rfl,hl,hinv.2.1,HV.out,hinv.2.2.1⟩
theorem zhW(h:Pow s P Q)(x y:Int)(hx:0≤x∧x<4294967296):
  P *((y*4294967296+x)/P%4294967296)=(y%P)*4294967296+x-x%P:=by
 have hc:=h.co;have hp:=h.pos;have hq:=h.cpos;have e1:(y*4294967296+x)/P=y*Q+x/P:=by
  rw [← hc,Int.mul_comm P Q,← Int.mul_assoc,Int.add_comm,Int.add_mul_ediv_right _ _ (by omega:P≠0),Int.add_comm]
 have dy:=Int.mul_ediv_add_emod y P;have dx:=Int.mul_ediv_add_emod x P;have y0:=Int.emod_nonneg y (show P≠0 by omega);have y1:=Int.emod_lt_of_pos y (show 0<P by omega);have x0:=Int.emod_nonneg x (show P≠0 by omega);have x1:=Int.emod_lt_of_pos x (show 0<P by omega);have e2:y*Q=4294967296 *(y/P)+(y%P)*Q:=by
  conv=>lhs;rw [← dy]
  rw [Int.add_mul,Int.mul_right_comm,hc]
 have q0:0≤x/P:=Int.ediv_nonneg hx.1 (by omega);have q1:x/P<Q:=by
  rw [Int.ediv_lt_iff_lt_mul (by omega:0<P),Int.mul_comm,hc];exact hx.2
 have b1:(y%P+1)*Q≤P*Q:=Int.mul_le_mul_of_nonneg_right (by omega) (by omega);rw [Int.add_mul,Int.one_mul,hc] at b1;have b0:0≤(y%P)*Q:=Int.mul_nonneg y0 (by omega);have e3:(y*Q+x/P)%4294967296=(y%P)*Q+x/P:=by rw [e2];omega
 rw [e1,e3,Int.mul_add,Int.mul_left_comm,hc];omega
def DownInv (w wr:World)(l:List Int)(P:Int)(k:Nat)(zs:List Int):Prop:=
 zs.length=l.length∧Row wr w.heap.size zs∧Below w.heap.size w wr∧P*lv (zs.take k)+l.getD 0 0%P=lv (l.take k)+bp k *(l.getD k 0%P)
theorem DownInv.start (w:World)(l:List Int)(P:Int):DownInv w (w.alloc (.cells (madeCells #[.int .u32 0] l.length) 104)) l P 0 (List.replicate l.length 0):=
 ⟨List.length_replicate,Row.made w _,(zB _ _).alloc zL _,by simp [lv,bp]⟩
theorem DownInv.drewN(h:DownInv w wr l P k zs)(n:Nat):DownInv w (wr.drewN n) l P k zs:=
 ⟨h.1,h.2.1,zZ h.2.2.1 n,h.2.2.2⟩
theorem DownInv.step(h:DownInv w wr l P k zs)(hk:k<l.length)(hP:Pow s P Q)(hl:LB l)(hy:l.getD (k+1) 0=y)(hx:l.getD k 0=x):
  DownInv w (wr.setCell ⟨w.heap.size,k,none⟩ (.int .u32 ((y*4294967296+x)/P%4294967296))) l P (k+1) (zs.set k ((y*4294967296+x)/P%4294967296)):=by
 obtain⟨h1,h2,h3,h4⟩:=h;subst hy;subst hx;have hd:=zhW hP _ (l.getD (k+1) 0) (hl k);refine⟨by rw [List.length_set];exact h1,h2.store (by omega) (by omega),h3.setCell zL _,?_⟩;rw [zD,zD,zaz _ _ _ _ zL,zQ _ _ _ _ (by omega),if_pos rfl,Int.mul_add,Int.mul_left_comm P,hd];have e2:bp (k+1) *(l.getD (k+1) 0%P)=bp k *(l.getD (k+1) 0%P*4294967296):=by simp only [bp];rw [Int.mul_comm 4294967296 (bp k),Int.mul_assoc,Int.mul_comm 4294967296]
 rw [e2,Int.mul_sub,Int.mul_add];omega
theorem DownInv.done(h:DownInv w wr l P l.length zs)(hp:1≤P):lv zs=lv l/P:=by
 obtain⟨h1,h2,h3,h4⟩:=h;rw [zaj zs (by omega),zaj l zL,zbW l l.length zL] at h4;have m0:=Int.emod_nonneg (l.getD 0 0) (show P≠0 by omega);have m1:=Int.emod_lt_of_pos (l.getD 0 0) (show 0<P by omega);have e:lv l=l.getD 0 0%P+P*lv zs:=by rw [Int.zero_emod,Int.mul_zero] at h4;omega
 rw [e,Int.add_mul_ediv_left _ _ (by omega:P≠0),Int.ediv_eq_zero_of_lt m0 m1];omega
def DownPost (w:World)(l:List Int)(P:Int)(e:Ending)(w':World):Prop:=
 ∃ zs,e=.returned (.slice (some ⟨w.heap.size,0,none⟩) l.length l.length)∧zs.length=l.length∧Row w' w.heap.size zs∧lv zs=lv l/P∧Below w.heap.size w w'
theorem zkt (w:World)(v:Value)(l:List Int)(s:Nat)(hl:Lim w v l)(hP:Pow s P Q):
  Calls Tryz.prog 144 #[v,.int .i64 (s:Int)] w fun e w'=>DownPost w l P e w':=by
 have HL:=hide hl;obtain⟨ao,acap,rfl,hacap,halen,hlb,hac⟩:=hl;have hmk:=zbc l.length (by omega);have hs:=hP.small;have hmin:min s 64=s:=by omega
 have hpe:=hP.eq;have HP:=hide hP;have hp1:=hP.pos;have hp2:=hP.top;go_enter Tryz.func144,Tryz.ntmps144;go_wp2;go_loopw [13] (fun i wr=>∃(k:Nat) (zs:List Int),k≤l.length∧i=.int .i64 k∧DownInv w wr l P k zs) (fun i _=>l.length-(intOf i).toNat)
 case atStart=>exact⟨0,_,Nat.zero_le _,rfl,DownInv.start w l P⟩
 case round=>
  obtain⟨k,zs,hk,rfl,hinv⟩:=hrel;by_cases hlt:k<l.length
  ·have hwk:IntKind.i64.wrap ((k:Int)+1)=(k:Int)+1:=by rw [IntKind.wrap_i64];omega
   have hlb':=fun W (h:Below w.heap.size w W)=>zb8 W (.slice ao l.length acap) l (IntKind.i64.wrap ((k:Int)+1)) (HL.out.below h zL) (by omega) (by omega);rw [show(IntKind.i64.wrap ((k:Int)+1)).toNat=k+1 by omega] at hlb';clear hwk;obtain⟨b,off,rfl,hb,hc⟩:=hac (by omega);have hbe:=hinv.2.2.1;have hcl:wr.cell? ⟨b,off+k,none⟩=some (.int .u32 (l.getD k 0)):=(hbe.cell (p:=⟨b,off+k,none⟩) hb).trans (hc k hlt);have hst:=hinv.step hlt HP.out hlb rfl rfl;obtain⟨hcell,hfr⟩:=hinv.2.1.2.2 k (by have:=hinv.1;omega);have hg:=hlb k;have hg1:=hlb (k+1);clear hc hac;generalize zs.getD k 0=o at *;generalize l.getD (k+1) 0=y at *;generalize l.getD k 0=x at *;have hor:=zcQ y x hg1.1 hg1.2 hg.1 hg.2;have hsh:=zdb y x hg1.1 hg1.2 hg.1 hg.2;go_wp2
   go_region_held3 (fun w'=>w'.cell? ⟨b,off+k,none⟩=some (.int .u32 x)) (go_keep) ((go_at_call 146;refine(hlb' _ (by first | exact hbe.drew | exact hbe)).mono ?_;rintro e w' ⟨rfl,rfl⟩))
   go_wp2;go_roundw
   case rel=>exact⟨k+1,_,by omega,by go_num,hst.drewN _⟩
   case measure=>simp [intOf];omega
  ·obtain rfl:k=l.length:=by omega
   have hl:=hinv.1;have HV:=hide (hinv.done hp1);go_wp2;go_ret;exact⟨zs,rfl,hl,hinv.2.1,HV.out,hinv.2.2.1⟩
theorem Row.far{h:Nat}(hr:Row w h b)(hg:w.grownBy w' (some g))(hne:h≠g):Row w' h b:=by
 obtain⟨h1,h2,h3⟩:=hr;refine⟨zT h1 hg.size,h2,fun j hj=>?_⟩;obtain⟨c1,c2⟩:=h3 j hj;exact⟨(hg.cell_far ⟨h,j,none⟩ h1 (by simp [hne])).trans c1,(hg.frozen_far ⟨h,j,none⟩ h1 (by simp [hne])).trans c2⟩
def seg (zs:List Int)(off k:Nat):Int:=lv ((zs.drop off).take k)
theorem zax (zs:List Int)(off k:Nat):seg zs off (k+1)=seg zs off k+bp k*zs.getD (off+k) 0:=by
 unfold seg;rw [zD,zdF]
theorem zd6(h:LB zs)(off k:Nat):0≤seg zs off k:=zbx (zbi h off) k
theorem zcg(h:LB zs)(off k:Nat):seg zs off k<bp k:=zcM (zbi h off) k
theorem zd7 (zs:List Int)(off k:Nat)(z:Int):seg (zs.set (off+k) z) off k=seg zs off k:=by
 unfold seg;rw [List.drop_set,if_neg (by omega),Nat.add_sub_cancel_left,zaz _ _ _ _ zL]
structure Only (zs ys:List Int)(off k:Nat):Prop where
 len:ys.length=zs.length
 low:ys.take off=zs.take off
 high:ys.drop (off+k)=zs.drop (off+k)
theorem Only.refl (zs:List Int)(off k:Nat):Only zs zs off k:=⟨rfl,rfl,rfl⟩
theorem Only.step(h:Only zs ys off k)(z:Int):Only zs (ys.set (off+k) z) off (k+1) where
 len:=by rw [List.length_set];exact h.len
 low:=by rw [zaz _ _ _ _ (by omega)];exact h.low
 high:=by
  rw [zcx _ _ _ _ (by omega)];have:=congrArg (List.drop 1) h.high
  rwa [List.drop_drop,List.drop_drop] at this
theorem Only.at(h:Only zs ys off k)(i:Nat)(hi:off+k≤i):ys.getD i 0=zs.getD i 0:=by
 have e:=congrArg (fun l=>l.getD (i-(off+k)) 0) h.high;simp only [zdF] at e
 rwa [show off+k+(i-(off+k))=i by omega] at e
theorem Only.trans(h:Only zs ys off k)(g:Only ys xs off k):Only zs xs off k:=⟨g.len.trans h.len,g.low.trans h.low,g.high.trans h.high⟩
structure Part (w w':World)(g:Nat)(zs ys:List Int)(off k:Nat):Prop where
 row:Row w' g ys
 grown:w.grownBy w' (some g)
 only:Only zs ys off k
theorem Part.refl(h:Row w g zs)(off k:Nat):Part w w g zs zs off k:=⟨h,World.grownBy.refl _ _,Only.refl _ _ _⟩
theorem Part.step(h:Part w wr g zs ys off k)(hk:off+k<zs.length)(hz:0≤z∧z<4294967296):
  Part w (wr.setCell ⟨g,off+k,none⟩ (.int .u32 z)) g zs (ys.set (off+k) z) off (k+1):=
 ⟨h.row.store (by rw [h.only.len];exact hk) hz,zcI h.grown _ _,h.only.step z⟩
theorem Part.trans{w1 w2:World}(h:Part w w1 g zs ys off k)(q:Part w1 w2 g ys xs off k):Part w w2 g zs xs off k:=⟨q.row,h.grown.trans q.grown,h.only.trans q.only⟩
theorem Part.drewN(h:Part w wr g zs ys off k)(n:Nat):Part w (wr.drewN n) g zs ys off k:=⟨h.row.drewN n,zdI h.grown n,h.only⟩
theorem zkO{s:Int}(h:seg ys off k+T*lv (b.take k)=seg zs off k+bp k*cy)(hl:off+k<ys.length)
  (hX:X=cy+T*b.getD k 0) (hz:z=zs.getD (off+k) 0-X%4294967296+4294967296*s):
  seg (ys.set (off+k) z) off (k+1)+T*lv (b.take (k+1))=seg zs off (k+1)+bp (k+1) *(X/4294967296+s):=by
 rw [zax,zax,zd7,zD,zQ _ _ _ _ hl,if_pos rfl];have e1:bp (k+1) *(X/4294967296+s)=bp k *(4294967296 *(X/4294967296)+4294967296*s):=by simp only [bp];rw [Int.mul_comm 4294967296 (bp k),Int.mul_assoc,Int.mul_add]
 have e2:bp k*z=bp k *(zs.getD (off+k) 0)+bp k *(4294967296*s)-bp k *(X%4294967296):=by rw [hz,← Int.mul_add,← Int.mul_sub];congr 1;omega
 have e3:bp k*X=bp k*cy+T *(bp k*b.getD k 0):=by rw [hX,Int.mul_add,Int.mul_left_comm]
 have e4:bp k *(X%4294967296+4294967296 *(X/4294967296))=bp k*X:=by rw [Int.emod_add_mul_ediv]
 rw [Int.mul_add] at e4;rw [e1,Int.mul_add,Int.mul_add];omega
theorem zkM{s:Int}(h:seg ys off b.length+T*lv (b.take b.length)=seg zs off b.length+bp b.length*cy)(hl:off+b.length<ys.length)
  (hz:z=zs.getD (off+b.length) 0-cy+4294967296*s):
  seg (ys.set (off+b.length) z) off (b.length+1)+T*lv b=seg zs off (b.length+1)+bp (b.length+1)*s:=by
 rw [List.take_length] at h;rw [zax,zax,zd7,zQ _ _ _ _ hl,if_pos rfl];have e1:bp (b.length+1)*s=bp b.length *(4294967296*s):=by simp only [bp];rw [Int.mul_comm 4294967296 (bp b.length),Int.mul_assoc]
 have e2:bp b.length*z=bp b.length *(zs.getD (off+b.length) 0)+bp b.length *(4294967296*s)-bp b.length*cy:=by rw [hz,← Int.mul_add,← Int.mul_sub];congr 1;omega
 rw [e1];omega
def TakePost (w:World)(g:Nat)(zs:List Int)(off:Nat)(b:List Int)(T:Int)(e:Ending)(w':World):Prop:=
 ∃(s:Bool) (ys:List Int),e=.returned (.bool s)∧Part w w' g zs ys off (b.length+1) ∧
  seg ys off (b.length+1)+T*lv b=seg zs off (b.length+1)+(if s=true then bp (b.length+1) else 0)
theorem zkL (w:World)(g h cap bcap off:Nat)(zs b:List Int)(T:Int)(hr:Row w g zs)(hb:Row w h b)(hne:h≠g)(hoff:off+b.length+1≤zs.length)(hl:zs.length≤1000000)(hT:0≤T∧T<4294967296):
  Calls Tryz.prog 158 #[.slice (some ⟨g,off,none⟩) (b.length+1) cap,.slice (some ⟨h,0,none⟩) b.length bcap,.int .u64 T] w fun e w'=>TakePost w g zs off b T e w':=by
 have HB:=hide hb;have HR:=hide hr;have hlb:=hr.2.1;have hblb:=hb.2.1;clear hr hb;go_enter Tryz.func158,Tryz.ntmps158;go_wp2;go_loopw [7,13] (fun c i wr=>∃(k:Nat) (cy:Int) (ys:List Int),k≤b.length∧i=.int .i64 k∧c=.int .u64 cy∧0≤cy∧cy<4294967296∧Part w wr g zs ys off k∧Hid (seg ys off k+T*lv (b.take k)=seg zs off k+bp k*cy)) (fun _ i _=>b.length-(intOf i).toNat)
 case atStart=>exact⟨0,0,zs,Nat.zero_le _,rfl,rfl,by decide,by decide,Part.refl HR.out off 0,by show _=_;simp [seg,lv]⟩
 case round=>
  obtain⟨k,cy,ys,hk,rfl,rfl,hc0,hc1,hp,HV⟩:=hrel;by_cases hlt:k<b.length
  ·have hyl:off+k<ys.length:=by rw [hp.only.len];omega
   obtain⟨hcell,hfr⟩:=hp.row.2.2 (off+k) hyl;rw [hp.only.at (off+k) zL] at hcell;obtain⟨hcb,-⟩:=(HB.out.far hp.grown hne).2.2 k hlt;have hz:=hlb (off+k);have hy:=hblb k;have hpr:=zdU hT hy;have hst:=fun z hz=>hp.step (z:=z) (show off+k<zs.length by omega) hz;have hv:=fun X s z hX hz=>zkO (X:=X) (s:=s) (z:=z) (T:=T) HV.out hyl hX hz;generalize zs.getD (off+k) 0=a at *;generalize b.getD k 0=y at *;generalize hXe:cy+T*y=X at *;have hX0:0≤X:=by omega
   have hX1:X≤18446744069414584320:=by omega
   by_cases hs:a<X%4294967296
   ·have HS:=hide (hst ((a-X)%4294967296) (by omega));have HV':=hide (hv X 1 ((a-X)%4294967296) rfl (by omega));clear hst hv;go_wp2;go_roundw
    case rel=>exact⟨k+1,X/4294967296+1,_,by omega,by go_num,rfl,by omega,by omega,HS.out,HV'.out⟩
    case measure=>simp [intOf];omega
   ·have HS:=hide (hst (a-X%4294967296) (by omega));have HV':=hide (hv X 0 (a-X%4294967296) rfl (by omega));rw [Int.add_zero] at HV';clear hst hv;go_wp2;go_roundw
    case rel=>exact⟨k+1,X/4294967296,_,by omega,by go_num,rfl,by omega,by omega,HS.out,HV'.out⟩
    case measure=>simp [intOf];omega
  ·obtain rfl:k=b.length:=by omega
   have hyl:off+b.length<ys.length:=by rw [hp.only.len];omega
   obtain⟨hcell,hfr⟩:=hp.row.2.2 (off+b.length) hyl;rw [hp.only.at (off+b.length) zL] at hcell;have hz:=hlb (off+b.length);have hst:=fun z hz=>hp.step (z:=z) (show off+b.length<zs.length by omega) hz;have hv:=fun s z hz=>zkM (s:=s) (z:=z) (T:=T) HV.out hyl hz;generalize zs.getD (off+b.length) 0=a at *;by_cases hs:a<cy
   ·have HS:=hide (hst ((a-cy)%4294967296) (by omega));have HV':=hide (hv 1 ((a-cy)%4294967296) (by omega));rw [Int.mul_one] at HV';clear hst hv;have hd:decide (a<cy)=true:=decide_eq_true hs;go_wp2;go_ret;exact⟨true,_,rfl,HS.out,by rw [if_pos rfl];exact HV'.out⟩
   ·have HS:=hide (hst (a-cy) (by omega));have HV':=hide (hv 0 (a-cy) (by omega));rw [Int.mul_zero] at HV';clear hst hv;have hd:decide (a<cy)=false:=decide_eq_false hs;go_wp2;go_ret;exact⟨false,_,rfl,HS.out,HV'.out⟩
theorem zig(h:seg ys off k+bp k*cy=seg zs off k+lv (b.take k))(hl:off+k<ys.length)
  (hX:X=zs.getD (off+k) 0+b.getD k 0+cy):
  seg (ys.set (off+k) (X%4294967296)) off (k+1)+bp (k+1) *(X/4294967296)=seg zs off (k+1)+lv (b.take (k+1)):=by
 rw [zax,zax,zd7,zD,zQ _ _ _ _ hl,if_pos rfl];have e1:bp (k+1) *(X/4294967296)=bp k *(4294967296 *(X/4294967296)):=by simp only [bp];rw [Int.mul_comm 4294967296 (bp k),Int.mul_assoc]
 have e3:bp k*X=bp k*zs.getD (off+k) 0+bp k*b.getD k 0+bp k*cy:=by rw [hX,Int.mul_add,Int.mul_add]
 have e4:bp k *(X%4294967296+4294967296 *(X/4294967296))=bp k*X:=by rw [Int.emod_add_mul_ediv]
 rw [Int.mul_add] at e4;rw [e1];omega
def GivePost (w:World)(g:Nat)(zs:List Int)(off:Nat)(b:List Int)(e:Ending)(w':World):Prop:=
 ∃(c:Int) (ys:List Int),e=.returned (.tuple #[])∧0≤c∧c≤1∧Part w w' g zs ys off (b.length+1) ∧
  seg ys off (b.length+1)+bp (b.length+1)*c=seg zs off (b.length+1)+lv b
theorem zif (w:World)(g h cap bcap off:Nat)(zs b:List Int)(hr:Row w g zs)(hb:Row w h b)(hbc:b.length≤bcap)(hne:h≠g)(hoff:off+b.length+1≤zs.length)(hl:zs.length≤1000000):
  Calls Tryz.prog 159 #[.slice (some ⟨g,off,none⟩) (b.length+1) cap,.slice (some ⟨h,0,none⟩) b.length bcap] w fun e w'=>GivePost w g zs off b e w':=by
 have HB:=hide hb;have HR:=hide hr;have hlb:=hr.2.1;have hblb:=hb.2.1;clear hr hb;go_enter Tryz.func159,Tryz.ntmps159;go_wp2;go_loopw [4,8] (fun c i wr=>∃(k:Nat) (cy:Int) (ys:List Int),k≤b.length+1∧i=.int .i64 k∧c=.int .u32 cy∧0≤cy∧cy≤1∧Part w wr g zs ys off k∧Hid (seg ys off k+bp k*cy=seg zs off k+lv (b.take k))) (fun _ i _=>b.length+1-(intOf i).toNat)
 case atStart=>exact⟨0,0,zs,Nat.zero_le _,rfl,rfl,by decide,by decide,Part.refl HR.out off 0,by show _=_;simp [seg,lv]⟩
 case round=>
  obtain⟨k,cy,ys,hk,rfl,rfl,hc0,hc1,hp,HV⟩:=hrel;by_cases hlt:k<b.length+1
  ·have hyl:off+k<ys.length:=by rw [hp.only.len];omega
   obtain⟨hcell,hfr⟩:=hp.row.2.2 (off+k) hyl;rw [hp.only.at (off+k) zL] at hcell;have hlim:=(HB.out.far hp.grown hne).lim bcap hbc (by omega);have hlb':=fun W (hW:Lim W (.slice (some ⟨h,0,none⟩) b.length bcap) b)=>zb8 W (.slice (some ⟨h,0,none⟩) b.length bcap) b k hW (by omega) (by omega);rw [Int.toNat_natCast] at hlb';have hz:=hlb (off+k);have hy:=hblb k;have hst:=fun z hz=>hp.step (z:=z) (show off+k<zs.length by omega) hz;have hv:=fun X hX=>zig (X:=X) HV.out hyl hX;generalize zs.getD (off+k) 0=a at *;generalize b.getD k 0=y at *;have HS:=hide (hst ((a+y+cy)%4294967296) (by omega));have HV':=hide (hv (a+y+cy) rfl);clear hst hv;go_wp2;have hq0:0≤(a+y+cy)/4294967296:=by omega
   have hq1:(a+y+cy)/4294967296≤1:=by omega
   go_region_with (first |(go_at_call 146;refine(hlb' _ (by exact hlim)).mono ?_;rintro e w' ⟨rfl,rfl⟩) |(go_at_call 145;refine(add32 a y cy _ hz hy ⟨hc0,hc1⟩).mono ?_;rintro e w' ⟨rfl,rfl⟩))
   all_goals
    go_wp2;go_roundw
    case rel=>exact⟨k+1,_,_,by omega,by go_num,rfl,hq0,hq1,HS.out.drewN _,HV'.out⟩
    case measure=>simp [intOf];omega
  ·obtain rfl:k=b.length+1:=by omega
   rw [zaj b (by omega)] at HV;go_wp2
   go_end0
   exact⟨cy,ys,rfl,hc0,hc1,hp,HV.out⟩
end Go.Proofs.YtdedolkgcdlmeaaGreatDoor
