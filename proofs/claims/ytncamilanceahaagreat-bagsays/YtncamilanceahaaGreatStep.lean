import Derived.Test.YtncamilanceahaaGreatDivOne
import Derived.Deep.AppendLies
import Derived.Deep.RegionWith
set_option maxRecDepth 100000
set_option maxHeartbeats 800000
namespace Go.Proofs.YtncamilanceahaaGreat
open Go.RowKit Limbs
variable{zs ys b l xs:List Int}{k off g s:Nat}{P A V p la lb a0 a1 a2 hi nx Q G z cy R x T X:Int}{w wr:World}
structure Pow (s:Nat)(P Q:Int):Prop where
 eq:(2:Int) ^ s=P
 pos:1≤P
 top:P≤2147483648
 co:P*Q=4294967296
 cpos:2≤Q
 small:s≤31
theorem ziX (s:Nat)(h:s≤31):∃ P Q,Pow s P Q:=by
 refine⟨2 ^ s,2 ^ (32-s),rfl,?_,?_,?_,?_,h⟩
 ·have:0<(2:Int) ^ s:=Int.pow_pos (by decide);omega
 ·have:((2 ^ s:Nat):Int)≤((2 ^ 31:Nat):Int):=Int.ofNat_le.2 (Nat.pow_le_pow_right (by decide) h);have e:((2 ^ s:Nat):Int)=(2:Int) ^ s:=by norm_cast
  rw [e] at this;exact this
 ·rw [← Int.pow_add,show s+(32-s)=32 by omega];decide
 ·have:((2 ^ 1:Nat):Int)≤((2 ^ (32-s):Nat):Int):=Int.ofNat_le.2 (Nat.pow_le_pow_right (by decide) (by omega));have e:((2 ^ (32-s):Nat):Int)=(2:Int) ^ (32-s):=by norm_cast
  rw [e] at this;exact this
theorem ze1(h:Pow s P Q)(o x:Int)(h0:0≤o)(h1:o<P):
  bits BinOp.or IntKind.u32 o (x*P%4294967296)=o+x*P%4294967296∧o+x*P%4294967296<4294967296:=by
 have hc:=h.co;have hp:=h.pos;have hq:=h.cpos;have e:x*P%4294967296=(x%Q)*P:=by
  rw [← hc,Int.mul_comm x P,Int.mul_emod_mul_of_pos x Q (by omega:0<P),Int.mul_comm]
 have m0:=Int.emod_nonneg x (show Q≠0 by omega);have m1:=Int.emod_lt_of_pos x (show 0<Q by omega);have b1:(x%Q+1)*P≤Q*P:=Int.mul_le_mul_of_nonneg_right (by omega) (by omega);rw [Int.mul_comm Q P,hc,Int.add_mul,Int.one_mul] at b1;have b0:0≤(x%Q)*P:=Int.mul_nonneg m0 (by omega);have t:=h.top;rw [e];refine⟨?_,by omega⟩;rw [u32_or _ _ h0 (by omega) b0 (by omega),Nat.or_comm,nat_join s]
 ·omega
 ·have ep:P=((2 ^ s:Nat):Int):=by rw [← h.eq];norm_cast
  obtain⟨k,hk⟩:=Int.eq_ofNat_of_zero_le m0;rw [hk,ep,← Int.natCast_mul,Int.toNat_natCast];exact Nat.mul_mod_left _ _
 ·have ep:P=((2 ^ s:Nat):Int):=by rw [← h.eq];norm_cast
  omega
def UpInv (w wr:World)(l:List Int)(P:Int)(k:Nat)(zs:List Int):Prop:=
 zs.length=l.length+1∧Row wr w.heap.size zs∧Below w.heap.size w wr∧lv (zs.take (k+1))=lv (l.take k)*P∧zs.getD k 0<P
theorem UpInv.start (w:World)(l:List Int)(hp:1≤P):UpInv w (w.alloc (.cells (madeCells #[.int .u32 0] (l.length+1)) 112)) l P 0 (List.replicate (l.length+1) 0):=
 ⟨List.length_replicate,Row.made w _,(zB _ _).alloc zL _,by simp [lv],by rw [zcW];omega⟩
theorem UpInv.step(h:UpInv w wr l P k zs)(hk:k<l.length)(hP:Pow s P Q)(hl:LB l){o:Int}(ho:zs.getD k 0=o)(hx:l.getD k 0=x):
  UpInv w ((wr.setCell ⟨w.heap.size,k,none⟩ (.int .u32 (o+x*P%4294967296))).setCell ⟨w.heap.size,k+1,none⟩ (.int .u32 (x*P/4294967296))) l P (k+1) ((zs.set k (o+x*P%4294967296)).set (k+1) (x*P/4294967296)):=by
 obtain⟨h1,h2,h3,h4,h5⟩:=h;subst ho;subst hx;have hx:=hl k;have ho:=h2.2.1 k;have hor:=(ze1 hP _ (l.getD k 0) ho.1 h5).2;have hp:=hP.pos;have ht:=hP.top;have hw0:0≤l.getD k 0*P:=Int.mul_nonneg hx.1 (by omega);have hw1:(l.getD k 0+1)*P≤4294967296*P:=Int.mul_le_mul_of_nonneg_right (by omega) (by omega);rw [Int.add_mul,Int.one_mul] at hw1;have e':(lv (l.take k)+bp k*l.getD k 0)*P=lv (zs.take (k+1))+bp k *(l.getD k 0*P):=by rw [Int.add_mul,h4,Int.mul_assoc]
 generalize l.getD k 0*P=W at *;have e:=zw l k;refine⟨by rw [List.length_set,List.length_set];exact h1,?_,(h3.setCell zL _).setCell zL _,?_,?_⟩
 ·have hr:=h2.store (show k<zs.length by omega) (z:=zs.getD k 0+W%4294967296) (by omega);exact hr.store (by rw [List.length_set];omega) (by omega)
 ·have e1:=zw zs k;have e2:bp (k+1) *(W/4294967296)=bp k *(4294967296 *(W/4294967296)):=by simp only [bp];rw [Int.mul_comm 4294967296 (bp k),Int.mul_assoc]
  have e3:bp k *(W%4294967296+4294967296 *(W/4294967296))=bp k*W:=by rw [Int.emod_add_mul_ediv]
  rw [zw,zau _ _ _ _ zL,zC _ _ _ _ (by rw [List.length_set];omega),if_pos rfl,zw,zau _ _ _ _ zL,zC _ _ _ _ (by omega),if_pos rfl,e,e',e2,Int.mul_add];rw [Int.mul_add] at e3;omega
 ·rw [zC _ _ _ _ (by rw [List.length_set];omega),if_pos rfl];omega
def UpPost (w:World)(l:List Int)(P:Int)(e:Ending)(w':World):Prop:=
 ∃ zs,e=.returned (.slice (some ⟨w.heap.size,0,none⟩) (l.length+1) (l.length+1))∧zs.length=l.length+1∧Row w' w.heap.size zs∧lv zs=lv l*P∧Below w.heap.size w w'
theorem zfu (w:World)(v:Value)(l:List Int)(s:Nat)(hl:Lim w v l)(hP:Pow s P Q)(hla:l.length≤900000):
  Calls Tryz.prog 95 #[v,.int .i64 (s:Int)] w fun e w'=>UpPost w l P e w':=by
 obtain⟨ao,acap,rfl,hacap,halen,hlb,hac⟩:=hl;have hmk:=zaR (l.length+1) (by omega);rw [show((l.length+1:Nat):Int)=(l.length:Int)+1 by omega] at hmk;have hs:=hP.small;have hmin:min s 64=s:=by omega
 have hpe:=hP.eq;have HP:=hide hP;have hp1:=hP.pos;have hp2:=hP.top;go_enter Tryz.func95,Tryz.ntmps95;go_wp2;go_loopw [14] (fun i wr=>∃(k:Nat) (zs:List Int),k≤l.length∧i=.int .i64 k∧UpInv w wr l P k zs) (fun i _=>l.length-(intOf i).toNat)
 case atStart=>exact⟨0,_,Nat.zero_le _,rfl,UpInv.start w l hp1⟩
 case round=>
  obtain⟨k,zs,hk,rfl,hinv⟩:=hrel;by_cases hlt:k<l.length
  ·obtain⟨b,off,rfl,hb,hc⟩:=hac (by omega);have hcl:wr.cell? ⟨b,off+k,none⟩=some (.int .u32 (l.getD k 0)):=(hinv.2.2.1.cell (p:=⟨b,off+k,none⟩) hb).trans (hc k hlt);have hst:=hinv.step hlt HP.out hlb rfl rfl;obtain⟨hcell,hfr⟩:=hinv.2.1.2.2 k (by have:=hinv.1;omega);obtain⟨hcell1,hfr1⟩:=hinv.2.1.2.2 (k+1) (by have:=hinv.1;omega);have hg:=hlb k;have ho:=hinv.2.1.2.1 k;have hor:=ze1 HP.out _ (l.getD k 0) ho.1 hinv.2.2.2.2;clear hc hac;generalize zs.getD k 0=o at *;generalize zs.getD (k+1) 0=o1 at *;generalize l.getD k 0=x at *;have hw0:0≤x*P:=Int.mul_nonneg hg.1 (by omega);have hw1:x*P≤4294967295*2147483648:=Int.mul_le_mul (by omega) hp2 (by omega) (by decide);go_wp2;go_roundw
   case rel=>exact⟨k+1,_,by omega,by go_num,hst⟩
   case measure=>simp [intOf];omega
  ·obtain rfl:k=l.length:=by omega
   have hl:=hinv.1;have HV:=hide (show lv zs=lv l*P by have:=hinv.2.2.2.1;rwa [zah zs (by omega),List.take_length] at this);go_wp2;go_ret;exact⟨zs,rfl,hl,hinv.2.1,HV.out,hinv.2.2.1⟩
theorem zhc(h:Pow s P Q)(x y:Int)(hx:0≤x∧x<4294967296):
  P *((y*4294967296+x)/P%4294967296)=(y%P)*4294967296+x-x%P:=by
 have hc:=h.co;have hp:=h.pos;have hq:=h.cpos;have e1:(y*4294967296+x)/P=y*Q+x/P:=by
  rw [← hc,Int.mul_comm P Q,← Int.mul_assoc,Int.add_comm,Int.add_mul_ediv_right _ _ (by omega:P≠0),Int.add_comm]
 have dy:=Int.mul_ediv_add_emod y P;have dx:=Int.mul_ediv_add_emod x P;have y0:=Int.emod_nonneg y (show P≠0 by omega);have y1:=Int.emod_lt_of_pos y (show 0<P by omega);have x0:=Int.emod_nonneg x (show P≠0 by omega);have x1:=Int.emod_lt_of_pos x (show 0<P by omega);have e2:y*Q=4294967296 *(y/P)+(y%P)*Q:=by
  conv=>lhs;rw [← dy]
  rw [Int.add_mul,Int.mul_right_comm,hc]
 have q0:0≤x/P:=Int.ediv_nonneg hx.1 (by omega);have q1:x/P<Q:=by
  rw [Int.ediv_lt_iff_lt_mul (by omega:0<P),Int.mul_comm,hc];exact hx.2
 have b1:(y%P+1)*Q≤P*Q:=Int.mul_le_mul_of_nonneg_right (by omega) (by omega);rw [Int.add_mul,Int.one_mul,hc] at b1;have b0:0≤(y%P)*Q:=Int.mul_nonneg y0 (by omega);have e3:(y*Q+x/P)%4294967296=(y%P)*Q+x/P:=by rw [e2];omega
 rw [e1,e3,Int.mul_add,Int.mul_left_comm,hc];omega
def DownInv (w wr:World)(l:List Int)(P:Int)(k:Nat)(zs:List Int):Prop:=
 zs.length=l.length∧Row wr w.heap.size zs∧Below w.heap.size w wr∧P*lv (zs.take k)+l.getD 0 0%P=lv (l.take k)+bp k *(l.getD k 0%P)
theorem DownInv.start (w:World)(l:List Int)(P:Int):DownInv w (w.alloc (.cells (madeCells #[.int .u32 0] l.length) 112)) l P 0 (List.replicate l.length 0):=
 ⟨List.length_replicate,Row.made w _,(zB _ _).alloc zL _,by simp [lv,bp]⟩
theorem DownInv.drewN(h:DownInv w wr l P k zs)(n:Nat):DownInv w (wr.drewN n) l P k zs:=
 ⟨h.1,h.2.1,zP h.2.2.1 n,h.2.2.2⟩
theorem DownInv.step(h:DownInv w wr l P k zs)(hk:k<l.length)(hP:Pow s P Q)(hl:LB l){y:Int}(hy:l.getD (k+1) 0=y)(hx:l.getD k 0=x):
  DownInv w (wr.setCell ⟨w.heap.size,k,none⟩ (.int .u32 ((y*4294967296+x)/P%4294967296))) l P (k+1) (zs.set k ((y*4294967296+x)/P%4294967296)):=by
 obtain⟨h1,h2,h3,h4⟩:=h;subst hy;subst hx;have hd:=zhc hP _ (l.getD (k+1) 0) (hl k);refine⟨by rw [List.length_set];exact h1,h2.store (by omega) (by omega),h3.setCell zL _,?_⟩;rw [zw,zw,zau _ _ _ _ zL,zC _ _ _ _ (by omega),if_pos rfl,Int.mul_add,Int.mul_left_comm P,hd];have e2:bp (k+1) *(l.getD (k+1) 0%P)=bp k *(l.getD (k+1) 0%P*4294967296):=by simp only [bp];rw [Int.mul_comm 4294967296 (bp k),Int.mul_assoc,Int.mul_comm 4294967296]
 rw [e2,Int.mul_sub,Int.mul_add];omega
theorem DownInv.done(h:DownInv w wr l P l.length zs)(hp:1≤P):lv zs=lv l/P:=by
 obtain⟨h1,h2,h3,h4⟩:=h;rw [zah zs (by omega),zah l zL,zbF l l.length zL] at h4;have m0:=Int.emod_nonneg (l.getD 0 0) (show P≠0 by omega);have m1:=Int.emod_lt_of_pos (l.getD 0 0) (show 0<P by omega);have e:lv l=l.getD 0 0%P+P*lv zs:=by rw [Int.zero_emod,Int.mul_zero] at h4;omega
 rw [e,Int.add_mul_ediv_left _ _ (by omega:P≠0),Int.ediv_eq_zero_of_lt m0 m1];omega
def DownPost (w:World)(l:List Int)(P:Int)(e:Ending)(w':World):Prop:=
 ∃ zs,e=.returned (.slice (some ⟨w.heap.size,0,none⟩) l.length l.length)∧zs.length=l.length∧Row w' w.heap.size zs∧lv zs=lv l/P∧Below w.heap.size w w'
theorem zjs (w:World)(v:Value)(l:List Int)(s:Nat)(hl:Lim w v l)(hP:Pow s P Q):
  Calls Tryz.prog 97 #[v,.int .i64 (s:Int)] w fun e w'=>DownPost w l P e w':=by
 have HL:=hide hl;obtain⟨ao,acap,rfl,hacap,halen,hlb,hac⟩:=hl;have hmk:=zaR l.length (by omega);have hs:=hP.small;have hmin:min s 64=s:=by omega
 have hpe:=hP.eq;have HP:=hide hP;have hp1:=hP.pos;have hp2:=hP.top;go_enter Tryz.func97,Tryz.ntmps97;go_wp2;go_loopw [13] (fun i wr=>∃(k:Nat) (zs:List Int),k≤l.length∧i=.int .i64 k∧DownInv w wr l P k zs) (fun i _=>l.length-(intOf i).toNat)
 case atStart=>exact⟨0,_,Nat.zero_le _,rfl,DownInv.start w l P⟩
 case round=>
  obtain⟨k,zs,hk,rfl,hinv⟩:=hrel;by_cases hlt:k<l.length
  ·have hwk:IntKind.i64.wrap ((k:Int)+1)=(k:Int)+1:=by rw [IntKind.wrap_i64];omega
   have hlb':=fun W (h:Below w.heap.size w W)=>zbG W (.slice ao l.length acap) l (IntKind.i64.wrap ((k:Int)+1)) (HL.out.below h zL) (by omega) (by omega);rw [show(IntKind.i64.wrap ((k:Int)+1)).toNat=k+1 by omega] at hlb';clear hwk;obtain⟨b,off,rfl,hb,hc⟩:=hac (by omega);have hbe:=hinv.2.2.1;have hcl:wr.cell? ⟨b,off+k,none⟩=some (.int .u32 (l.getD k 0)):=(hbe.cell (p:=⟨b,off+k,none⟩) hb).trans (hc k hlt);have hst:=hinv.step hlt HP.out hlb rfl rfl;obtain⟨hcell,hfr⟩:=hinv.2.1.2.2 k (by have:=hinv.1;omega);have hg:=hlb k;have hg1:=hlb (k+1);clear hc hac;generalize zs.getD k 0=o at *;generalize l.getD (k+1) 0=y at *;generalize l.getD k 0=x at *;have hor:=zcu y x hg1.1 hg1.2 hg.1 hg.2;have hsh:=zcA y x hg1.1 hg1.2 hg.1 hg.2;go_wp2
   go_region_held3 (fun w'=>w'.cell? ⟨b,off+k,none⟩=some (.int .u32 x)) (go_keep) ((go_at_call 99;refine(hlb' _ (by first | exact hbe.drew | exact hbe)).mono ?_;rintro e w' ⟨rfl,rfl⟩))
   go_wp2;go_roundw
   case rel=>exact⟨k+1,_,by omega,by go_num,hst.drewN _⟩
   case measure=>simp [intOf];omega
  ·obtain rfl:k=l.length:=by omega
   have hl:=hinv.1;have HV:=hide (hinv.done hp1);go_wp2;go_ret;exact⟨zs,rfl,hl,hinv.2.1,HV.out,hinv.2.2.1⟩
theorem Row.far{w':World}{h:Nat}(hr:Row w h b)(hg:w.grownBy w' (some g))(hne:h≠g):Row w' h b:=by
 obtain⟨h1,h2,h3⟩:=hr;refine⟨zT h1 hg.size,h2,fun j hj=>?_⟩;obtain⟨c1,c2⟩:=h3 j hj;exact⟨(hg.cell_far ⟨h,j,none⟩ h1 (by simp [hne])).trans c1,(hg.frozen_far ⟨h,j,none⟩ h1 (by simp [hne])).trans c2⟩
def seg (zs:List Int)(off k:Nat):Int:=lv ((zs.drop off).take k)
theorem zat (zs:List Int)(off k:Nat):seg zs off (k+1)=seg zs off k+bp k*zs.getD (off+k) 0:=by
 unfold seg;rw [zw,zeu]
theorem zdu(h:LB zs)(off k:Nat):0≤seg zs off k:=zbd (zaV h off) k
theorem zbQ(h:LB zs)(off k:Nat):seg zs off k<bp k:=zco (zaV h off) k
theorem zdv (zs:List Int)(off k:Nat)(z:Int):seg (zs.set (off+k) z) off k=seg zs off k:=by
 unfold seg;rw [List.drop_set,if_neg (by omega),Nat.add_sub_cancel_left,zau _ _ _ _ zL]
structure Only (zs ys:List Int)(off k:Nat):Prop where
 len:ys.length=zs.length
 low:ys.take off=zs.take off
 high:ys.drop (off+k)=zs.drop (off+k)
theorem Only.refl (zs:List Int)(off k:Nat):Only zs zs off k:=⟨rfl,rfl,rfl⟩
theorem Only.step(h:Only zs ys off k)(z:Int):Only zs (ys.set (off+k) z) off (k+1) where
 len:=by rw [List.length_set];exact h.len
 low:=by rw [zau _ _ _ _ (by omega)];exact h.low
 high:=by
  rw [zce _ _ _ _ (by omega)];have:=congrArg (List.drop 1) h.high
  rwa [List.drop_drop,List.drop_drop] at this
theorem Only.at(h:Only zs ys off k)(i:Nat)(hi:off+k≤i):ys.getD i 0=zs.getD i 0:=by
 have e:=congrArg (fun l=>l.getD (i-(off+k)) 0) h.high;simp only [zeu] at e
 rwa [show off+k+(i-(off+k))=i by omega] at e
theorem Only.trans(h:Only zs ys off k)(g:Only ys xs off k):Only zs xs off k:=⟨g.len.trans h.len,g.low.trans h.low,g.high.trans h.high⟩
structure Part (w w':World)(g:Nat)(zs ys:List Int)(off k:Nat):Prop where
 row:Row w' g ys
 grown:w.grownBy w' (some g)
 only:Only zs ys off k
theorem Part.refl(h:Row w g zs)(off k:Nat):Part w w g zs zs off k:=⟨h,World.grownBy.refl _ _,Only.refl _ _ _⟩
theorem Part.step(h:Part w wr g zs ys off k)(hk:off+k<zs.length)(hz:0≤z∧z<4294967296):
  Part w (wr.setCell ⟨g,off+k,none⟩ (.int .u32 z)) g zs (ys.set (off+k) z) off (k+1):=
 ⟨h.row.store (by rw [h.only.len];exact hk) hz,zck h.grown _ _,h.only.step z⟩
theorem Part.trans{w1 w2:World}(h:Part w w1 g zs ys off k)(q:Part w1 w2 g ys xs off k):Part w w2 g zs xs off k:=⟨q.row,h.grown.trans q.grown,h.only.trans q.only⟩
theorem Part.drewN(h:Part w wr g zs ys off k)(n:Nat):Part w (wr.drewN n) g zs ys off k:=⟨h.row.drewN n,zcX h.grown n,h.only⟩
theorem zjH{s:Int}(h:seg ys off k+T*lv (b.take k)=seg zs off k+bp k*cy)(hl:off+k<ys.length)
  (hX:X=cy+T*b.getD k 0) (hz:z=zs.getD (off+k) 0-X%4294967296+4294967296*s):
  seg (ys.set (off+k) z) off (k+1)+T*lv (b.take (k+1))=seg zs off (k+1)+bp (k+1) *(X/4294967296+s):=by
 rw [zat,zat,zdv,zw,zC _ _ _ _ hl,if_pos rfl];have e1:bp (k+1) *(X/4294967296+s)=bp k *(4294967296 *(X/4294967296)+4294967296*s):=by simp only [bp];rw [Int.mul_comm 4294967296 (bp k),Int.mul_assoc,Int.mul_add]
 have e2:bp k*z=bp k *(zs.getD (off+k) 0)+bp k *(4294967296*s)-bp k *(X%4294967296):=by rw [hz,← Int.mul_add,← Int.mul_sub];congr 1;omega
 have e3:bp k*X=bp k*cy+T *(bp k*b.getD k 0):=by rw [hX,Int.mul_add,Int.mul_left_comm]
 have e4:bp k *(X%4294967296+4294967296 *(X/4294967296))=bp k*X:=by rw [Int.emod_add_mul_ediv]
 rw [Int.mul_add] at e4;rw [e1,Int.mul_add,Int.mul_add];omega
theorem zjF{s:Int}(h:seg ys off b.length+T*lv (b.take b.length)=seg zs off b.length+bp b.length*cy)(hl:off+b.length<ys.length)
  (hz:z=zs.getD (off+b.length) 0-cy+4294967296*s):
  seg (ys.set (off+b.length) z) off (b.length+1)+T*lv b=seg zs off (b.length+1)+bp (b.length+1)*s:=by
 rw [List.take_length] at h;rw [zat,zat,zdv,zC _ _ _ _ hl,if_pos rfl];have e1:bp (b.length+1)*s=bp b.length *(4294967296*s):=by simp only [bp];rw [Int.mul_comm 4294967296 (bp b.length),Int.mul_assoc]
 have e2:bp b.length*z=bp b.length *(zs.getD (off+b.length) 0)+bp b.length *(4294967296*s)-bp b.length*cy:=by rw [hz,← Int.mul_add,← Int.mul_sub];congr 1;omega
 rw [e1];omega
def TakePost (w:World)(g:Nat)(zs:List Int)(off:Nat)(b:List Int)(T:Int)(e:Ending)(w':World):Prop:=
 ∃(s:Bool) (ys:List Int),e=.returned (.bool s)∧Part w w' g zs ys off (b.length+1) ∧
  seg ys off (b.length+1)+T*lv b=seg zs off (b.length+1)+(if s=true then bp (b.length+1) else 0)
theorem zjD (w:World)(g h cap bcap off:Nat)(zs b:List Int)(T:Int)(hr:Row w g zs)(hb:Row w h b)(hne:h≠g)(hoff:off+b.length+1≤zs.length)(hl:zs.length≤1000000)(hT:0≤T∧T<4294967296):
  Calls Tryz.prog 107 #[.slice (some ⟨g,off,none⟩) (b.length+1) cap,.slice (some ⟨h,0,none⟩) b.length bcap,.int .u64 T] w fun e w'=>TakePost w g zs off b T e w':=by
 have HB:=hide hb;have HR:=hide hr;have hlb:=hr.2.1;have hblb:=hb.2.1;clear hr hb;go_enter Tryz.func107,Tryz.ntmps107;go_wp2;go_loopw [7,13] (fun c i wr=>∃(k:Nat) (cy:Int) (ys:List Int),k≤b.length∧i=.int .i64 k∧c=.int .u64 cy∧0≤cy∧cy<4294967296∧Part w wr g zs ys off k∧Hid (seg ys off k+T*lv (b.take k)=seg zs off k+bp k*cy)) (fun _ i _=>b.length-(intOf i).toNat)
 case atStart=>exact⟨0,0,zs,Nat.zero_le _,rfl,rfl,by decide,by decide,Part.refl HR.out off 0,by show _=_;simp [seg,lv]⟩
 case round=>
  obtain⟨k,cy,ys,hk,rfl,rfl,hc0,hc1,hp,HV⟩:=hrel;by_cases hlt:k<b.length
  ·have hyl:off+k<ys.length:=by rw [hp.only.len];omega
   obtain⟨hcell,hfr⟩:=hp.row.2.2 (off+k) hyl;rw [hp.only.at (off+k) zL] at hcell;obtain⟨hcb,-⟩:=(HB.out.far hp.grown hne).2.2 k hlt;have hz:=hlb (off+k);have hy:=hblb k;have hpr:=zdd hT hy;have hst:=fun z hz=>hp.step (z:=z) (show off+k<zs.length by omega) hz;have hv:=fun X s z hX hz=>zjH (X:=X) (s:=s) (z:=z) (T:=T) HV.out hyl hX hz;generalize zs.getD (off+k) 0=a at *;generalize b.getD k 0=y at *;generalize hXe:cy+T*y=X at *;have hX0:0≤X:=by omega
   have hX1:X≤18446744069414584320:=by omega
   by_cases hs:a<X%4294967296
   ·have HS:=hide (hst ((a-X)%4294967296) (by omega));have HV':=hide (hv X 1 ((a-X)%4294967296) rfl (by omega));clear hst hv;go_wp2;go_roundw
    case rel=>exact⟨k+1,X/4294967296+1,_,by omega,by go_num,rfl,by omega,by omega,HS.out,HV'.out⟩
    case measure=>simp [intOf];omega
   ·have HS:=hide (hst (a-X%4294967296) (by omega));have HV':=hide (hv X 0 (a-X%4294967296) rfl (by omega));rw [Int.add_zero] at HV';clear hst hv;go_wp2;go_roundw
    case rel=>exact⟨k+1,X/4294967296,_,by omega,by go_num,rfl,by omega,by omega,HS.out,HV'.out⟩
    case measure=>simp [intOf];omega
  ·obtain rfl:k=b.length:=by omega
   have hyl:off+b.length<ys.length:=by rw [hp.only.len];omega
   obtain⟨hcell,hfr⟩:=hp.row.2.2 (off+b.length) hyl;rw [hp.only.at (off+b.length) zL] at hcell;have hz:=hlb (off+b.length);have hst:=fun z hz=>hp.step (z:=z) (show off+b.length<zs.length by omega) hz;have hv:=fun s z hz=>zjF (s:=s) (z:=z) (T:=T) HV.out hyl hz;generalize zs.getD (off+b.length) 0=a at *;by_cases hs:a<cy
   ·have HS:=hide (hst ((a-cy)%4294967296) (by omega));have HV':=hide (hv 1 ((a-cy)%4294967296) (by omega));rw [Int.mul_one] at HV';clear hst hv;have hd:decide (a<cy)=true:=decide_eq_true hs;go_wp2;go_ret;exact⟨true,_,rfl,HS.out,by rw [if_pos rfl];exact HV'.out⟩
   ·have HS:=hide (hst (a-cy) (by omega));have HV':=hide (hv 0 (a-cy) (by omega));rw [Int.mul_zero] at HV';clear hst hv;have hd:decide (a<cy)=false:=decide_eq_false hs;go_wp2;go_ret;exact⟨false,_,rfl,HS.out,HV'.out⟩
theorem zhL(h:seg ys off k+bp k*cy=seg zs off k+lv (b.take k))(hl:off+k<ys.length)
  (hX:X=zs.getD (off+k) 0+b.getD k 0+cy):
  seg (ys.set (off+k) (X%4294967296)) off (k+1)+bp (k+1) *(X/4294967296)=seg zs off (k+1)+lv (b.take (k+1)):=by
 rw [zat,zat,zdv,zw,zC _ _ _ _ hl,if_pos rfl];have e1:bp (k+1) *(X/4294967296)=bp k *(4294967296 *(X/4294967296)):=by simp only [bp];rw [Int.mul_comm 4294967296 (bp k),Int.mul_assoc]
 have e3:bp k*X=bp k*zs.getD (off+k) 0+bp k*b.getD k 0+bp k*cy:=by rw [hX,Int.mul_add,Int.mul_add]
 have e4:bp k *(X%4294967296+4294967296 *(X/4294967296))=bp k*X:=by rw [Int.emod_add_mul_ediv]
 rw [Int.mul_add] at e4;rw [e1];omega
def GivePost (w:World)(g:Nat)(zs:List Int)(off:Nat)(b:List Int)(e:Ending)(w':World):Prop:=
 ∃(c:Int) (ys:List Int),e=.returned (.tuple #[])∧0≤c∧c≤1∧Part w w' g zs ys off (b.length+1) ∧
  seg ys off (b.length+1)+bp (b.length+1)*c=seg zs off (b.length+1)+lv b
theorem zhK (w:World)(g h cap bcap off:Nat)(zs b:List Int)(hr:Row w g zs)(hb:Row w h b)(hbc:b.length≤bcap)(hne:h≠g)(hoff:off+b.length+1≤zs.length)(hl:zs.length≤1000000):
  Calls Tryz.prog 108 #[.slice (some ⟨g,off,none⟩) (b.length+1) cap,.slice (some ⟨h,0,none⟩) b.length bcap] w fun e w'=>GivePost w g zs off b e w':=by
 have HB:=hide hb;have HR:=hide hr;have hlb:=hr.2.1;have hblb:=hb.2.1;clear hr hb;go_enter Tryz.func108,Tryz.ntmps108;go_wp2;go_loopw [4,8] (fun c i wr=>∃(k:Nat) (cy:Int) (ys:List Int),k≤b.length+1∧i=.int .i64 k∧c=.int .u32 cy∧0≤cy∧cy≤1∧Part w wr g zs ys off k∧Hid (seg ys off k+bp k*cy=seg zs off k+lv (b.take k))) (fun _ i _=>b.length+1-(intOf i).toNat)
 case atStart=>exact⟨0,0,zs,Nat.zero_le _,rfl,rfl,by decide,by decide,Part.refl HR.out off 0,by show _=_;simp [seg,lv]⟩
 case round=>
  obtain⟨k,cy,ys,hk,rfl,rfl,hc0,hc1,hp,HV⟩:=hrel;by_cases hlt:k<b.length+1
  ·have hyl:off+k<ys.length:=by rw [hp.only.len];omega
   obtain⟨hcell,hfr⟩:=hp.row.2.2 (off+k) hyl;rw [hp.only.at (off+k) zL] at hcell;have hlim:=(HB.out.far hp.grown hne).lim bcap hbc (by omega);have hlb':=fun W (hW:Lim W (.slice (some ⟨h,0,none⟩) b.length bcap) b)=>zbG W (.slice (some ⟨h,0,none⟩) b.length bcap) b k hW (by omega) (by omega);rw [Int.toNat_natCast] at hlb';have hz:=hlb (off+k);have hy:=hblb k;have hst:=fun z hz=>hp.step (z:=z) (show off+k<zs.length by omega) hz;have hv:=fun X hX=>zhL (X:=X) HV.out hyl hX;generalize zs.getD (off+k) 0=a at *;generalize b.getD k 0=y at *;have HS:=hide (hst ((a+y+cy)%4294967296) (by omega));have HV':=hide (hv (a+y+cy) rfl);clear hst hv;go_wp2;have hq0:0≤(a+y+cy)/4294967296:=by omega
   have hq1:(a+y+cy)/4294967296≤1:=by omega
   go_region_with (first |(go_at_call 99;refine(hlb' _ (by exact hlim)).mono ?_;rintro e w' ⟨rfl,rfl⟩) |(go_at_call 98;refine(add32 a y cy _ hz hy ⟨hc0,hc1⟩).mono ?_;rintro e w' ⟨rfl,rfl⟩))
   all_goals
    go_wp2;go_roundw
    case rel=>exact⟨k+1,_,_,by omega,by go_num,rfl,hq0,hq1,HS.out.drewN _,HV'.out⟩
    case measure=>simp [intOf];omega
  ·obtain rfl:k=b.length+1:=by omega
   rw [zah b (by omega)] at HV;go_wp2
   go_end0
   exact⟨cy,ys,rfl,hc0,hc1,hp,HV.out⟩
structure Tops (A V p la lb a0 a1 a2 hi nx:Int):Prop where
 ea:A=la+p *(a2+4294967296 *(a0*4294967296+a1))
 ev:V=lb+p *(nx+4294967296*hi)
 p0:0<p
 la0:0≤la
 la1:la<p
 lb0:0≤lb
 lb1:lb<p
 ra0:0≤a0∧a0<4294967296
 ra1:0≤a1∧a1<4294967296
 ra2:0≤a2∧a2<4294967296
 rhi:1≤hi∧hi<4294967296
 rnx:0≤nx∧nx<4294967296
theorem Tops.vpos(h:Tops A V p la lb a0 a1 a2 hi nx):4294967296*p≤V:=by
 obtain⟨ea,ev,p0,la0,la1,lb0,lb1,ra0,ra1,ra2,rhi,rnx⟩:=h;have:p*4294967296≤p *(nx+4294967296*hi):=Int.mul_le_mul_of_nonneg_left (by omega) (by omega);omega
theorem Tops.first(h:Tops A V p la lb a0 a1 a2 hi nx)(hlt:A<V*4294967296):a0≤hi:=by
 obtain⟨ea,ev,p0,la0,la1,lb0,lb1,ra0,ra1,ra2,rhi,rnx⟩:=h;have h1:p *(a2+4294967296 *(a0*4294967296+a1))<p *((nx+4294967296*hi+1)*4294967296):=by
  have e:p *((nx+4294967296*hi+1)*4294967296)=(p *(nx+4294967296*hi)+p)*4294967296:=by rw [← Int.mul_assoc,Int.mul_add p _ 1,Int.mul_one]
  rw [e];generalize p *(nx+4294967296*hi)=X at *;generalize p *(a2+4294967296 *(a0*4294967296+a1))=Y at *;omega
 have h2:=Int.lt_of_mul_lt_mul_left h1 (by omega);omega
theorem Tops.above(h:Tops A V p la lb a0 a1 a2 hi nx)(hG:0≤G)(hle:a2+4294967296 *(a0*4294967296+a1)+1≤G *(nx+4294967296*hi)):A<G*V:=by
 obtain⟨ea,ev,p0,la0,la1,lb0,lb1,ra0,ra1,ra2,rhi,rnx⟩:=h;have h1:p *(a2+4294967296 *(a0*4294967296+a1)+1)≤p *(G *(nx+4294967296*hi)):=Int.mul_le_mul_of_nonneg_left hle (by omega);have h2:0≤G*lb:=Int.mul_nonneg hG lb0;have e:G*V=G*lb+p *(G *(nx+4294967296*hi)):=by rw [ev,Int.mul_add,Int.mul_left_comm]
 rw [Int.mul_add,Int.mul_one] at h1;omega
theorem Tops.start(h:Tops A V p la lb a0 a1 a2 hi nx):A<((a0*4294967296+a1)/hi+1)*V:=by
 have h':=h;obtain⟨ea,ev,p0,la0,la1,lb0,lb1,ra0,ra1,ra2,rhi,rnx⟩:=h';have q0:0≤(a0*4294967296+a1)/hi:=Int.ediv_nonneg (by omega) (by omega);have d:=Int.mul_ediv_add_emod (a0*4294967296+a1) hi;have m1:=Int.emod_lt_of_pos (a0*4294967296+a1) (show 0<hi by omega);refine h.above (by omega) ?_;generalize (a0*4294967296+a1)/hi=q at *;have e:(q+1) *(nx+4294967296*hi)=(q+1)*nx+4294967296 *(hi*q+hi):=by rw [Int.mul_add,Int.mul_left_comm (q+1),Int.mul_comm (q+1) hi,Int.mul_add hi,Int.mul_one]
 have n0:0≤(q+1)*nx:=Int.mul_nonneg (by omega) rnx.1;rw [e];generalize hi*q=z at *;omega
theorem Tops.less(h:Tops A V p la lb a0 a1 a2 hi nx)(hG:0≤G)(hR:G*hi+R=a0*4294967296+a1)(hgt:R*4294967296+a2<G*nx):A<G*V:=by
 refine h.above hG ?_;have e:G *(nx+4294967296*hi)=G*nx+4294967296 *(G*hi):=by rw [Int.mul_add,Int.mul_left_comm]
 rw [e,← hR];omega
theorem Tops.stop(h:Tops A V p la lb a0 a1 a2 hi nx)(hG:0≤G∧G<4294967296)(hR:G*hi+R=a0*4294967296+a1)(hle:G*nx≤R*4294967296+a2):G*V<A+V:=by
 have hv:=h.vpos;obtain⟨ea,ev,p0,la0,la1,lb0,lb1,ra0,ra1,ra2,rhi,rnx⟩:=h;have e:G *(nx+4294967296*hi)=G*nx+4294967296 *(G*hi):=by rw [Int.mul_add,Int.mul_left_comm]
 have h1:p *(G *(nx+4294967296*hi))≤p *(a2+4294967296 *(a0*4294967296+a1)):=Int.mul_le_mul_of_nonneg_left (by rw [e,← hR];omega) (by omega);have e2:G*V=G*lb+p *(G *(nx+4294967296*hi)):=by rw [ev,Int.mul_add,Int.mul_left_comm]
 have h2:G*lb≤4294967295*lb:=Int.mul_le_mul_of_nonneg_right (by omega) lb0;omega
theorem Tops.stop_far(h:Tops A V p la lb a0 a1 a2 hi nx)(hlt:A<V*4294967296)(hG:0≤G)(hR:G*hi+R=a0*4294967296+a1)(hfar:4294967296≤R):G<4294967296∧G*nx≤R*4294967296+a2:=by
 have hf:=h.first hlt;obtain⟨ea,ev,p0,la0,la1,lb0,lb1,ra0,ra1,ra2,rhi,rnx⟩:=h;have hg:G<4294967296:=by
  rcases Int.lt_or_le G 4294967296 with h | h
  ·exact h
  ·have:4294967296*hi≤G*hi:=Int.mul_le_mul_of_nonneg_right h (by omega);omega
 have h1:G*nx≤4294967295*4294967295:=Int.mul_le_mul (by omega) (by omega) rnx.1 (by decide);exact⟨hg,by omega⟩
theorem zjQ{m:Nat}(hz:LB zs)(hb:LB b)(hm:b.length=m+2)(ht:b.getD (m+1) 0≠0):
  Tops (seg zs off (b.length+1)) (lv b) (bp m) (seg zs off m) (lv (b.take m)) (zs.getD (off+(m+2)) 0) (zs.getD (off+(m+1)) 0) (zs.getD (off+m) 0) (b.getD (m+1) 0) (b.getD m 0) where
 ea:=by
  rw [hm,zat,zat,zat];simp only [bp,Int.mul_add];have e1:4294967296 *(4294967296*bp m)*zs.getD (off+(m+2)) 0=bp m *(4294967296 *(zs.getD (off+(m+2)) 0*4294967296)):=by ac_rfl
  have e2:4294967296*bp m*zs.getD (off+(m+1)) 0=bp m *(4294967296*zs.getD (off+(m+1)) 0):=by ac_rfl
  rw [e1,e2];omega
 ev:=by
  have e:lv b=lv (b.take (m+2)):=by rw [zah b (by omega)]
  rw [e,zw,zw];simp only [bp,Int.mul_add];have e2:4294967296*bp m*b.getD (m+1) 0=bp m *(4294967296*b.getD (m+1) 0):=by ac_rfl
  rw [e2];omega
 p0:=zQ m
 la0:=zdu hz off m
 la1:=zbQ hz off m
 lb0:=zbd hb m
 lb1:=zco hb m
 ra0:=hz _
 ra1:=hz _
 ra2:=hz _
 rhi:=by have:=hb (m+1);omega
 rnx:=hb _
end Go.Proofs.YtncamilanceahaaGreat
