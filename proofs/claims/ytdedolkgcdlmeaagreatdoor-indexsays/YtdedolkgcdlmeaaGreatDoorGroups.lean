import Derived.Test.YtdedolkgcdlmeaaGreatDoorShift
import Derived.Deep.AppendLies
import Derived.Deep.RegionWith
set_option maxRecDepth 100000
set_option maxHeartbeats 1600000
namespace Go.Proofs.YtdedolkgcdlmeaaGreatDoor
open Go.RowKit Limbs
variable {zs ys b xs gs:List Int}{w wr w' w1 w2:World}{off k g m n:Nat}{A V nx p la lb a0 a1 a2 hi G z cy R T X s S:Int}{v:Value}
theorem Row.far{h:Nat}(hr:Row w h b)(hg:w.grownBy w' (some g))(hne:h≠g):Row w' h b:=by
 obtain⟨h1,h2,h3⟩:=hr
 refine⟨zT h1 hg.size,h2,fun j hj=>?_⟩
 obtain⟨c1,c2⟩:=h3 j hj
 exact⟨(hg.cell_far ⟨h,j,none⟩ h1 (by simp [hne])).trans c1,(hg.frozen_far ⟨h,j,none⟩ h1 (by simp [hne])).trans c2⟩
def seg (zs:List Int)(off k:Nat):Int:=lv ((zs.drop off).take k)
theorem zaF (zs:List Int)(off k:Nat):seg zs off (k+1)=seg zs off k+bp k*zs.getD (off+k) 0:=by
 unfold seg
 rw [zK,zdp]
theorem zdQ(h:LB zs)(off k:Nat):0≤seg zs off k:=zbx (zbi h off) k
theorem zcd(h:LB zs)(off k:Nat):seg zs off k<bp k:=zcF (zbi h off) k
theorem zdR (zs:List Int)(off k:Nat)(z:Int):seg (zs.set (off+k) z) off k=seg zs off k:=by
 unfold seg
 rw [List.drop_set,if_neg (by omega),Nat.add_sub_cancel_left,zaH _ _ _ _ zL]
structure Only (zs ys:List Int)(off k:Nat):Prop where
 len:ys.length=zs.length
 low:ys.take off=zs.take off
 high:ys.drop (off+k)=zs.drop (off+k)
theorem Only.refl (zs:List Int)(off k:Nat):Only zs zs off k:=⟨rfl,rfl,rfl⟩
theorem Only.step(h:Only zs ys off k)(z:Int):Only zs (ys.set (off+k) z) off (k+1) where
 len:=by rw [List.length_set];exact h.len
 low:=by rw [zaH _ _ _ _ (by omega)];exact h.low
 high:=by
  rw [zcu _ _ _ _ (by omega)]
  have:=congrArg (List.drop 1) h.high
  rwa [List.drop_drop,List.drop_drop] at this
theorem Only.at(h:Only zs ys off k)(i:Nat)(hi:off+k≤i):ys.getD i 0=zs.getD i 0:=by
 have e:=congrArg (fun l=>l.getD (i-(off+k)) 0) h.high
 simp only [zdp] at e
 rwa [show off+k+(i-(off+k))=i by omega] at e
theorem Only.trans(h:Only zs ys off k)(g:Only ys xs off k):Only zs xs off k:=⟨g.len.trans h.len,g.low.trans h.low,g.high.trans h.high⟩
structure Part (w w':World)(g:Nat)(zs ys:List Int)(off k:Nat):Prop where
 row:Row w' g ys
 grown:w.grownBy w' (some g)
 only:Only zs ys off k
theorem Part.refl(h:Row w g zs)(off k:Nat):Part w w g zs zs off k:=⟨h,World.grownBy.refl _ _,Only.refl _ _ _⟩
theorem Part.step(h:Part w wr g zs ys off k)(hk:off+k<zs.length)(hz:0≤z∧z<4294967296):
  Part w (wr.setCell ⟨g,off+k,none⟩ (.int .u32 z)) g zs (ys.set (off+k) z) off (k+1):=
 ⟨h.row.store (by rw [h.only.len];exact hk) hz,zcB h.grown _ _,h.only.step z⟩
theorem Part.trans(h:Part w w1 g zs ys off k)(q:Part w1 w2 g ys xs off k):Part w w2 g zs xs off k:=⟨q.row,h.grown.trans q.grown,h.only.trans q.only⟩
theorem Part.drewN(h:Part w wr g zs ys off k)(n:Nat):Part w (wr.drewN n) g zs ys off k:=⟨h.row.drewN n,zdu h.grown n,h.only⟩
theorem zla(h:seg ys off k+T*lv (b.take k)=seg zs off k+bp k*cy)(hl:off+k<ys.length)
  (hX:X=cy+T*b.getD k 0) (hz:z=zs.getD (off+k) 0-X%4294967296+4294967296*s):
  seg (ys.set (off+k) z) off (k+1)+T*lv (b.take (k+1))=seg zs off (k+1)+bp (k+1) *(X/4294967296+s):=by
 rw [zaF,zaF,zdR,zK,zS _ _ _ _ hl,if_pos rfl]
 have e1:bp (k+1) *(X/4294967296+s)=bp k *(4294967296 *(X/4294967296)+4294967296*s):=by simp only [bp];rw [Int.mul_comm 4294967296 (bp k),Int.mul_assoc,Int.mul_add]
 have e2:bp k*z=bp k *(zs.getD (off+k) 0)+bp k *(4294967296*s)-bp k *(X%4294967296):=by rw [hz,← Int.mul_add,← Int.mul_sub];congr 1;omega
 have e3:bp k*X=bp k*cy+T *(bp k*b.getD k 0):=by rw [hX,Int.mul_add,Int.mul_left_comm]
 have e4:bp k *(X%4294967296+4294967296 *(X/4294967296))=bp k*X:=by rw [Int.emod_add_mul_ediv]
 rw [Int.mul_add] at e4
 rw [e1,Int.mul_add,Int.mul_add]
 omega
theorem zk9(h:seg ys off b.length+T*lv (b.take b.length)=seg zs off b.length+bp b.length*cy)(hl:off+b.length<ys.length)
  (hz:z=zs.getD (off+b.length) 0-cy+4294967296*s):
  seg (ys.set (off+b.length) z) off (b.length+1)+T*lv b=seg zs off (b.length+1)+bp (b.length+1)*s:=by
 rw [List.take_length] at h
 rw [zaF,zaF,zdR,zS _ _ _ _ hl,if_pos rfl]
 have e1:bp (b.length+1)*s=bp b.length *(4294967296*s):=by simp only [bp];rw [Int.mul_comm 4294967296 (bp b.length),Int.mul_assoc]
 have e2:bp b.length*z=bp b.length *(zs.getD (off+b.length) 0)+bp b.length *(4294967296*s)-bp b.length*cy:=by rw [hz,← Int.mul_add,← Int.mul_sub];congr 1;omega
 rw [e1]
 omega
def TakePost (w:World)(g:Nat)(zs:List Int)(off:Nat)(b:List Int)(T:Int)(e:Ending)(w':World):Prop:=
 ∃(s:Bool) (ys:List Int),e=.returned (.bool s)∧Part w w' g zs ys off (b.length+1) ∧
  seg ys off (b.length+1)+T*lv b=seg zs off (b.length+1)+(if s=true then bp (b.length+1) else 0)
theorem zk8 (w:World)(g h cap bcap off:Nat)(zs b:List Int)(T:Int)(hr:Row w g zs)(hb:Row w h b)(hne:h≠g)(hoff:off+b.length+1≤zs.length)(hl:zs.length≤1000000)(hT:0≤T∧T<4294967296):
  Calls Tryz.prog 158 #[.slice (some ⟨g,off,none⟩) (b.length+1) cap,.slice (some ⟨h,0,none⟩) b.length bcap,.int .u64 T] w fun e w'=>TakePost w g zs off b T e w':=by
 have HB:=hide hb
 have HR:=hide hr
 have hlb:=hr.2.1
 have hblb:=hb.2.1
 clear hr hb
 go_enter Tryz.func158,Tryz.ntmps158
 go_wp2
 go_loopw [7,13] (fun c i wr=>∃(k:Nat) (cy:Int) (ys:List Int),k≤b.length∧i=.int .i64 k∧c=.int .u64 cy∧0≤cy∧cy<4294967296∧Part w wr g zs ys off k∧Hid (seg ys off k+T*lv (b.take k)=seg zs off k+bp k*cy)) (fun _ i _=>b.length-(intOf i).toNat)
 case atStart=>exact⟨0,0,zs,Nat.zero_le _,rfl,rfl,by decide,by decide,Part.refl HR.out off 0,by show _=_;simp [seg,lv]⟩
 case round=>
  obtain⟨k,cy,ys,hk,rfl,rfl,hc0,hc1,hp,HV⟩:=hrel
  by_cases hlt:k<b.length
  ·have hyl:off+k<ys.length:=by rw [hp.only.len];omega
   obtain⟨hcell,hfr⟩:=hp.row.2.2 (off+k) hyl
   rw [hp.only.at (off+k) zL] at hcell
   obtain⟨hcb,-⟩:=(HB.out.far hp.grown hne).2.2 k hlt
   have hz:=hlb (off+k)
   have hy:=hblb k
   have hpr:=zdF hT hy
   have hst:=fun z hz=>hp.step (z:=z) (show off+k<zs.length by omega) hz
   have hv:=fun X s z hX hz=>zla (X:=X) (s:=s) (z:=z) (T:=T) HV.out hyl hX hz
   generalize zs.getD (off+k) 0=a at *
   generalize b.getD k 0=y at *
   generalize hXe:cy+T*y=X at *
   have hX0:0≤X:=by omega
   have hX1:X≤18446744069414584320:=by omega
   by_cases hs:a<X%4294967296
   ·have HS:=hide (hst ((a-X)%4294967296) (by omega))
    have HV':=hide (hv X 1 ((a-X)%4294967296) rfl (by omega))
    clear hst hv
    go_wp2
    go_roundw
    case rel=>exact⟨k+1,X/4294967296+1,_,by omega,by go_num,rfl,by omega,by omega,HS.out,HV'.out⟩
    case measure=>simp [intOf];omega
   ·have HS:=hide (hst (a-X%4294967296) (by omega))
    have HV':=hide (hv X 0 (a-X%4294967296) rfl (by omega))
    rw [Int.add_zero] at HV'
    clear hst hv
    go_wp2
    go_roundw
    case rel=>exact⟨k+1,X/4294967296,_,by omega,by go_num,rfl,by omega,by omega,HS.out,HV'.out⟩
    case measure=>simp [intOf];omega
  ·obtain rfl:k=b.length:=by omega
   have hyl:off+b.length<ys.length:=by rw [hp.only.len];omega
   obtain⟨hcell,hfr⟩:=hp.row.2.2 (off+b.length) hyl
   rw [hp.only.at (off+b.length) zL] at hcell
   have hz:=hlb (off+b.length)
   have hst:=fun z hz=>hp.step (z:=z) (show off+b.length<zs.length by omega) hz
   have hv:=fun s z hz=>zk9 (s:=s) (z:=z) (T:=T) HV.out hyl hz
   generalize zs.getD (off+b.length) 0=a at *
   by_cases hs:a<cy
   ·have HS:=hide (hst ((a-cy)%4294967296) (by omega))
    have HV':=hide (hv 1 ((a-cy)%4294967296) (by omega))
    rw [Int.mul_one] at HV'
    clear hst hv
    have hd:decide (a<cy)=true:=decide_eq_true hs
    go_wp2
    go_ret
    exact⟨true,_,rfl,HS.out,by rw [if_pos rfl];exact HV'.out⟩
   ·have HS:=hide (hst (a-cy) (by omega))
    have HV':=hide (hv 0 (a-cy) (by omega))
    rw [Int.mul_zero] at HV'
    clear hst hv
    have hd:decide (a<cy)=false:=decide_eq_false hs
    go_wp2
    go_ret
    exact⟨false,_,rfl,HS.out,HV'.out⟩
theorem ziF(h:seg ys off k+bp k*cy=seg zs off k+lv (b.take k))(hl:off+k<ys.length)
  (hX:X=zs.getD (off+k) 0+b.getD k 0+cy):
  seg (ys.set (off+k) (X%4294967296)) off (k+1)+bp (k+1) *(X/4294967296)=seg zs off (k+1)+lv (b.take (k+1)):=by
 rw [zaF,zaF,zdR,zK,zS _ _ _ _ hl,if_pos rfl]
 have e1:bp (k+1) *(X/4294967296)=bp k *(4294967296 *(X/4294967296)):=by simp only [bp];rw [Int.mul_comm 4294967296 (bp k),Int.mul_assoc]
 have e3:bp k*X=bp k*zs.getD (off+k) 0+bp k*b.getD k 0+bp k*cy:=by rw [hX,Int.mul_add,Int.mul_add]
 have e4:bp k *(X%4294967296+4294967296 *(X/4294967296))=bp k*X:=by rw [Int.emod_add_mul_ediv]
 rw [Int.mul_add] at e4
 rw [e1]
 omega
def GivePost (w:World)(g:Nat)(zs:List Int)(off:Nat)(b:List Int)(e:Ending)(w':World):Prop:=
 ∃(c:Int) (ys:List Int),e=.returned (.tuple #[])∧0≤c∧c≤1∧Part w w' g zs ys off (b.length+1) ∧
  seg ys off (b.length+1)+bp (b.length+1)*c=seg zs off (b.length+1)+lv b
theorem ziE (w:World)(g h cap bcap off:Nat)(zs b:List Int)(hr:Row w g zs)(hb:Row w h b)(hbc:b.length≤bcap)(hne:h≠g)(hoff:off+b.length+1≤zs.length)(hl:zs.length≤1000000):
  Calls Tryz.prog 159 #[.slice (some ⟨g,off,none⟩) (b.length+1) cap,.slice (some ⟨h,0,none⟩) b.length bcap] w fun e w'=>GivePost w g zs off b e w':=by
 have HB:=hide hb
 have HR:=hide hr
 have hlb:=hr.2.1
 have hblb:=hb.2.1
 clear hr hb
 go_enter Tryz.func159,Tryz.ntmps159
 go_wp2
 go_loopw [4,8] (fun c i wr=>∃(k:Nat) (cy:Int) (ys:List Int),k≤b.length+1∧i=.int .i64 k∧c=.int .u32 cy∧0≤cy∧cy≤1∧Part w wr g zs ys off k∧Hid (seg ys off k+bp k*cy=seg zs off k+lv (b.take k))) (fun _ i _=>b.length+1-(intOf i).toNat)
 case atStart=>exact⟨0,0,zs,Nat.zero_le _,rfl,rfl,by decide,by decide,Part.refl HR.out off 0,by show _=_;simp [seg,lv]⟩
 case round=>
  obtain⟨k,cy,ys,hk,rfl,rfl,hc0,hc1,hp,HV⟩:=hrel
  by_cases hlt:k<b.length+1
  ·have hyl:off+k<ys.length:=by rw [hp.only.len];omega
   obtain⟨hcell,hfr⟩:=hp.row.2.2 (off+k) hyl
   rw [hp.only.at (off+k) zL] at hcell
   have hlim:=(HB.out.far hp.grown hne).lim bcap hbc (by omega)
   have hlb':=fun W (hW:Lim W (.slice (some ⟨h,0,none⟩) b.length bcap) b)=>zbW W (.slice (some ⟨h,0,none⟩) b.length bcap) b k hW (by omega) (by omega)
   rw [Int.toNat_natCast] at hlb'
   have hz:=hlb (off+k)
   have hy:=hblb k
   have hst:=fun z hz=>hp.step (z:=z) (show off+k<zs.length by omega) hz
   have hv:=fun X hX=>ziF (X:=X) HV.out hyl hX
   generalize zs.getD (off+k) 0=a at *
   generalize b.getD k 0=y at *
   have HS:=hide (hst ((a+y+cy)%4294967296) (by omega))
   have HV':=hide (hv (a+y+cy) rfl)
   clear hst hv
   go_wp2
   have hq0:0≤(a+y+cy)/4294967296:=by omega
   have hq1:(a+y+cy)/4294967296≤1:=by omega
   go_region_with (first |(go_at_call 146;refine(hlb' _ (by exact hlim)).mono ?_;rintro e w' ⟨rfl,rfl⟩) |(go_at_call 145;refine(add32 a y cy _ hz hy ⟨hc0,hc1⟩).mono ?_;rintro e w' ⟨rfl,rfl⟩))
   all_goals
    go_wp2
    go_roundw
    case rel=>exact⟨k+1,_,_,by omega,by go_num,rfl,hq0,hq1,HS.out.drewN _,HV'.out⟩
    case measure=>simp [intOf];omega
  ·obtain rfl:k=b.length+1:=by omega
   rw [zau b (by omega)] at HV
   go_wp2
   go_end0
   exact⟨cy,ys,rfl,hc0,hc1,hp,HV.out⟩
structure Tops (A V p la lb a0 a1 a2 hi nx:Int):Prop where
 ea:A=la+p *(a2+4294967296 *(a0*4294967296+a1))
 ev:V=lb+p *(nx+4294967296*hi)
 p0:0<p
 la0:0≤la
 la1:la<p
 lb0:0≤lb
 lb1:lb<p
 ra0:0≤a0∧a0<4294967296
 ra1:0≤a1∧a1<4294967296
 ra2:0≤a2∧a2<4294967296
 rhi:1≤hi∧hi<4294967296
 rnx:0≤nx∧nx<4294967296
theorem Tops.vpos(h:Tops A V p la lb a0 a1 a2 hi nx):4294967296*p≤V:=by
 obtain⟨ea,ev,p0,la0,la1,lb0,lb1,ra0,ra1,ra2,rhi,rnx⟩:=h
 have:p*4294967296≤p *(nx+4294967296*hi):=Int.mul_le_mul_of_nonneg_left (by omega) (by omega)
 omega
theorem Tops.first(h:Tops A V p la lb a0 a1 a2 hi nx)(hlt:A<V*4294967296):a0≤hi:=by
 obtain⟨ea,ev,p0,la0,la1,lb0,lb1,ra0,ra1,ra2,rhi,rnx⟩:=h
 have h1:p *(a2+4294967296 *(a0*4294967296+a1))<p *((nx+4294967296*hi+1)*4294967296):=by
  have e:p *((nx+4294967296*hi+1)*4294967296)=(p *(nx+4294967296*hi)+p)*4294967296:=by rw [← Int.mul_assoc,Int.mul_add p _ 1,Int.mul_one]
  rw [e]
  generalize p *(nx+4294967296*hi)=X at *
  generalize p *(a2+4294967296 *(a0*4294967296+a1))=Y at *
  omega
 have h2:=Int.lt_of_mul_lt_mul_left h1 (by omega)
 omega
theorem Tops.above(h:Tops A V p la lb a0 a1 a2 hi nx)(hG:0≤G)(hle:a2+4294967296 *(a0*4294967296+a1)+1≤G *(nx+4294967296*hi)):A<G*V:=by
 obtain⟨ea,ev,p0,la0,la1,lb0,lb1,ra0,ra1,ra2,rhi,rnx⟩:=h
 have h1:p *(a2+4294967296 *(a0*4294967296+a1)+1)≤p *(G *(nx+4294967296*hi)):=Int.mul_le_mul_of_nonneg_left hle (by omega)
 have h2:0≤G*lb:=Int.mul_nonneg hG lb0
 have e:G*V=G*lb+p *(G *(nx+4294967296*hi)):=by rw [ev,Int.mul_add,Int.mul_left_comm]
 rw [Int.mul_add,Int.mul_one] at h1
 omega
theorem Tops.start(h:Tops A V p la lb a0 a1 a2 hi nx):A<((a0*4294967296+a1)/hi+1)*V:=by
 have h':=h
 obtain⟨ea,ev,p0,la0,la1,lb0,lb1,ra0,ra1,ra2,rhi,rnx⟩:=h'
 have q0:0≤(a0*4294967296+a1)/hi:=Int.ediv_nonneg (by omega) (by omega)
 have d:=Int.mul_ediv_add_emod (a0*4294967296+a1) hi
 have m1:=Int.emod_lt_of_pos (a0*4294967296+a1) (show 0<hi by omega)
 refine h.above (by omega) ?_
 generalize (a0*4294967296+a1)/hi=q at *
 have e:(q+1) *(nx+4294967296*hi)=(q+1)*nx+4294967296 *(hi*q+hi):=by rw [Int.mul_add,Int.mul_left_comm (q+1),Int.mul_comm (q+1) hi,Int.mul_add hi,Int.mul_one]
 have n0:0≤(q+1)*nx:=Int.mul_nonneg (by omega) rnx.1
 rw [e]
 generalize hi*q=z at *
 omega
theorem Tops.less(h:Tops A V p la lb a0 a1 a2 hi nx)(hG:0≤G)(hR:G*hi+R=a0*4294967296+a1)(hgt:R*4294967296+a2<G*nx):A<G*V:=by
 refine h.above hG ?_
 have e:G *(nx+4294967296*hi)=G*nx+4294967296 *(G*hi):=by rw [Int.mul_add,Int.mul_left_comm]
 rw [e,← hR]
 omega
theorem Tops.stop(h:Tops A V p la lb a0 a1 a2 hi nx)(hG:0≤G∧G<4294967296)(hR:G*hi+R=a0*4294967296+a1)(hle:G*nx≤R*4294967296+a2):G*V<A+V:=by
 have hv:=h.vpos
 obtain⟨ea,ev,p0,la0,la1,lb0,lb1,ra0,ra1,ra2,rhi,rnx⟩:=h
 have e:G *(nx+4294967296*hi)=G*nx+4294967296 *(G*hi):=by rw [Int.mul_add,Int.mul_left_comm]
 have h1:p *(G *(nx+4294967296*hi))≤p *(a2+4294967296 *(a0*4294967296+a1)):=Int.mul_le_mul_of_nonneg_left (by rw [e,← hR];omega) (by omega)
 have e2:G*V=G*lb+p *(G *(nx+4294967296*hi)):=by rw [ev,Int.mul_add,Int.mul_left_comm]
 have h2:G*lb≤4294967295*lb:=Int.mul_le_mul_of_nonneg_right (by omega) lb0
 omega
theorem Tops.stop_far(h:Tops A V p la lb a0 a1 a2 hi nx)(hlt:A<V*4294967296)(hG:0≤G)(hR:G*hi+R=a0*4294967296+a1)(hfar:4294967296≤R):G<4294967296∧G*nx≤R*4294967296+a2:=by
 have hf:=h.first hlt
 obtain⟨ea,ev,p0,la0,la1,lb0,lb1,ra0,ra1,ra2,rhi,rnx⟩:=h
 have hg:G<4294967296:=by
  rcases Int.lt_or_le G 4294967296 with h | h
  ·exact h
  ·have:4294967296*hi≤G*hi:=Int.mul_le_mul_of_nonneg_right h (by omega)
   omega
 have h1:G*nx≤4294967295*4294967295:=Int.mul_le_mul (by omega) (by omega) rnx.1 (by decide)
 exact⟨hg,by omega⟩
theorem zll(hz:LB zs)(hb:LB b)(hm:b.length=m+2)(ht:b.getD (m+1) 0≠0):
  Tops (seg zs off (b.length+1)) (lv b) (bp m) (seg zs off m) (lv (b.take m)) (zs.getD (off+(m+2)) 0) (zs.getD (off+(m+1)) 0) (zs.getD (off+m) 0) (b.getD (m+1) 0) (b.getD m 0) where
 ea:=by
  rw [hm,zaF,zaF,zaF]
  simp only [bp,Int.mul_add]
  have e1:4294967296 *(4294967296*bp m)*zs.getD (off+(m+2)) 0=bp m *(4294967296 *(zs.getD (off+(m+2)) 0*4294967296)):=by ac_rfl
  have e2:4294967296*bp m*zs.getD (off+(m+1)) 0=bp m *(4294967296*zs.getD (off+(m+1)) 0):=by ac_rfl
  rw [e1,e2]
  omega
 ev:=by
  have e:lv b=lv (b.take (m+2)):=by rw [zau b (by omega)]
  rw [e,zK,zK]
  simp only [bp,Int.mul_add]
  have e2:4294967296*bp m*b.getD (m+1) 0=bp m *(4294967296*b.getD (m+1) 0):=by ac_rfl
  rw [e2]
  omega
 p0:=zD m
 la0:=zdQ hz off m
 la1:=zcd hz off m
 lb0:=zbx hb m
 lb1:=zcF hb m
 ra0:=hz _
 ra1:=hz _
 ra2:=hz _
 rhi:=by have:=hb (m+1);omega
 rnx:=hb _
def StepPost (w:World)(g:Nat)(zs:List Int)(off:Nat)(b:List Int)(e:Ending)(w':World):Prop:=
 ∃(q:Int) (ys:List Int),e=.returned (.int .u32 q)∧0≤q∧q<4294967296∧Part w w' g zs ys off (b.length+1) ∧
  seg zs off (b.length+1)=q*lv b+seg ys off (b.length+1)∧seg ys off (b.length+1)<lv b
theorem zke(hG:0≤G∧G<4294967296)(hn:0≤nx∧nx<4294967296):0≤G*nx∧G*nx<18446744073709551616:=by
 have:=zdF hG hn
 omega
theorem Part.of_drewN(h:Part (w.drewN n) w' g zs ys off k):Part w w' g zs ys off k:=
 ⟨h.row,(zdu (World.grownBy.refl w (some g)) n).trans h.grown,h.only⟩
theorem zgx(hv:S+G*V=A)(hu:A<(G+1)*V):A=G*V+S∧S<V:=by
 rw [Int.add_mul,Int.one_mul] at hu
 omega
theorem zgw{P S2 c:Int}(hv:S+G*V=A+P)(hS:S<P)(hx:G*V<A+V)(hv2:S2+P*c=S+V)(hS2:S2<P)(hc0:0≤c)(hc1:c≤1)(hA:0≤A)(hV:0<V∧V<P):
  1≤G∧A=(G-1)*V+S2∧S2<V:=by
 have hg:1≤G:=by
  rcases Int.lt_or_le G 1 with h | h
  ·have:G*V≤0*V:=Int.mul_le_mul_of_nonneg_right (by omega) (by omega)
   omega
  ·exact h
 rw [Int.sub_mul,Int.one_mul]
 rcases(by omega:c=0∨c=1) with rfl | rfl
 ·omega
 ·rw [Int.mul_one] at hv2
  exact⟨hg,by omega,by omega⟩
theorem zh4 (w:World)(g h cap bcap off m:Nat)(zs b:List Int)(hr:Row w g zs)(hb:Row w h b)(hbc:b.length≤bcap)(hne:h≠g)(hoff:off+b.length+1≤zs.length)(hl:zs.length≤1000000)
  (hm:b.length=m+2) (ht:b.getD (m+1) 0≠0) (hlt:seg zs off (b.length+1)<lv b*4294967296):
  Calls Tryz.prog 143 #[.slice (some ⟨g,off,none⟩) (b.length+1) cap,.slice (some ⟨h,0,none⟩) b.length bcap] w fun e w'=>StepPost w g zs off b e w':=by
 have HB:=hide hb
 have HR:=hide hr
 have hlb:=hr.2.1
 have hT:=zll (off:=off) hr.2.1 hb.2.1 hm ht
 obtain⟨c0,-⟩:=hr.2.2 (off+(m+2)) (by omega)
 obtain⟨c1,-⟩:=hr.2.2 (off+(m+1)) (by omega)
 obtain⟨c2,-⟩:=hr.2.2 (off+m) (by omega)
 obtain⟨d1,-⟩:=hb.2.2 (m+1) (by omega)
 obtain⟨d2,-⟩:=hb.2.2 m (by omega)
 clear hr hb ht
 have HM:=hide hm
 have hbl:(b.length:Int)=(m:Int)+2:=by omega
 clear hm
 have htk:=fun(W:World) (G:Int) hr hb hT=>zk8 W g h cap bcap off zs b G hr hb hne hoff hl hT
 have hgb:=fun(W:World) (ys:List Int) hr hb hoff hl=>ziE W g h cap bcap off ys b hr hb hbc hne hoff hl
 have HTK:=hide htk
 have HGB:=hide hgb
 clear htk hgb
 generalize zs.getD (off+(m+2)) 0=a0 at *
 generalize zs.getD (off+(m+1)) 0=a1 at *
 generalize zs.getD (off+m) 0=a2 at *
 generalize b.getD (m+1) 0=hi at *
 generalize b.getD m 0=nx at *
 have HT:=hide hT
 have HL:=hide hlt
 have hvp:=hide (show 0<lv b∧lv b<bp (b.length+1) by
  have h1:=hT.vpos;have h2:=hT.p0;have h3:=zax HB.out.2.1;have h4:bp b.length≤bp (b.length+1):=zam (by omega);omega)
 have hf:=hT.first hlt
 obtain⟨-,-,-,-,-,-,-,ra0,ra1,ra2,rhi,rnx⟩:=hT
 clear hlt
 have hor:=zcJ a0 a1 ra0.1 ra0.2 ra1.1 ra1.2
 have hsh:=zcP a0 a1 ra0.1 ra0.2 ra1.1 ra1.2
 have HQ:=hide (HT.out.start)
 have q0:0≤(a0*4294967296+a1)/hi:=Int.ediv_nonneg (by omega) (by omega)
 have q1:(a0*4294967296+a1)/hi≤a0*4294967296+a1:=Int.ediv_le_self _ (by omega)
 have m0:=Int.emod_nonneg (a0*4294967296+a1) (show hi≠0 by omega)
 have m1:=Int.emod_lt_of_pos (a0*4294967296+a1) (show 0<hi by omega)
 have hh1:(hi != 0)=true:=by rw [bne_iff_ne];omega
 have hh2:(hi==0)=false:=by rw [beq_eq_false_iff_ne];omega
 have HD:=hide (show(a0*4294967296+a1)/hi*hi+(a0*4294967296+a1)%hi=a0*4294967296+a1 by rw [Int.mul_comm];exact Int.mul_ediv_add_emod _ _)
 go_enter Tryz.func143,Tryz.ntmps143
 go_wp2
 go_quiet (fail)
 go_wp2
 go_quiet (fail)
 go_wp2
 go_quiet (fail)
 go_wp2
 go_loopw [9,10] (fun gv rv wr=>∃(G R:Int) (nq:Nat),gv=.int .u64 G∧rv=.int .u64 R∧wr=w.drewN nq∧0≤G∧G<18446744073709551616∧0≤R∧R<8589934592∧Hid (G*hi+R=a0*4294967296+a1)∧Hid (seg zs off (b.length+1)<(G+1)*lv b)) (fun gv _ _=>(intOf gv).toNat)
 case atStart=>exact⟨_,_,_,rfl,rfl,by rw [World.drewN_drewN,World.drewN_drewN],q0,by omega,m0,by omega,HD,HQ⟩
 case round=>
  obtain⟨G,R,nq,rfl,rfl,rfl,hG0,hG1,hR0,hR1,HE,HU⟩:=hrel
  by_cases hR:R<4294967296
  ·have hor2:=zcJ R a2 hR0 hR ra2.1 ra2.2
   have hsh2:=zcP R a2 hR0 hR ra2.1 ra2.2
   by_cases hG:G<4294967296
   ·have hpr:=zke ⟨hG0,hG⟩ rnx
    by_cases hgt:R*4294967296+a2<G*nx
    ·have HU':=hide (HT.out.less hG0 HE.out hgt)
     have hg1:1≤G:=by
      rcases Int.lt_or_le G 1 with h | h
      ·have:G=0:=by omega
       subst this
       omega
      ·exact h
     have HE':=hide (show(G-1)*hi+(R+hi)=a0*4294967296+a1 by have:=HE.out;rw [Int.sub_mul,Int.one_mul];omega)
     go_wp2
     go_roundw
     case rel=>exact⟨_,_,_,_,_,_,_,_,_,_,_,_,_,_,_,_,_,_,_,_,_,_,_,_,_,_,_,_,_,_,⟨G-1,R+hi,nq,rfl,rfl,rfl,by omega,by omega,by omega,by omega,HE',by rw [Int.sub_add_cancel];exact HU'⟩,rfl⟩
     case measure=>show(G-1).toNat<G.toNat;omega
    ·have HX:=hide (HT.out.stop ⟨hG0,hG⟩ HE.out (by omega))
     go_wp2_with fail
     refine(HTK.out _ G (HR.out.drewN nq) (HB.out.drewN nq) ⟨hG0,hG⟩).mono ?_
     rintro e w1 ⟨s,ys,rfl,hp,hv⟩
     replace hp:=hp.of_drewN
     have hS:=zcd hp.row.2.1 off (b.length+1)
     cases s
     ·have HF:=hide (zgx (G:=G) (V:=lv b) (by simpa using hv) HU.out)
      clear hv hS
      go_wp2
      go_ret
      exact⟨G,ys,rfl,hG0,hG,hp,HF.out.1,HF.out.2⟩
     ·rw [if_pos rfl] at hv
      have hlen:=hp.only.len
      go_wp2_with fail
      refine(HGB.out w1 ys hp.row (HB.out.far hp.grown hne) (by rw [hlen];exact hoff) (by rw [hlen];exact hl)).mono ?_
      rintro e w2 ⟨c,xs,rfl,hc0,hc1,hp2,hv2⟩
      replace hp:=hp.trans hp2
      have hS2:=zcd hp.row.2.1 off (b.length+1)
      have hA:=zdQ hlb off (b.length+1)
      obtain⟨hg1,hF1,hF2⟩:=zgw hv hS HX.out hv2 hS2 hc0 hc1 hA (hvp.out)
      have HF1:=hide hF1;have HF2:=hide hF2
      clear hv hv2 hS hS2 hA hF1 hF2
      go_wp2
      go_ret
      exact⟨G-1,xs,rfl,by omega,by omega,hp,HF1.out,HF2.out⟩
   ·have HU':=hide (show seg zs off (b.length+1)<G*lv b by
     have h1:=HL.out
     have h2:=HT.out.vpos
     have h3:=HT.out.p0
     have h4:4294967296*lv b≤G*lv b:=Int.mul_le_mul_of_nonneg_right (by omega) (by omega)
     omega)
    have HE':=hide (show(G-1)*hi+(R+hi)=a0*4294967296+a1 by have:=HE.out;rw [Int.sub_mul,Int.one_mul];omega)
    go_wp2
    go_roundw
    case rel=>exact⟨⟨nq,rfl⟩,by omega,by omega,by omega,by omega⟩
    case measure=>simp [intOf];omega
  ·have hfar:=HT.out.stop_far HL.out hG0 HE.out (by omega)
   have HX:=hide (HT.out.stop ⟨hG0,hfar.1⟩ HE.out hfar.2)
   go_wp2_with fail
   refine(HTK.out _ G (HR.out.drewN nq) (HB.out.drewN nq) ⟨hG0,hfar.1⟩).mono ?_
   rintro e w1 ⟨s,ys,rfl,hp,hv⟩
   replace hp:=hp.of_drewN
   have hS:=zcd hp.row.2.1 off (b.length+1)
   cases s
   ·have HF:=hide (zgx (G:=G) (V:=lv b) (by simpa using hv) HU.out)
    clear hv hS
    go_wp2
    go_ret
    exact⟨G,ys,rfl,hG0,hfar.1,hp,HF.out.1,HF.out.2⟩
   ·rw [if_pos rfl] at hv
    have hlen:=hp.only.len
    go_wp2_with fail
    refine(HGB.out w1 ys hp.row (HB.out.far hp.grown hne) (by rw [hlen];exact hoff) (by rw [hlen];exact hl)).mono ?_
    rintro e w2 ⟨c,xs,rfl,hc0,hc1,hp2,hv2⟩
    replace hp:=hp.trans hp2
    have hS2:=zcd hp.row.2.1 off (b.length+1)
    have hA:=zdQ hlb off (b.length+1)
    obtain⟨hg1,hF1,hF2⟩:=zgw hv hS HX.out hv2 hS2 hc0 hc1 hA (hvp.out)
    have HF1:=hide hF1;have HF2:=hide hF2
    clear hv hv2 hS hS2 hA hF1 hF2
    go_wp2
    go_ret
    exact⟨G-1,xs,rfl,by omega,by omega,hp,HF1.out,HF2.out⟩
def gv:List Int→Int
 | []=>0
 | x::xs=>x+1000000000*gv xs
def gp:Nat→Int
 | 0=>1
 | n+1=>1000000000*gp n
theorem zbr (n:Nat):0<gp n:=by
 induction n with
 | zero=>simp [gp]
 | succ n ih=>simp only [gp];omega
theorem ze6(h:m≤n):gp m≤gp n:=by
 induction n with
 | zero=>rw [Nat.le_zero.1 h];exact Int.le_refl _
 | succ n ih=>
  by_cases e:m=n+1
  ·rw [e];exact Int.le_refl _
  ·have:=ih (by omega);have:=zbr n;simp only [gp];omega
theorem zfb (xs:List Int)(r:Int):gv (xs++[r])=gv xs+gp xs.length*r:=by
 induction xs with
 | nil=>simp [gv,gp]
 | cons x xs ih=>simp only [List.cons_append,gv,ih,List.length_cons,gp];rw [Int.mul_add,Int.mul_assoc];omega
theorem zhe (n:Nat):bp n≤gp (2*n):=by
 induction n with
 | zero=>simp [bp,gp]
 | succ n ih=>rw [show 2 *(n+1)=2*n+1+1 by omega];simp only [bp,gp];have:=zbr (2*n);omega
theorem Row.take(h:Row w g zs)(n:Nat):Row w g (zs.take n):=by
 obtain⟨h1,h2,h3⟩:=h
 refine⟨h1,zcn h2 n,fun j hj=>?_⟩
 rw [List.length_take] at hj
 rw [zaM zs n j (by omega)]
 exact h3 j (by omega)
theorem Row.kept{r:Option Nat}(h:Row w g zs)(hg:w.grownBy w' r)(hne:r≠some g):Row w' g zs:=by
 obtain⟨h1,h2,h3⟩:=h
 have hb:w'.heap[g]?=w.heap[g]?:=hg.block g h1 (fun e=>hne e.symm)
 exact⟨zT h1 hg.size,h2,fun j hj=>⟨(World.cell?_of_block (a:=⟨g,j,none⟩) hb).trans (h3 j hj).1,(World.frozen?_of_block (a:=⟨g,j,none⟩) hb).trans (h3 j hj).2⟩⟩
def GrpInv (w wr:World)(zs:List Int)(v:Value)(gs ys:List Int):Prop:=
 Row wr w.heap.size ys∧Nrm ys∧ys.length≤zs.length∧wr.ownsRow (w.heap.size+1) 3 1 v gs.length (gs.map (Value.int .i64))∧Below w.heap.size w wr ∧
  lv zs=gv gs+gp gs.length*lv ys∧(∀ g∈gs,0≤g∧g<1000000000)∧(lv ys=0→gs.length=0∨gs.getD (gs.length-1) 0≠0)∧lenOf v=gs.length∧w.heap.size<wr.heap.size∧0≤gv gs
theorem zdw{base:Nat}{e:TypeId}{xs:List Value}(h:w.ownsRow base e 1 v n xs):lenOf v=n:=by
 rcases h.2 with⟨rfl,h0⟩ |⟨g,cap,cur,rfl,_⟩
 ·simp [lenOf,h0]
 ·rfl
theorem GrpInv.few(h:GrpInv w wr zs v gs ys)(hlb:LB zs)(hy:ys.length≠0):gs.length<2*zs.length:=by
 obtain⟨h1,h2,h3,h4,h5,h6,h7,h8,h9,h10,h11⟩:=h
 have e1:=zbZ h1.2.1 h2 hy
 have e2:=zax hlb
 have e3:=zhe zs.length
 have e4:=zbr gs.length
 have e5:gp gs.length*1≤gp gs.length*lv ys:=Int.mul_le_mul_of_nonneg_left (by omega) (by omega)
 by_cases hk:gs.length<2*zs.length
 ·exact hk
 ·have:=ze6 (m:=2*zs.length) (n:=gs.length) (by omega)
  omega
theorem GrpInv.step{v':Value}{qs:List Int}{r:Int}(h:GrpInv w wr zs v gs ys)(hr0:0≤r)(hr1:r<1000000000)
  (hq:qs.length=ys.length) (hrow:Row w1 w.heap.size qs) (hg1:wr.grownBy w1 (some w.heap.size)) (hlv:lv ys=1000000000*lv qs+r) (hpos:lv ys≠0)
  (hown:w2.ownsRow (w.heap.size+1) 3 1 v' (gs.length+1) (gs.map (Value.int .i64)++[.int .i64 r])) (hg2:(w1.alloc (.cells #[.int .i64 r] 3)).grownBy w2 v.ownBlock)
  (hm:m≤qs.length) (hlm:lv (qs.take m)=lv qs) (hnm:Nrm (qs.take m)):GrpInv w w2 zs v' (gs++[r]) (qs.take m):=by
 obtain⟨h1,h2,h3,h4,h5,h6,h7,h8,h9,h10,h11⟩:=h
 have hne:v.ownBlock≠some w.heap.size:=fun e=>by have:=h4.lt _ e;omega
 have hbase:∀ k,v.ownBlock=some k→w.heap.size≤k:=fun k e=>by have:=h4.lt _ e;omega
 have b1:=h5.grown hg1 (by omega) (fun k hk=>by simp at hk;omega)
 have b2:=b1.alloc b1.size (.cells #[.int .i64 r] 3)
 have b3:=b2.grown hg2 (by simp;have:=b1.size;omega) hbase
 refine⟨((hrow.kept (World.grownBy_alloc w1 _ none) (by simp)).kept hg2 hne).take m,hnm,by rw [List.length_take];omega,?_,b3,?_,?_,?_,?_,?_,?_⟩
 ·rw [List.length_append,List.map_append];exact hown
 ·rw [zfb,List.length_append,hlm,h6,hlv]
  simp only [List.length_singleton,gp]
  rw [Int.mul_add]
  have e:gp gs.length *(1000000000*lv qs)=1000000000*gp gs.length*lv qs:=by rw [Int.mul_left_comm,Int.mul_assoc]
  rw [e]
  omega
 ·intro g hg
  rcases List.mem_append.1 hg with hg | hg
  ·exact h7 g hg
  ·rw [List.mem_singleton.1 hg];exact⟨hr0,hr1⟩
 ·intro h0
  right
  rw [hlm] at h0
  rw [List.length_append,List.length_singleton,Nat.add_sub_cancel,List.getD_eq_getElem?_getD,List.getElem?_append_right zL,Nat.sub_self]
  simp
  omega
 ·rw [zdw hown];simp
 ·have:=b1.size;have:=hg2.size;simp at this;have:=h10;have:=hg1.size;omega
 ·rw [zfb]
  have:=Int.mul_nonneg (show 0≤gp gs.length from by have:=zbr gs.length;omega) hr0
  omega
theorem zbG (w:World)(ao:Option Addr)(cap:Nat)(zs:List Int)(n:Nat)(hn:zs.length=n)(h:Lim w (.slice ao n cap) zs):
  Calls Tryz.prog 124 #[.slice ao n cap] w fun e w'=>TrimPost w ao cap zs e w':=by
 subst hn;exact zgE w ao cap zs h
def GrpPost (w:World)(zs:List Int)(e:Ending)(w':World):Prop:=
 ∃ v gs,e=.returned v∧w'.ownsRow (w.heap.size+1) 3 1 v gs.length (gs.map (Value.int .i64))∧Below w.heap.size w w'∧lv zs=gv gs∧(∀ g∈gs,0≤g∧g<1000000000)∧(gs.length=0∨gs.getD (gs.length-1) 0≠0)∧gs.length≤2*zs.length
theorem Tryz.infoInt:(Tryz.prog.info? 3).map (fun i=>(i.zero,i.size,i.bytes))=some (some (.int .i64 0),1,8):=by kernel_rfl
theorem zhZ (w:World)(v:Value)(zs:List Int)(h:Lim w v zs)(hn:Nrm zs):
  Calls Tryz.prog 117 #[v] w fun e w'=>GrpPost w zs e w':=by
 have HL:=hide h
 obtain⟨ao,cap,rfl,hcap,hlen,hlb,hc⟩:=h
 clear hc
 obtain⟨i0,hi,hz0,hz1,hz2⟩:=info_parts Tryz.infoInt
 go_enter Tryz.func117,Tryz.ntmps117
 go_wp2_with fail
 refine(zbT _ _ zs HL.out).mono ?_
 rintro e w1 ⟨rfl,hr1,hb1⟩
 go_wp2
 go_loopw [3,4] (fun g t wr=>∃ gs ys:List Int,t=.slice (some ⟨w.heap.size,0,none⟩) ys.length zs.length∧gs.length≤2*zs.length∧GrpInv w wr zs g gs ys) (fun g _ _=>2*zs.length-lenOf g)
 case atStart=>exact⟨[],zs,rfl,Nat.zero_le _,hr1,hn,Nat.le_refl _,World.ownsRow_nil _ _ _ _,hb1,by simp [gv,gp],by simp,fun _=>.inl rfl,rfl,hr1.1,by simp [gv]⟩
 case round=>
  obtain⟨gs,ys,rfl,hgl,hinv⟩:=hrel
  by_cases hy:ys.length=0
  ·have HF:Hid (GrpPost w zs (.returned u3) wr):=by
    obtain⟨h1,h2,h3,h4,h5,h6,h7,h8,h9,h10,h11⟩:=hinv
    have e0:ys=[]:=List.eq_nil_of_length_eq_zero hy
    subst e0
    exact⟨_,gs,rfl,h4,h5,by simpa [lv] using h6,h7,h8 rfl,hgl⟩
   clear hinv
   go_wp2
   go_ret
   exact HF.out
  ·have hfew:=hinv.few hlb hy
   have hpos:=zbZ hinv.1.2.1 hinv.2.1 hy
   have hyl:=hinv.2.2.1
   have hle9:=hinv.2.2.2.2.2.2.2.2.1
   have hown:=hinv.2.2.2.1
   have hwz:=hinv.2.2.2.2.2.2.2.2.2.1
   go_wp2_with fail
   refine(zeN wr w.heap.size zs.length ys 1000000000 hinv.1 (by omega) (by decide) (by decide)).mono ?_
   rintro e w2 ⟨r,qs,rfl,hr0,hr1',hql,hrow,hg1,hlv⟩
   have hst:=fun v' w3 m hown' hg2 hm hlm hnm=>hinv.step (v':=v') (w2:=w3) (m:=m) hr0 hr1' hql hrow hg1 hlv (by omega) hown' hg2 hm hlm hnm
   have HS:=hide hst
   have hown2:=hown.kept hg1 (.inr (fun e=>by have:=hown.lt _ e;omega))
   have hw2:=hg1.size
   have HR:=hide hrow
   clear hst hinv hrow hg1 hown
   have HLV:=hide hlv;clear hlv
   go_wp2_with (at_builtin;refine wpList_append_lies _ rfl _ _ 38 rfl (w.heap.size+1) 3 i0 (.int .i64 0) 1 8 Tryz.underlying38 hi hz0 hz1 hz2 rfl (by decide) u3 gs.length (gs.map (Value.int .i64)) rfl (hown2.alloc _) ⟨w2.heap.size,0,none⟩ 1 1 [.int .i64 r] rfl rfl ?c1 ?c2 (by decide) ?c3 ?c4 ?c5 (w2.heap.size+1) (by simp) ?_)
   case c1=>exact World.news_of_block (heap_alloc_new w2 _)
   case c2=>intro u hu;simp at hu;subst hu;rfl
   case c3=>unfold maxLen;omega
   case c4=>omega
   case c5=>simp;omega
   intro g cap' w3 hown3 hgrow3 hat3 hlt3
   have hRw3:Row w3 w.heap.size qs:=(HR.out.kept (World.grownBy_alloc w2 _ none) (by simp)).kept hgrow3 (fun e=>by have:=hown2.lt _ e;omega)
   clear hat3
   go_wp2_with fail
   refine(zbG w3 _ zs.length qs ys.length hql (hql ▸ hRw3.lim zs.length (by omega) (by omega))).mono ?_
   rintro e w4 ⟨m,hm,rfl,hlm,hnm,rfl⟩
   have HF:=hide (HS.out _ _ m hown3 hgrow3 hm hlm hnm)
   have hml:(qs.take m).length=m:=by rw [List.length_take];omega
   have hll:=zdw hown3
   clear hown3 hgrow3 hlm hnm HS hRw3 HR hown2
   go_wp2
   go_roundw
   case rel=>exact⟨gs++[r],qs.take m,by rw [hml],by rw [List.length_append,List.length_singleton];omega,HF.out⟩
   case measure=>
    show 2*zs.length-(gs.length+1)<2*zs.length-lenOf u3
    omega
end Go.Proofs.YtdedolkgcdlmeaaGreatDoor
