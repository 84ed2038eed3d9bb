import Derived.Test.YtnkcjkpkphjecaaGreatDoorShift
import Derived.Deep.AppendLies
import Derived.Deep.RegionWith
import Derived.Shelf.Small.Bits
import Derived.Shelf.Small.Wraps
import Derived.Shelf.Strings.BuilderK
import Derived.Shelf.Strconv.Itoa3
import Derived.Test.YtnkcjkpkphjecaaGreatDoorProg
namespace Go.Proofs.YtnkcjkpkphjecaaGreatDoor
open Go.RowKit Limbs
theorem Row.far {w w':World}{g h:Nat}{b:List Int}(hr:Row w h b)(hg:w.grownBy w' (some g))(hne:h≠g):Row w' h b:=by
 obtain⟨h1,h2,h3⟩:=hr
 refine⟨zT h1 hg.size,h2,fun j hj=>?_⟩
 obtain⟨c1,c2⟩:=h3 j hj
 exact⟨(hg.cell_far ⟨h,j,none⟩ h1 (by simp [hne])).trans c1,(hg.frozen_far ⟨h,j,none⟩ h1 (by simp [hne])).trans c2⟩
def seg (zs:List Int)(off k:Nat):Int:=lv ((zs.drop off).take k)
theorem zaz (zs:List Int)(off k:Nat):seg zs off (k+1)=seg zs off k+bp k * zs.getD (off+k) 0:=by
 unfold seg
 rw [zE,zdv]
theorem zdU {zs:List Int}(h:LB zs)(off k:Nat):0≤seg zs off k:=zbm (zaZ h off) k
theorem zbW {zs:List Int}(h:LB zs)(off k:Nat):seg zs off k < bp k:=zcw (zaZ h off) k
theorem zdV (zs:List Int)(off k:Nat)(z:Int):seg (zs.set (off+k) z) off k=seg zs off k:=by
 unfold seg
 rw [List.drop_set,if_neg (by omega),Nat.add_sub_cancel_left,zau _ _ _ _ zL]
structure Only (zs ys:List Int)(off k:Nat):Prop where
 len:ys.length=zs.length
 low:ys.take off=zs.take off
 high:ys.drop (off+k)=zs.drop (off+k)
theorem Only.refl (zs:List Int)(off k:Nat):Only zs zs off k:=⟨rfl,rfl,rfl⟩
theorem Only.step {zs ys:List Int}{off k:Nat}(h:Only zs ys off k)(z:Int):Only zs (ys.set (off+k) z) off (k+1) where
 len:=by rw [List.length_set];exact h.len
 low:=by rw [zau _ _ _ _ (by omega)];exact h.low
 high:=by
  rw [zbE _ _ _ _ (by omega)]
  have:=congrArg (List.drop 1) h.high
  rwa [List.drop_drop,List.drop_drop] at this
theorem Only.at {zs ys:List Int}{off k:Nat}(h:Only zs ys off k)(i:Nat)(hi:off+k≤i):ys.getD i 0=zs.getD i 0:=by
 have e:=congrArg (fun l=>l.getD (i - (off+k)) 0) h.high
 simp only [zdv] at e
 rwa [show off+k+(i - (off+k))=i by omega] at e
theorem Only.mono {zs ys:List Int}{off k:Nat}(h:Only zs ys off k){m:Nat}(hm:k≤m):Only zs ys off m where
 len:=h.len
 low:=h.low
 high:=by
  have:=congrArg (List.drop (m - k)) h.high
  rwa [List.drop_drop,List.drop_drop,show off+k+(m - k)=off+m by omega] at this
theorem Only.trans {zs ys xs:List Int}{off k:Nat}(h:Only zs ys off k)(g:Only ys xs off k):Only zs xs off k:=⟨g.len.trans h.len,g.low.trans h.low,g.high.trans h.high⟩
structure Part (w w':World)(g:Nat)(zs ys:List Int)(off k:Nat):Prop where
 row:Row w' g ys
 grown:w.grownBy w' (some g)
 only:Only zs ys off k
theorem Part.refl {w:World}{g:Nat}{zs:List Int}(h:Row w g zs)(off k:Nat):Part w w g zs zs off k:=⟨h,World.grownBy.refl _ _,Only.refl _ _ _⟩
theorem Part.step {w wr:World}{g:Nat}{zs ys:List Int}{off k:Nat}(h:Part w wr g zs ys off k)(hk:off+k < zs.length){z:Int}(hz:0≤z∧z < 4294967296):
  Part w (wr.setCell ⟨g,off+k,none⟩ (.int .u32 z)) g zs (ys.set (off+k) z) off (k+1):=
 ⟨h.row.store (by rw [h.only.len];exact hk) hz,zdA h.grown _ _,h.only.step z⟩
theorem Part.mono {w wr:World}{g:Nat}{zs ys:List Int}{off k m:Nat}(h:Part w wr g zs ys off k)(hm:k≤m):Part w wr g zs ys off m:=⟨h.row,h.grown,h.only.mono hm⟩
theorem Part.trans {w w1 w2:World}{g:Nat}{zs ys xs:List Int}{off k:Nat}(h:Part w w1 g zs ys off k)(q:Part w1 w2 g ys xs off k):Part w w2 g zs xs off k:=⟨q.row,h.grown.trans q.grown,h.only.trans q.only⟩
theorem Part.drewN {w wr:World}{g:Nat}{zs ys:List Int}{off k:Nat}(h:Part w wr g zs ys off k)(n:Nat):Part w (wr.drewN n) g zs ys off k:=⟨h.row.drewN n,zdz h.grown n,h.only⟩
theorem zkz {zs ys:List Int}{off k:Nat}{b:List Int}{T cy X s z:Int}(h:seg ys off k+T * lv (b.take k)=seg zs off k+bp k * cy)(hl:off+k < ys.length)
  (hX:X=cy+T * b.getD k 0) (hz:z=zs.getD (off+k) 0 - X % 4294967296+4294967296 * s):
  seg (ys.set (off+k) z) off (k+1)+T * lv (b.take (k+1))=seg zs off (k+1)+bp (k+1) *(X / 4294967296+s):=by
 rw [zaz,zaz,zdV,zE,zJ _ _ _ _ hl,if_pos rfl]
 have e1:bp (k+1) *(X / 4294967296+s)=bp k *(4294967296 *(X / 4294967296)+4294967296 * s):=by simp only [bp];rw [Int.mul_comm 4294967296 (bp k),Int.mul_assoc,Int.mul_add]
 have e2:bp k * z=bp k *(zs.getD (off+k) 0)+bp k *(4294967296 * s) - bp k *(X % 4294967296):=by rw [hz,← Int.mul_add,← Int.mul_sub];congr 1;omega
 have e3:bp k * X=bp k * cy+T *(bp k * b.getD k 0):=by rw [hX,Int.mul_add,Int.mul_left_comm]
 have e4:bp k *(X % 4294967296+4294967296 *(X / 4294967296))=bp k * X:=by rw [Int.emod_add_mul_ediv]
 rw [Int.mul_add] at e4
 rw [e1,Int.mul_add,Int.mul_add]
 omega
theorem zkx {zs ys:List Int}{off:Nat}{b:List Int}{T cy s z:Int}(h:seg ys off b.length+T * lv (b.take b.length)=seg zs off b.length+bp b.length * cy)(hl:off+b.length < ys.length)
  (hz:z=zs.getD (off+b.length) 0 - cy+4294967296 * s):
  seg (ys.set (off+b.length) z) off (b.length+1)+T * lv b=seg zs off (b.length+1)+bp (b.length+1) * s:=by
 rw [List.take_length] at h
 rw [zaz,zaz,zdV,zJ _ _ _ _ hl,if_pos rfl]
 have e1:bp (b.length+1) * s=bp b.length *(4294967296 * s):=by simp only [bp];rw [Int.mul_comm 4294967296 (bp b.length),Int.mul_assoc]
 have e2:bp b.length * z=bp b.length *(zs.getD (off+b.length) 0)+bp b.length *(4294967296 * s) - bp b.length * cy:=by rw [hz,← Int.mul_add,← Int.mul_sub];congr 1;omega
 rw [e1]
 omega
def TakePost (w:World)(g:Nat)(zs:List Int)(off:Nat)(b:List Int)(T:Int)(e:Ending)(w':World):Prop:=
 ∃(s:Bool) (ys:List Int),e=.returned (.bool s)∧Part w w' g zs ys off (b.length+1) ∧
  seg ys off (b.length+1)+T * lv b=seg zs off (b.length+1)+(if s=true then bp (b.length+1) else 0)
set_option maxRecDepth 100000 in
set_option maxHeartbeats 800000 in
theorem zkw (w:World)(g h cap bcap off:Nat)(zs b:List Int)(T:Int)(hr:Row w g zs)(hb:Row w h b)(hne:h≠g)(hoff:off+b.length+1≤zs.length)(hl:zs.length≤1000000)(hT:0≤T∧T < 4294967296):
  Calls Tryz.prog 102 #[.slice (some ⟨g,off,none⟩) (b.length+1) cap,.slice (some ⟨h,0,none⟩) b.length bcap,.int .u64 T] w fun e w'=>TakePost w g zs off b T e w':=by
 have HB:=hide hb
 have HR:=hide hr
 have hlb:=hr.2.1
 have hblb:=hb.2.1
 clear hr hb
 go_enter Tryz.func102,Tryz.ntmps102
 go_wp2
 go_loopw [7,13] (fun c i wr=>∃(k:Nat) (cy:Int) (ys:List Int),k≤b.length∧i=.int .i64 k∧c=.int .u64 cy∧0≤cy∧cy < 4294967296∧Part w wr g zs ys off k∧Hid (seg ys off k+T * lv (b.take k)=seg zs off k+bp k * cy)) (fun _ i _=>b.length - (intOf i).toNat)
 case atStart=>exact⟨0,0,zs,Nat.zero_le _,rfl,rfl,by decide,by decide,Part.refl HR.out off 0,by show _=_;simp [seg,lv]⟩
 case round=>
  obtain⟨k,cy,ys,hk,rfl,rfl,hc0,hc1,hp,HV⟩:=hrel
  by_cases hlt:k < b.length
  ·have hyl:off+k < ys.length:=by rw [hp.only.len];omega
   obtain⟨hcell,hfr⟩:=hp.row.2.2 (off+k) hyl
   rw [hp.only.at (off+k) zL] at hcell
   obtain⟨hcb,-⟩:=(HB.out.far hp.grown hne).2.2 k hlt
   have hz:=hlb (off+k)
   have hy:=hblb k
   have hpr:=zdM hT hy
   have hst:=fun z hz=>hp.step (z:=z) (show off+k < zs.length by omega) hz
   have hv:=fun X s z hX hz=>zkz (X:=X) (s:=s) (z:=z) (T:=T) HV.out hyl hX hz
   generalize zs.getD (off+k) 0=a at *
   generalize b.getD k 0=y at *
   generalize hXe:cy+T * y=X at *
   have hX0:0≤X:=by omega
   have hX1:X≤18446744069414584320:=by omega
   by_cases hs:a < X % 4294967296
   ·have HS:=hide (hst ((a - X) % 4294967296) (by omega))
    have HV':=hide (hv X 1 ((a - X) % 4294967296) rfl (by omega))
    clear hst hv
    go_wp2
    go_roundw
    case rel=>exact⟨k+1,X / 4294967296+1,_,by omega,by go_num,rfl,by omega,by omega,HS.out,HV'.out⟩
    case measure=>simp [intOf];omega
   ·have HS:=hide (hst (a - X % 4294967296) (by omega))
    have HV':=hide (hv X 0 (a - X % 4294967296) rfl (by omega))
    rw [Int.add_zero] at HV'
    clear hst hv
    go_wp2
    go_roundw
    case rel=>exact⟨k+1,X / 4294967296,_,by omega,by go_num,rfl,by omega,by omega,HS.out,HV'.out⟩
    case measure=>simp [intOf];omega
  ·obtain rfl:k=b.length:=by omega
   have hyl:off+b.length < ys.length:=by rw [hp.only.len];omega
   obtain⟨hcell,hfr⟩:=hp.row.2.2 (off+b.length) hyl
   rw [hp.only.at (off+b.length) zL] at hcell
   have hz:=hlb (off+b.length)
   have hst:=fun z hz=>hp.step (z:=z) (show off+b.length < zs.length by omega) hz
   have hv:=fun s z hz=>zkx (s:=s) (z:=z) (T:=T) HV.out hyl hz
   generalize zs.getD (off+b.length) 0=a at *
   by_cases hs:a < cy
   ·have HS:=hide (hst ((a - cy) % 4294967296) (by omega))
    have HV':=hide (hv 1 ((a - cy) % 4294967296) (by omega))
    rw [Int.mul_one] at HV'
    clear hst hv
    have hd:decide (a < cy)=true:=decide_eq_true hs
    go_wp2
    go_ret
    exact⟨true,_,rfl,HS.out,by rw [if_pos rfl];exact HV'.out⟩
   ·have HS:=hide (hst (a - cy) (by omega))
    have HV':=hide (hv 0 (a - cy) (by omega))
    rw [Int.mul_zero] at HV'
    clear hst hv
    have hd:decide (a < cy)=false:=decide_eq_false hs
    go_wp2
    go_ret
    exact⟨false,_,rfl,HS.out,HV'.out⟩
theorem ziw {zs ys:List Int}{off k:Nat}{b:List Int}{cy X:Int}(h:seg ys off k+bp k * cy=seg zs off k+lv (b.take k))(hl:off+k < ys.length)
  (hX:X=zs.getD (off+k) 0+b.getD k 0+cy):
  seg (ys.set (off+k) (X % 4294967296)) off (k+1)+bp (k+1) *(X / 4294967296)=seg zs off (k+1)+lv (b.take (k+1)):=by
 rw [zaz,zaz,zdV,zE,zJ _ _ _ _ hl,if_pos rfl]
 have e1:bp (k+1) *(X / 4294967296)=bp k *(4294967296 *(X / 4294967296)):=by simp only [bp];rw [Int.mul_comm 4294967296 (bp k),Int.mul_assoc]
 have e3:bp k * X=bp k * zs.getD (off+k) 0+bp k * b.getD k 0+bp k * cy:=by rw [hX,Int.mul_add,Int.mul_add]
 have e4:bp k *(X % 4294967296+4294967296 *(X / 4294967296))=bp k * X:=by rw [Int.emod_add_mul_ediv]
 rw [Int.mul_add] at e4
 rw [e1]
 omega
def GivePost (w:World)(g:Nat)(zs:List Int)(off:Nat)(b:List Int)(e:Ending)(w':World):Prop:=
 ∃(c:Int) (ys:List Int),e=.returned (.tuple #[])∧0≤c∧c≤1∧Part w w' g zs ys off (b.length+1) ∧
  seg ys off (b.length+1)+bp (b.length+1) * c=seg zs off (b.length+1)+lv b
set_option maxRecDepth 100000 in
set_option maxHeartbeats 800000 in
theorem ziv (w:World)(g h cap bcap off:Nat)(zs b:List Int)(hr:Row w g zs)(hb:Row w h b)(hbc:b.length≤bcap)(hne:h≠g)(hoff:off+b.length+1≤zs.length)(hl:zs.length≤1000000):
  Calls Tryz.prog 103 #[.slice (some ⟨g,off,none⟩) (b.length+1) cap,.slice (some ⟨h,0,none⟩) b.length bcap] w fun e w'=>GivePost w g zs off b e w':=by
 have HB:=hide hb
 have HR:=hide hr
 have hlb:=hr.2.1
 have hblb:=hb.2.1
 clear hr hb
 go_enter Tryz.func103,Tryz.ntmps103
 go_wp2
 go_loopw [4,8] (fun c i wr=>∃(k:Nat) (cy:Int) (ys:List Int),k≤b.length+1∧i=.int .i64 k∧c=.int .u32 cy∧0≤cy∧cy≤1∧Part w wr g zs ys off k∧Hid (seg ys off k+bp k * cy=seg zs off k+lv (b.take k))) (fun _ i _=>b.length+1 - (intOf i).toNat)
 case atStart=>exact⟨0,0,zs,Nat.zero_le _,rfl,rfl,by decide,by decide,Part.refl HR.out off 0,by show _=_;simp [seg,lv]⟩
 case round=>
  obtain⟨k,cy,ys,hk,rfl,rfl,hc0,hc1,hp,HV⟩:=hrel
  by_cases hlt:k < b.length+1
  ·have hyl:off+k < ys.length:=by rw [hp.only.len];omega
   obtain⟨hcell,hfr⟩:=hp.row.2.2 (off+k) hyl
   rw [hp.only.at (off+k) zL] at hcell
   have hlim:=(HB.out.far hp.grown hne).lim bcap hbc (by omega)
   have hlb':=fun W (hW:Lim W (.slice (some ⟨h,0,none⟩) b.length bcap) b)=>zbN W (.slice (some ⟨h,0,none⟩) b.length bcap) b k hW (by omega) (by omega)
   rw [Int.toNat_natCast] at hlb'
   have hz:=hlb (off+k)
   have hy:=hblb k
   have hst:=fun z hz=>hp.step (z:=z) (show off+k < zs.length by omega) hz
   have hv:=fun X hX=>ziw (X:=X) HV.out hyl hX
   generalize zs.getD (off+k) 0=a at *
   generalize b.getD k 0=y at *
   have HS:=hide (hst ((a+y+cy) % 4294967296) (by omega))
   have HV':=hide (hv (a+y+cy) rfl)
   clear hst hv
   go_wp2
   have hq0:0≤(a+y+cy) / 4294967296:=by omega
   have hq1:(a+y+cy) / 4294967296≤1:=by omega
   go_region_with (first |(go_at_call 77;refine(hlb' _ (by exact hlim)).mono ?_;rintro e w' ⟨rfl,rfl⟩) |(go_at_call 76;refine(add32 a y cy _ hz hy ⟨hc0,hc1⟩).mono ?_;rintro e w' ⟨rfl,rfl⟩))
   all_goals
    go_wp2
    go_roundw
    case rel=>exact⟨k+1,_,_,by omega,by go_num,rfl,hq0,hq1,HS.out.drewN _,HV'.out⟩
    case measure=>simp [intOf];omega
  ·obtain rfl:k=b.length+1:=by omega
   rw [zaj b (by omega)] at HV
   go_wp2
   go_end0
   exact⟨cy,ys,rfl,hc0,hc1,hp,HV.out⟩
end Go.Proofs.YtnkcjkpkphjecaaGreatDoor
/- One step of a division of limbs. -/
namespace Go.Proofs.YtnkcjkpkphjecaaGreatDoor
open Go.RowKit Limbs
structure Tops (A V p la lb a0 a1 a2 hi nx:Int):Prop where
 ea:A=la+p *(a2+4294967296 *(a0 * 4294967296+a1))
 ev:V=lb+p *(nx+4294967296 * hi)
 p0:0 < p
 la0:0≤la
 la1:la < p
 lb0:0≤lb
 lb1:lb < p
 ra0:0≤a0∧a0 < 4294967296
 ra1:0≤a1∧a1 < 4294967296
 ra2:0≤a2∧a2 < 4294967296
 rhi:1≤hi∧hi < 4294967296
 rnx:0≤nx∧nx < 4294967296
theorem Tops.vpos {A V p la lb a0 a1 a2 hi nx:Int}(h:Tops A V p la lb a0 a1 a2 hi nx):4294967296 * p≤V:=by
 obtain⟨ea,ev,p0,la0,la1,lb0,lb1,ra0,ra1,ra2,rhi,rnx⟩:=h
 have:p * 4294967296≤p *(nx+4294967296 * hi):=Int.mul_le_mul_of_nonneg_left (by omega) (by omega)
 omega
theorem Tops.first {A V p la lb a0 a1 a2 hi nx:Int}(h:Tops A V p la lb a0 a1 a2 hi nx)(hlt:A < V * 4294967296):a0≤hi:=by
 obtain⟨ea,ev,p0,la0,la1,lb0,lb1,ra0,ra1,ra2,rhi,rnx⟩:=h
 have h1:p *(a2+4294967296 *(a0 * 4294967296+a1)) < p *((nx+4294967296 * hi+1) * 4294967296):=by
  have e:p *((nx+4294967296 * hi+1) * 4294967296)=(p *(nx+4294967296 * hi)+p) * 4294967296:=by rw [← Int.mul_assoc,Int.mul_add p _ 1,Int.mul_one]
  rw [e]
  generalize p *(nx+4294967296 * hi)=X at *
  generalize p *(a2+4294967296 *(a0 * 4294967296+a1))=Y at *
  omega
 have h2:=Int.lt_of_mul_lt_mul_left h1 (by omega)
 omega
theorem Tops.above {A V p la lb a0 a1 a2 hi nx:Int}(h:Tops A V p la lb a0 a1 a2 hi nx){G:Int}(hG:0≤G)(hle:a2+4294967296 *(a0 * 4294967296+a1)+1≤G *(nx+4294967296 * hi)):A < G * V:=by
 obtain⟨ea,ev,p0,la0,la1,lb0,lb1,ra0,ra1,ra2,rhi,rnx⟩:=h
 have h1:p *(a2+4294967296 *(a0 * 4294967296+a1)+1)≤p *(G *(nx+4294967296 * hi)):=Int.mul_le_mul_of_nonneg_left hle (by omega)
 have h2:0≤G * lb:=Int.mul_nonneg hG lb0
 have e:G * V=G * lb+p *(G *(nx+4294967296 * hi)):=by rw [ev,Int.mul_add,Int.mul_left_comm]
 rw [Int.mul_add,Int.mul_one] at h1
 omega
theorem Tops.start {A V p la lb a0 a1 a2 hi nx:Int}(h:Tops A V p la lb a0 a1 a2 hi nx):A < ((a0 * 4294967296+a1) / hi+1) * V:=by
 have h':=h
 obtain⟨ea,ev,p0,la0,la1,lb0,lb1,ra0,ra1,ra2,rhi,rnx⟩:=h'
 have q0:0≤(a0 * 4294967296+a1) / hi:=Int.ediv_nonneg (by omega) (by omega)
 have d:=Int.mul_ediv_add_emod (a0 * 4294967296+a1) hi
 have m1:=Int.emod_lt_of_pos (a0 * 4294967296+a1) (show 0 < hi by omega)
 refine h.above (by omega) ?_
 generalize (a0 * 4294967296+a1) / hi=q at *
 have e:(q+1) *(nx+4294967296 * hi)=(q+1) * nx+4294967296 *(hi * q+hi):=by rw [Int.mul_add,Int.mul_left_comm (q+1),Int.mul_comm (q+1) hi,Int.mul_add hi,Int.mul_one]
 have n0:0≤(q+1) * nx:=Int.mul_nonneg (by omega) rnx.1
 rw [e]
 generalize hi * q=z at *
 omega
theorem Tops.less {A V p la lb a0 a1 a2 hi nx:Int}(h:Tops A V p la lb a0 a1 a2 hi nx){G R:Int}(hG:0≤G)(hR:G * hi+R=a0 * 4294967296+a1)(hgt:R * 4294967296+a2 < G * nx):A < G * V:=by
 refine h.above hG ?_
 have e:G *(nx+4294967296 * hi)=G * nx+4294967296 *(G * hi):=by rw [Int.mul_add,Int.mul_left_comm]
 rw [e,← hR]
 omega
theorem Tops.stop {A V p la lb a0 a1 a2 hi nx:Int}(h:Tops A V p la lb a0 a1 a2 hi nx){G R:Int}(hG:0≤G∧G < 4294967296)(hR:G * hi+R=a0 * 4294967296+a1)(hle:G * nx≤R * 4294967296+a2):G * V < A+V:=by
 have hv:=h.vpos
 obtain⟨ea,ev,p0,la0,la1,lb0,lb1,ra0,ra1,ra2,rhi,rnx⟩:=h
 have e:G *(nx+4294967296 * hi)=G * nx+4294967296 *(G * hi):=by rw [Int.mul_add,Int.mul_left_comm]
 have h1:p *(G *(nx+4294967296 * hi))≤p *(a2+4294967296 *(a0 * 4294967296+a1)):=Int.mul_le_mul_of_nonneg_left (by rw [e,← hR];omega) (by omega)
 have e2:G * V=G * lb+p *(G *(nx+4294967296 * hi)):=by rw [ev,Int.mul_add,Int.mul_left_comm]
 have h2:G * lb≤4294967295 * lb:=Int.mul_le_mul_of_nonneg_right (by omega) lb0
 omega
theorem Tops.stop_far {A V p la lb a0 a1 a2 hi nx:Int}(h:Tops A V p la lb a0 a1 a2 hi nx)(hlt:A < V * 4294967296){G R:Int}(hG:0≤G)(hR:G * hi+R=a0 * 4294967296+a1)(hfar:4294967296≤R):G < 4294967296∧G * nx≤R * 4294967296+a2:=by
 have hf:=h.first hlt
 obtain⟨ea,ev,p0,la0,la1,lb0,lb1,ra0,ra1,ra2,rhi,rnx⟩:=h
 have hg:G < 4294967296:=by
  rcases Int.lt_or_le G 4294967296 with h | h
  ·exact h
  ·have:4294967296 * hi≤G * hi:=Int.mul_le_mul_of_nonneg_right h (by omega)
   omega
 have h1:G * nx≤4294967295 * 4294967295:=Int.mul_le_mul (by omega) (by omega) rnx.1 (by decide)
 exact⟨hg,by omega⟩
theorem zkS {zs b:List Int}{off m:Nat}(hz:LB zs)(hb:LB b)(hm:b.length=m+2)(ht:b.getD (m+1) 0≠0):
  Tops (seg zs off (b.length+1)) (lv b) (bp m) (seg zs off m) (lv (b.take m)) (zs.getD (off+(m+2)) 0) (zs.getD (off+(m+1)) 0) (zs.getD (off+m) 0) (b.getD (m+1) 0) (b.getD m 0) where
 ea:=by
  rw [hm,zaz,zaz,zaz]
  simp only [bp,Int.mul_add]
  have e1:4294967296 *(4294967296 * bp m) * zs.getD (off+(m+2)) 0=bp m *(4294967296 *(zs.getD (off+(m+2)) 0 * 4294967296)):=by ac_rfl
  have e2:4294967296 * bp m * zs.getD (off+(m+1)) 0=bp m *(4294967296 * zs.getD (off+(m+1)) 0):=by ac_rfl
  rw [e1,e2]
  omega
 ev:=by
  have e:lv b=lv (b.take (m+2)):=by rw [zaj b (by omega)]
  rw [e,zE,zE]
  simp only [bp,Int.mul_add]
  have e2:4294967296 * bp m * b.getD (m+1) 0=bp m *(4294967296 * b.getD (m+1) 0):=by ac_rfl
  rw [e2]
  omega
 p0:=zC m
 la0:=zdU hz off m
 la1:=zbW hz off m
 lb0:=zbm hb m
 lb1:=zcw hb m
 ra0:=hz _
 ra1:=hz _
 ra2:=hz _
 rhi:=by have:=hb (m+1);omega
 rnx:=hb _
end Go.Proofs.YtnkcjkpkphjecaaGreatDoor
/- One step of a division of limbs, walked. -/
namespace Go.Proofs.YtnkcjkpkphjecaaGreatDoor
open Go.RowKit Limbs
def StepPost (w:World)(g:Nat)(zs:List Int)(off:Nat)(b:List Int)(e:Ending)(w':World):Prop:=
 ∃(q:Int) (ys:List Int),e=.returned (.int .u32 q)∧0≤q∧q < 4294967296∧Part w w' g zs ys off (b.length+1) ∧
  seg zs off (b.length+1)=q * lv b+seg ys off (b.length+1)∧seg ys off (b.length+1) < lv b
theorem zjO {G nx:Int}(hG:0≤G∧G < 4294967296)(hn:0≤nx∧nx < 4294967296):0≤G * nx∧G * nx < 18446744073709551616:=by
 have:=zdM hG hn
 omega
theorem Part.of_drewN {w w':World}{n g:Nat}{zs ys:List Int}{off k:Nat}(h:Part (w.drewN n) w' g zs ys off k):Part w w' g zs ys off k:=
 ⟨h.row,(zdz (World.grownBy.refl w (some g)) n).trans h.grown,h.only⟩
theorem zgq {A V G S:Int}(hv:S+G * V=A)(hu:A < (G+1) * V):A=G * V+S∧S < V:=by
 rw [Int.add_mul,Int.one_mul] at hu
 omega
theorem zgp {A V G S P S2 c:Int}(hv:S+G * V=A+P)(hS:S < P)(hx:G * V < A+V)(hv2:S2+P * c=S+V)(hS2:S2 < P)(hc0:0≤c)(hc1:c≤1)(hA:0≤A)(hV:0 < V∧V < P):
  1≤G∧A=(G - 1) * V+S2∧S2 < V:=by
 have hg:1≤G:=by
  rcases Int.lt_or_le G 1 with h | h
  ·have:G * V≤0 * V:=Int.mul_le_mul_of_nonneg_right (by omega) (by omega)
   omega
  ·exact h
 rw [Int.sub_mul,Int.one_mul]
 rcases(by omega:c=0∨c=1) with rfl | rfl
 ·omega
 ·rw [Int.mul_one] at hv2
  exact⟨hg,by omega,by omega⟩
set_option maxRecDepth 100000 in
set_option maxHeartbeats 1600000 in
theorem zhX (w:World)(g h cap bcap off m:Nat)(zs b:List Int)(hr:Row w g zs)(hb:Row w h b)(hbc:b.length≤bcap)(hne:h≠g)(hoff:off+b.length+1≤zs.length)(hl:zs.length≤1000000)
  (hm:b.length=m+2) (ht:b.getD (m+1) 0≠0) (hlt:seg zs off (b.length+1) < lv b * 4294967296):
  Calls Tryz.prog 74 #[.slice (some ⟨g,off,none⟩) (b.length+1) cap,.slice (some ⟨h,0,none⟩) b.length bcap] w fun e w'=>StepPost w g zs off b e w':=by
 have HB:=hide hb
 have HR:=hide hr
 have hlb:=hr.2.1
 have hT:=zkS (off:=off) hr.2.1 hb.2.1 hm ht
 obtain⟨c0,-⟩:=hr.2.2 (off+(m+2)) (by omega)
 obtain⟨c1,-⟩:=hr.2.2 (off+(m+1)) (by omega)
 obtain⟨c2,-⟩:=hr.2.2 (off+m) (by omega)
 obtain⟨d1,-⟩:=hb.2.2 (m+1) (by omega)
 obtain⟨d2,-⟩:=hb.2.2 m (by omega)
 clear hr hb ht
 have HM:=hide hm
 have hbl:(b.length:Int)=(m:Int)+2:=by omega
 clear hm
 have htk:=fun(W:World) (G:Int) hr hb hT=>zkw W g h cap bcap off zs b G hr hb hne hoff hl hT
 have hgb:=fun(W:World) (ys:List Int) hr hb hoff hl=>ziv W g h cap bcap off ys b hr hb hbc hne hoff hl
 have HTK:=hide htk
 have HGB:=hide hgb
 clear htk hgb
 generalize zs.getD (off+(m+2)) 0=a0 at *
 generalize zs.getD (off+(m+1)) 0=a1 at *
 generalize zs.getD (off+m) 0=a2 at *
 generalize b.getD (m+1) 0=hi at *
 generalize b.getD m 0=nx at *
 have HT:=hide hT
 have HL:=hide hlt
 have hvp:=hide (show 0 < lv b∧lv b < bp (b.length+1) by
  have h1:=hT.vpos;have h2:=hT.p0;have h3:=zar HB.out.2.1;have h4:bp b.length≤bp (b.length+1):=zac (by omega);omega)
 have hf:=hT.first hlt
 obtain⟨-,-,-,-,-,-,-,ra0,ra1,ra2,rhi,rnx⟩:=hT
 clear hlt
 have hor:=zcG a0 a1 ra0.1 ra0.2 ra1.1 ra1.2
 have hsh:=zcO a0 a1 ra0.1 ra0.2 ra1.1 ra1.2
 have HQ:=hide (HT.out.start)
 have q0:0≤(a0 * 4294967296+a1) / hi:=Int.ediv_nonneg (by omega) (by omega)
 have q1:(a0 * 4294967296+a1) / hi≤a0 * 4294967296+a1:=Int.ediv_le_self _ (by omega)
 have m0:=Int.emod_nonneg (a0 * 4294967296+a1) (show hi≠0 by omega)
 have m1:=Int.emod_lt_of_pos (a0 * 4294967296+a1) (show 0 < hi by omega)
 have hh1:(hi != 0)=true:=by rw [bne_iff_ne];omega
 have hh2:(hi == 0)=false:=by rw [beq_eq_false_iff_ne];omega
 have HD:=hide (show(a0 * 4294967296+a1) / hi * hi+(a0 * 4294967296+a1) % hi=a0 * 4294967296+a1 by rw [Int.mul_comm];exact Int.mul_ediv_add_emod _ _)
 go_enter Tryz.func74,Tryz.ntmps74
 go_wp2
 go_quiet (fail)
 go_wp2
 go_quiet (fail)
 go_wp2
 go_quiet (fail)
 go_wp2
 go_loopw [9,10] (fun gv rv wr=>∃(G R:Int) (nq:Nat),gv=.int .u64 G∧rv=.int .u64 R∧wr=w.drewN nq∧0≤G∧G < 18446744073709551616∧0≤R∧R < 8589934592∧Hid (G * hi+R=a0 * 4294967296+a1)∧Hid (seg zs off (b.length+1) < (G+1) * lv b)) (fun gv _ _=>(intOf gv).toNat)
 case atStart=>exact⟨_,_,_,rfl,rfl,by rw [World.drewN_drewN,World.drewN_drewN],q0,by omega,m0,by omega,HD,HQ⟩
 case round=>
  obtain⟨G,R,nq,rfl,rfl,rfl,hG0,hG1,hR0,hR1,HE,HU⟩:=hrel
  by_cases hR:R < 4294967296
  ·have hor2:=zcG R a2 hR0 hR ra2.1 ra2.2
   have hsh2:=zcO R a2 hR0 hR ra2.1 ra2.2
   by_cases hG:G < 4294967296
   ·have hpr:=zjO ⟨hG0,hG⟩ rnx
    by_cases hgt:R * 4294967296+a2 < G * nx
    ·have HU':=hide (HT.out.less hG0 HE.out hgt)
     have hg1:1≤G:=by
      rcases Int.lt_or_le G 1 with h | h
      ·have:G=0:=by omega
       subst this
       omega
      ·exact h
     have HE':=hide (show(G - 1) * hi+(R+hi)=a0 * 4294967296+a1 by have:=HE.out;rw [Int.sub_mul,Int.one_mul];omega)
     go_wp2
     go_roundw
     case rel=>exact⟨_,_,_,_,_,_,_,_,_,_,_,_,_,_,_,_,_,_,_,_,_,_,_,_,_,_,_,_,_,_,⟨G - 1,R+hi,nq,rfl,rfl,rfl,by omega,by omega,by omega,by omega,HE',by rw [Int.sub_add_cancel];exact HU'⟩,rfl⟩
     case measure=>show(G - 1).toNat < G.toNat;omega
    ·have HX:=hide (HT.out.stop ⟨hG0,hG⟩ HE.out (by omega))
     go_wp2_with fail
     refine(HTK.out _ G (HR.out.drewN nq) (HB.out.drewN nq) ⟨hG0,hG⟩).mono ?_
     rintro e w1 ⟨s,ys,rfl,hp,hv⟩
     replace hp:=hp.of_drewN
     have hS:=zbW hp.row.2.1 off (b.length+1)
     cases s
     ·have HF:=hide (zgq (G:=G) (V:=lv b) (by simpa using hv) HU.out)
      clear hv hS
      go_wp2
      go_ret
      exact⟨G,ys,rfl,hG0,hG,hp,HF.out.1,HF.out.2⟩
     ·rw [if_pos rfl] at hv
      have hlen:=hp.only.len
      go_wp2_with fail
      refine(HGB.out w1 ys hp.row (HB.out.far hp.grown hne) (by rw [hlen];exact hoff) (by rw [hlen];exact hl)).mono ?_
      rintro e w2 ⟨c,xs,rfl,hc0,hc1,hp2,hv2⟩
      replace hp:=hp.trans hp2
      have hS2:=zbW hp.row.2.1 off (b.length+1)
      have hA:=zdU hlb off (b.length+1)
      obtain⟨hg1,hF1,hF2⟩:=zgp hv hS HX.out hv2 hS2 hc0 hc1 hA (hvp.out)
      have HF1:=hide hF1;have HF2:=hide hF2
      clear hv hv2 hS hS2 hA hF1 hF2
      go_wp2
      go_ret
      exact⟨G - 1,xs,rfl,by omega,by omega,hp,HF1.out,HF2.out⟩
   ·have HU':=hide (show seg zs off (b.length+1) < G * lv b by
     have h1:=HL.out
     have h2:=HT.out.vpos
     have h3:=HT.out.p0
     have h4:4294967296 * lv b≤G * lv b:=Int.mul_le_mul_of_nonneg_right (by omega) (by omega)
     omega)
    have HE':=hide (show(G - 1) * hi+(R+hi)=a0 * 4294967296+a1 by have:=HE.out;rw [Int.sub_mul,Int.one_mul];omega)
    go_wp2
    go_roundw
    case rel=>exact⟨⟨nq,rfl⟩,by omega,by omega,by omega,by omega⟩
    case measure=>simp [intOf];omega
  ·have hfar:=HT.out.stop_far HL.out hG0 HE.out (by omega)
   have HX:=hide (HT.out.stop ⟨hG0,hfar.1⟩ HE.out hfar.2)
   go_wp2_with fail
   refine(HTK.out _ G (HR.out.drewN nq) (HB.out.drewN nq) ⟨hG0,hfar.1⟩).mono ?_
   rintro e w1 ⟨s,ys,rfl,hp,hv⟩
   replace hp:=hp.of_drewN
   have hS:=zbW hp.row.2.1 off (b.length+1)
   cases s
   ·have HF:=hide (zgq (G:=G) (V:=lv b) (by simpa using hv) HU.out)
    clear hv hS
    go_wp2
    go_ret
    exact⟨G,ys,rfl,hG0,hfar.1,hp,HF.out.1,HF.out.2⟩
   ·rw [if_pos rfl] at hv
    have hlen:=hp.only.len
    go_wp2_with fail
    refine(HGB.out w1 ys hp.row (HB.out.far hp.grown hne) (by rw [hlen];exact hoff) (by rw [hlen];exact hl)).mono ?_
    rintro e w2 ⟨c,xs,rfl,hc0,hc1,hp2,hv2⟩
    replace hp:=hp.trans hp2
    have hS2:=zbW hp.row.2.1 off (b.length+1)
    have hA:=zdU hlb off (b.length+1)
    obtain⟨hg1,hF1,hF2⟩:=zgp hv hS HX.out hv2 hS2 hc0 hc1 hA (hvp.out)
    have HF1:=hide hF1;have HF2:=hide hF2
    clear hv hv2 hS hS2 hA hF1 hF2
    go_wp2
    go_ret
    exact⟨G - 1,xs,rfl,by omega,by omega,hp,HF1.out,HF2.out⟩
end Go.Proofs.YtnkcjkpkphjecaaGreatDoor
/- Library functions' contracts, laid at this translation: strconv.Itoa, bits.LeadingZeros32, strings.CutPrefix, the Builder's writes and its text. -/
namespace Go.Proofs
open Go.Shelf Go.RowKit Go.Sort
def Tryz.lays171_ren:Go.Shelf.Ren:=⟨fun | 171=>84 | 243=>107 | 246=>119 | 283=>125 | 284=>126 | 285=>127 | 286=>128 | 129=>131 | 317=>130 | 318=>132 | 319=>133 | 320=>134 | 337=>135 | 338=>136 | n=>n,fun | 3=>3 | 9=>9 | 2=>2 | 4=>4 | 171=>174 | 0=>0 | 53=>90 | 37=>136 | 5=>5 | 173=>177 | 212=>181 | 51=>91 | 20=>20 | 213=>182 | 46=>92 | 232=>184 | 233=>185 | n=>n,fun | 17=>2 | 18=>3 | 19=>4 | n=>n⟩
theorem Tryz.lays171:Go.Proofs.Lays.n171 Tryz.prog Tryz.lays171_ren:={
 mixed:=by kernel_rfl
 f129:=Tryz.func131.trans (congrArg some (by kernel_rfl))
 f171:=Tryz.func84.trans (congrArg some (by kernel_rfl))
 f243:=Tryz.func107.trans (congrArg some (by kernel_rfl))
 f246:=Tryz.func119.trans (congrArg some (by kernel_rfl))
 f283:=Tryz.func125.trans (congrArg some (by kernel_rfl))
 f284:=Tryz.func126.trans (congrArg some (by kernel_rfl))
 f285:=Tryz.func127.trans (congrArg some (by kernel_rfl))
 f286:=Tryz.func128.trans (congrArg some (by kernel_rfl))
 f317:=Tryz.func130.trans (congrArg some (by kernel_rfl))
 f318:=Tryz.func132.trans (congrArg some (by kernel_rfl))
 f319:=Tryz.func133.trans (congrArg some (by kernel_rfl))
 f320:=Tryz.func134.trans (congrArg some (by kernel_rfl))
 f337:=Tryz.func135.trans (congrArg some (by kernel_rfl))
 f338:=Tryz.func136.trans (congrArg some (by kernel_rfl))
 t0:=Tryz.underlying0
 a0:=Tryz.isAgg0
 z0:=Tryz.sizeOf0
 v0:=Tryz.zeroValue0
 t2:=Tryz.underlying2
 a2:=Tryz.isAgg2
 z2:=Tryz.sizeOf2
 v2:=Tryz.zeroValue2
 t3:=Tryz.underlying3
 a3:=Tryz.isAgg3
 z3:=Tryz.sizeOf3
 v3:=Tryz.zeroValue3
 t4:=Tryz.underlying4
 a4:=Tryz.isAgg4
 z4:=Tryz.sizeOf4
 v4:=Tryz.zeroValue4
 t5:=Tryz.underlying5
 a5:=Tryz.isAgg5
 z5:=Tryz.sizeOf5
 v5:=Tryz.zeroValue5
 t9:=Tryz.underlying9
 a9:=Tryz.isAgg9
 z9:=Tryz.sizeOf9
 v9:=Tryz.zeroValue9
 t20:=Tryz.underlying20
 a20:=Tryz.isAgg20
 z20:=Tryz.sizeOf20
 v20:=Tryz.zeroValue20
 t37:=Tryz.underlying136
 a37:=Tryz.isAgg136
 z37:=Tryz.sizeOf136
 v37:=Tryz.zeroValue136
 t46:=Tryz.underlying92
 a46:=Tryz.isAgg92
 z46:=Tryz.sizeOf92
 v46:=Tryz.zeroValue92
 t51:=Tryz.underlying91
 a51:=Tryz.isAgg91
 z51:=Tryz.sizeOf91
 v51:=Tryz.zeroValue91
 t53:=Tryz.underlying90
 a53:=Tryz.isAgg90
 z53:=Tryz.sizeOf90
 v53:=Tryz.zeroValue90
 t171:=Tryz.underlying174
 a171:=Tryz.isAgg174
 z171:=Tryz.sizeOf174
 v171:=Tryz.zeroValue174
 t173:=Tryz.underlying177
 a173:=Tryz.isAgg177
 z173:=Tryz.sizeOf177
 v173:=Tryz.zeroValue177
 t212:=Tryz.underlying181
 a212:=Tryz.isAgg181
 z212:=Tryz.sizeOf181
 v212:=Tryz.zeroValue181
 t213:=Tryz.underlying182
 a213:=Tryz.isAgg182
 z213:=Tryz.sizeOf182
 t232:=Tryz.underlying184
 a232:=Tryz.isAgg184
 z232:=Tryz.sizeOf184
 v232:=Tryz.zeroValue184
 t233:=Tryz.underlying185
 a233:=Tryz.isAgg185
 z233:=Tryz.sizeOf185
 v233:=Tryz.zeroValue185
 g17:=by kernel_rfl
 g18:=by kernel_rfl
 g19:=by kernel_rfl }
open Go.RowKit Go.Sort Go.Lib in
theorem Tryz.strconv_Itoa_small (i:Nat)(hi:i < 100)(w:World):
  Calls Tryz.prog 84 #[.int .i64 i] w fun e w'=>e=.returned (.string ⟨(Lib.decDigits i).toArray⟩)∧w'=w:=Any.strconv_Itoa_small Tryz.lays171 i hi w
def Tryz.lays133_ren:Go.Shelf.Ren:=⟨fun | 133=>72 | 128=>101 | n=>n,fun | 51=>91 | 3=>3 | 4=>4 | 46=>92 | 5=>5 | 9=>9 | n=>n,fun | n=>n⟩
theorem Tryz.lays133:Go.Proofs.Lays.n133 Tryz.prog Tryz.lays133_ren:={
 mixed:=by kernel_rfl
 f128:=Tryz.func101.trans (congrArg some (by kernel_rfl))
 f133:=Tryz.func72.trans (congrArg some (by kernel_rfl))
 t3:=Tryz.underlying3
 a3:=Tryz.isAgg3
 z3:=Tryz.sizeOf3
 v3:=Tryz.zeroValue3
 t4:=Tryz.underlying4
 a4:=Tryz.isAgg4
 z4:=Tryz.sizeOf4
 v4:=Tryz.zeroValue4
 t5:=Tryz.underlying5
 a5:=Tryz.isAgg5
 z5:=Tryz.sizeOf5
 v5:=Tryz.zeroValue5
 t9:=Tryz.underlying9
 a9:=Tryz.isAgg9
 z9:=Tryz.sizeOf9
 v9:=Tryz.zeroValue9
 t46:=Tryz.underlying92
 a46:=Tryz.isAgg92
 z46:=Tryz.sizeOf92
 v46:=Tryz.zeroValue92
 t51:=Tryz.underlying91
 a51:=Tryz.isAgg91
 z51:=Tryz.sizeOf91
 v51:=Tryz.zeroValue91 }
theorem Tryz.bits_LeadingZeros32 (x:Int)(w:World)(h0:0≤x)(h1:x≤4294967295):
  Calls Tryz.prog 72 #[.int .u32 x] w fun e w'=>e=.returned (.int .i64 (32 - (Lib.bitLen x.toNat:Int)))∧w'=w:=Any.bits_LeadingZeros32 Tryz.lays133 x w h0 h1
def Tryz.lays169_ren:Go.Shelf.Ren:=⟨fun | 169=>85 | n=>n,fun | 70=>135 | 9=>9 | 0=>0 | 72=>138 | 37=>136 | 127=>158 | 3=>3 | 5=>5 | n=>n,fun | n=>n⟩
theorem Tryz.lays169:Go.Proofs.Lays.n169 Tryz.prog Tryz.lays169_ren:={
 mixed:=by kernel_rfl
 f169:=Tryz.func85.trans (congrArg some (by kernel_rfl))
 t0:=Tryz.underlying0
 a0:=Tryz.isAgg0
 z0:=Tryz.sizeOf0
 v0:=Tryz.zeroValue0
 t3:=Tryz.underlying3
 a3:=Tryz.isAgg3
 z3:=Tryz.sizeOf3
 v3:=Tryz.zeroValue3
 t9:=Tryz.underlying9
 a9:=Tryz.isAgg9
 z9:=Tryz.sizeOf9
 v9:=Tryz.zeroValue9
 t37:=Tryz.underlying136
 a37:=Tryz.isAgg136
 z37:=Tryz.sizeOf136
 v37:=Tryz.zeroValue136
 t70:=Tryz.underlying135
 a70:=Tryz.isAgg135
 z70:=Tryz.sizeOf135
 v70:=Tryz.zeroValue135
 t72:=Tryz.underlying138
 a72:=Tryz.isAgg138
 z72:=Tryz.sizeOf138
 v72:=Tryz.zeroValue138
 t127:=Tryz.underlying158
 a127:=Tryz.isAgg158
 z127:=Tryz.sizeOf158
 v127:=Tryz.zeroValue158 }
theorem Tryz.Builder_Extra_169:Builder.Extra Tryz.prog Tryz.lays169_ren:={
 sizeBuilder:=by kernel_rfl
 liesBuilder:=by kernel_rfl
 t5:=Tryz.underlying5
 a5:=Tryz.isAgg5
 z5:=Tryz.sizeOf5
 v5:=Tryz.zeroValue5
 infoByte:=by kernel_rfl
 cellsByte:=by kernel_rfl
 sizeByte:=by kernel_rfl
 neB5:=by decide }
open Go.RowKit in
theorem Tryz.Builder_String_any_k (B b:Nat)(l:List UInt8)(w:World)(h:Lib.IsBuilderF 138 5 B b (Lib.byteCells l) w)(hBw:B≤w.heap.size):
  Calls Tryz.prog 85 #[.pointer (some ⟨b,0,none⟩)] w fun e w'=>e=.returned (.string ⟨l.toArray⟩)∧(Lib.IsBuilderF 138 5 B b (Lib.byteCells l) w'∧Below B w w'∧Lib.OthersKept 5 (some b) w w'):=Any.Builder_String_any_k Tryz.lays169 Tryz.Builder_Extra_169 B b l w h hBw
def Tryz.lays167_ren:Go.Shelf.Ren:=⟨fun | 167=>82 | 240=>106 | 276=>118 | n=>n,fun | 0=>0 | 3=>3 | 4=>4 | 5=>5 | 9=>9 | 20=>20 | 37=>136 | 70=>135 | 72=>138 | 75=>37 | 80=>143 | 164=>167 | n=>n,fun | n=>n⟩
theorem Tryz.lays167:Go.Proofs.Lays.n167 Tryz.prog Tryz.lays167_ren:={
 mixed:=by kernel_rfl
 f167:=Tryz.func82.trans (congrArg some (by kernel_rfl))
 f240:=Tryz.func106.trans (congrArg some (by kernel_rfl))
 f276:=Tryz.func118.trans (congrArg some (by kernel_rfl))
 t0:=Tryz.underlying0
 a0:=Tryz.isAgg0
 z0:=Tryz.sizeOf0
 v0:=Tryz.zeroValue0
 t4:=Tryz.underlying4
 a4:=Tryz.isAgg4
 z4:=Tryz.sizeOf4
 v4:=Tryz.zeroValue4
 t5:=Tryz.underlying5
 a5:=Tryz.isAgg5
 z5:=Tryz.sizeOf5
 v5:=Tryz.zeroValue5
 t9:=Tryz.underlying9
 a9:=Tryz.isAgg9
 z9:=Tryz.sizeOf9
 v9:=Tryz.zeroValue9
 t20:=Tryz.underlying20
 a20:=Tryz.isAgg20
 z20:=Tryz.sizeOf20
 v20:=Tryz.zeroValue20
 t37:=Tryz.underlying136
 a37:=Tryz.isAgg136
 z37:=Tryz.sizeOf136
 v37:=Tryz.zeroValue136
 t70:=Tryz.underlying135
 a70:=Tryz.isAgg135
 z70:=Tryz.sizeOf135
 v70:=Tryz.zeroValue135
 t72:=Tryz.underlying138
 a72:=Tryz.isAgg138
 z72:=Tryz.sizeOf138
 v72:=Tryz.zeroValue138
 t75:=Tryz.underlying37
 a75:=Tryz.isAgg37
 z75:=Tryz.sizeOf37
 v75:=Tryz.zeroValue37
 t164:=Tryz.underlying167
 a164:=Tryz.isAgg167
 z164:=Tryz.sizeOf167
 v164:=Tryz.zeroValue167 }
theorem Tryz.Builder_Extra_167:Builder.Extra Tryz.prog Tryz.lays167_ren:={
 sizeBuilder:=by kernel_rfl
 liesBuilder:=by kernel_rfl
 t5:=Tryz.underlying5
 a5:=Tryz.isAgg5
 z5:=Tryz.sizeOf5
 v5:=Tryz.zeroValue5
 infoByte:=by kernel_rfl
 cellsByte:=by kernel_rfl
 sizeByte:=by kernel_rfl
 neB5:=by decide }
open Go.RowKit in
theorem Tryz.Builder_WriteByte_k (B b:Nat)(bs:List Value)(c:Int)(w:World)(h:Lib.IsBuilderF 138 5 B b bs w)(hlen:bs.length+1≤140737488355328)(hBw:B≤w.heap.size):
  Calls Tryz.prog 82 #[.pointer (some ⟨b,0,none⟩),.int .u8 c] w fun e w'=>e=.returned .nilIface∧(Lib.BuilderAtF 138 5 B b (.pointer (some ⟨b,0,none⟩)) (bs ++ [.int .u8 c]) w'∧Below B w w'∧Lib.OthersKept 5 (some b) w w'):=Any.Builder_WriteByte_k Tryz.lays167 Tryz.Builder_Extra_167 B b bs c w h hlen hBw
def Tryz.lays166_ren:Go.Shelf.Ren:=⟨fun | 166=>83 | 240=>106 | 276=>118 | n=>n,fun | 0=>0 | 3=>3 | 4=>4 | 5=>5 | 9=>9 | 20=>20 | 37=>136 | 70=>135 | 72=>138 | 75=>37 | 80=>143 | 164=>167 | n=>n,fun | n=>n⟩
theorem Tryz.lays166:Go.Proofs.Lays.n166 Tryz.prog Tryz.lays166_ren:={
 mixed:=by kernel_rfl
 f166:=Tryz.func83.trans (congrArg some (by kernel_rfl))
 f240:=Tryz.func106.trans (congrArg some (by kernel_rfl))
 f276:=Tryz.func118.trans (congrArg some (by kernel_rfl))
 t0:=Tryz.underlying0
 a0:=Tryz.isAgg0
 z0:=Tryz.sizeOf0
 v0:=Tryz.zeroValue0
 t3:=Tryz.underlying3
 a3:=Tryz.isAgg3
 z3:=Tryz.sizeOf3
 v3:=Tryz.zeroValue3
 t4:=Tryz.underlying4
 a4:=Tryz.isAgg4
 z4:=Tryz.sizeOf4
 v4:=Tryz.zeroValue4
 t9:=Tryz.underlying9
 a9:=Tryz.isAgg9
 z9:=Tryz.sizeOf9
 v9:=Tryz.zeroValue9
 t20:=Tryz.underlying20
 a20:=Tryz.isAgg20
 z20:=Tryz.sizeOf20
 v20:=Tryz.zeroValue20
 t37:=Tryz.underlying136
 a37:=Tryz.isAgg136
 z37:=Tryz.sizeOf136
 v37:=Tryz.zeroValue136
 t70:=Tryz.underlying135
 a70:=Tryz.isAgg135
 z70:=Tryz.sizeOf135
 v70:=Tryz.zeroValue135
 t72:=Tryz.underlying138
 a72:=Tryz.isAgg138
 z72:=Tryz.sizeOf138
 v72:=Tryz.zeroValue138
 t75:=Tryz.underlying37
 a75:=Tryz.isAgg37
 z75:=Tryz.sizeOf37
 v75:=Tryz.zeroValue37
 t164:=Tryz.underlying167
 a164:=Tryz.isAgg167
 z164:=Tryz.sizeOf167
 v164:=Tryz.zeroValue167 }
theorem Tryz.Builder_Extra_166:Builder.Extra Tryz.prog Tryz.lays166_ren:={
 sizeBuilder:=by kernel_rfl
 liesBuilder:=by kernel_rfl
 t5:=Tryz.underlying5
 a5:=Tryz.isAgg5
 z5:=Tryz.sizeOf5
 v5:=Tryz.zeroValue5
 infoByte:=by kernel_rfl
 cellsByte:=by kernel_rfl
 sizeByte:=by kernel_rfl
 neB5:=by decide }
open Go.RowKit in
theorem Tryz.Builder_WriteString_k (B b:Nat)(bs:List Value)(s:ByteArray)(w:World)(h:Lib.IsBuilderF 138 5 B b bs w)(hlen:bs.length+s.size≤140737488355328)(hBw:B≤w.heap.size):
  Calls Tryz.prog 83 #[.pointer (some ⟨b,0,none⟩),.string s] w fun e w'=>e=.returned (.tuple #[.int .i64 s.size,.nilIface])∧(Lib.BuilderAtF 138 5 B b (.pointer (some ⟨b,0,none⟩)) (bs ++ Lib.strCells s) w'∧Below B w w'∧Lib.OthersKept 5 (some b) w w'):=Any.Builder_WriteString_k Tryz.lays166 Tryz.Builder_Extra_166 B b bs s w h hlen hBw
end Go.Proofs
/- Long division: the arithmetic. -/
namespace Go.Proofs.YtnkcjkpkphjecaaGreatDoor
open Go.RowKit Limbs
theorem zkZ (L:Nat):((2 ^ L:Nat):Int)=(2:Int) ^ L:=by norm_cast
set_option maxRecDepth 10000 in
theorem zjb (x:Int)(h0:1≤x)(h1:x < 4294967296):∃(s:Nat) (P Q:Int),Pow s P Q∧x * P < 4294967296∧∀ w,Calls Tryz.prog 72 #[.int .u32 x] w fun e w'=>e=.returned (.int .i64 (s:Int))∧w'=w:=by
 obtain⟨k,rfl⟩:=Int.eq_ofNat_of_zero_le (show 0≤x by omega)
 obtain⟨b1,-,b3⟩:=Lib.bitLenAux_bounds 64 k (by omega) (by omega)
 have b4:Lib.bitLen k≤32:=Lib.bitLen_le k 32 (by omega) (by omega)
 change 1≤Lib.bitLen k at b1
 change k < 2 ^ Lib.bitLen k at b3
 have hc:=fun w=>Go.Proofs.Tryz.bits_LeadingZeros32 (k:Int) w (by omega) (by omega)
 rw [Int.toNat_natCast] at hc
 generalize Lib.bitLen k=L at *
 obtain⟨P,Q,hP⟩:=zjK (32 - L) (by omega)
 refine⟨32 - L,P,Q,hP,?_,fun w=>?_⟩
 ·have e:((2 ^ L:Nat):Int) * P=4294967296:=by
   have e0:=zkZ L
   rw [← hP.eq,e0,← Int.pow_add,show L+(32 - L)=32 by omega];decide
  rw [← e]
  have hk:(k:Int) < ((2 ^ L:Nat):Int):=Int.ofNat_lt.2 b3
  exact Int.mul_lt_mul_of_pos_right hk (by have:=hP.pos;omega)
 ·have:=hc w
  rwa [show(32:Int) - (L:Int)=((32 - L:Nat):Int) by omega] at this
theorem zkb {zs:List Int}(h:LB zs)(off k:Nat)(hk:off+k≤zs.length):seg zs off k≤lv (zs.drop off):=by
 have e:=zae (zs.drop off) k (by rw [List.length_drop];omega)
 have n0:=zF (zaZ (zaZ h off) k)
 have:0≤bp k * lv ((zs.drop off).drop k):=Int.mul_nonneg (by have:=zC k;omega) n0
 unfold seg
 omega
theorem zi1 {zs:List Int}{at_ n:Nat}{D:Int}(hz:LB zs)(hn:at_+n+1≤zs.length)(hlow:lv (zs.drop (at_+1)) < D):seg zs at_ (n+1) < D * 4294967296:=by
 have h1:=zkb hz at_ (n+1) (by omega)
 rw [zz zs at_ (by omega)] at h1
 simp only [lv] at h1
 have h2:=hz at_
 omega
theorem zfb {zs:List Int}{k n:Nat}{D:Int}(hz:LB zs)(hn:k+n≤zs.length)(hlow:lv (zs.drop k) < D)(hD:D≤bp n):lv (zs.drop (k+n))=0:=by
 have e:=zae (zs.drop k) n (by rw [List.length_drop];omega)
 rw [List.drop_drop] at e
 have n0:=zF (zaZ hz (k+n))
 have t0:=zbm (zaZ hz k) n
 rcases Int.lt_or_le (lv (zs.drop (k+n))) 1 with h | h
 ·omega
 ·have:=zC n
  have:bp n * 1≤bp n * lv (zs.drop (k+n)):=Int.mul_le_mul_of_nonneg_left h (by omega)
  omega
theorem zi3 {zs ys qs:List Int}{k n:Nat}{D q VAL:Int}(hz:LB zs)(hn:k+n+1≤zs.length)(hq:k < qs.length)
  (hval:VAL=D *(bp (k+1) * lv (qs.drop (k+1)))+lv zs) (hlow:lv (zs.drop (k+1)) < D) (hD:D≤bp n)
  (ho:Only zs ys k (n+1)) (hst:seg zs k (n+1)=q * D+seg ys k (n+1)) (hlt:seg ys k (n+1) < D):
  VAL=D *(bp k * lv ((qs.set k q).drop k))+lv ys∧lv (ys.drop k) < D:=by
 have hZ:=zfb hz (by omega) hlow hD
 have e1:=zae zs k (by omega)
 have e2:=zae ys k (by rw [ho.len];omega)
 have f1:=zae (zs.drop k) (n+1) (by rw [List.length_drop];omega)
 have f2:=zae (ys.drop k) (n+1) (by rw [List.length_drop,ho.len];omega)
 rw [List.drop_drop] at f1 f2
 rw [ho.high] at f2
 rw [show k+(n+1)=k+1+n by omega,hZ,Int.mul_zero,Int.add_zero] at f1 f2
 rw [ho.low] at e2
 change lv (zs.drop k)=seg zs k (n+1) at f1
 change lv (ys.drop k)=seg ys k (n+1) at f2
 refine⟨?_,by omega⟩
 rw [zz (qs.set k q) k (by rw [List.length_set];exact hq),zbE _ _ _ _ (show k < k+1 by omega),zJ _ _ _ _ hq,if_pos rfl]
 simp only [lv]
 rw [f1,hst] at e1
 rw [f2] at e2
 rw [hval,e1,e2,Int.mul_add (bp k),Int.mul_add (bp k),Int.mul_add D]
 have g1:D *(bp (k+1) * lv (qs.drop (k+1)))=D *(bp k *(4294967296 * lv (qs.drop (k+1)))):=by simp only [bp];ac_rfl
 have g2:D *(bp k * q)=bp k *(q * D):=by ac_rfl
 rw [g1,g2]
 omega
theorem zi2 {zs a b:List Int}{M:Nat}{P:Int}(hz:LB zs)(ha:LB a)(hb:LB b)(nb:Nrm b)(h0:0 < b.length)(hM:M+b.length=a.length+1)(hl:zs.length=a.length+1)(hv:lv zs=lv a * P)(hP:1≤P):lv (zs.drop M) < lv b * P:=by
 have e:=zae zs M (by omega)
 have t0:=zbm hz M
 have h1:=zar ha
 have h2:=zbS hb nb h0
 have hp:=zC M
 have h3:bp (b.length - 1) * bp M=bp a.length:=by rw [← zba];congr 1;omega
 have h4:bp (b.length - 1) * bp M≤lv b * bp M:=Int.mul_le_mul_of_nonneg_right h2 (by omega)
 have h5:lv a * P < lv b * bp M * P:=Int.mul_lt_mul_of_pos_right (by omega) (by omega)
 have h6:bp M * lv (zs.drop M) < bp M *(lv b * P):=by
  have:bp M *(lv b * P)=lv b * bp M * P:=by ac_rfl
  omega
 exact Int.lt_of_mul_lt_mul_left h6 (by omega)
theorem zi0 {A V q Z P:Int}(hP:1≤P)(h:A * P=V * P * q+Z)(h0:0≤Z)(h1:Z < V * P):A=V * q+Z / P∧0≤Z / P∧Z / P < V:=by
 have e:Z=(A - V * q) * P:=by
  have:V * P * q=V * q * P:=by ac_rfl
  rw [Int.sub_mul];omega
 have d:Z / P=A - V * q:=by rw [e];exact Int.mul_ediv_cancel _ (by omega)
 refine⟨by omega,Int.ediv_nonneg h0 (by omega),?_⟩
 rw [Int.ediv_lt_iff_lt_mul (by omega:0 < P)]
 exact h1
theorem zhZ {d b:List Int}{P:Int}(hd:LB d)(nd:Nrm d)(hb:LB b)(nb:Nrm b)(h0:0 < b.length)(hP:1≤P)(hv:lv d=lv b * P)(hx:b.getD (b.length - 1) 0 * P < 4294967296)(hPP:∃ Q,P * Q=4294967296):
  d.length=b.length∧lv d < bp b.length:=by
 have h1:=zbS hb nb h0
 have e:=zae b (b.length - 1) (by omega)
 rw [zz b (b.length - 1) (by omega),List.drop_eq_nil_of_le (by omega)] at e
 simp only [lv,Int.mul_zero,Int.add_zero] at e
 have t1:=zcw hb (b.length - 1)
 have hp:=zC (b.length - 1)
 obtain⟨Q,hQ⟩:=hPP
 have hx2:(b.getD (b.length - 1) 0+1) * P≤4294967296:=by
  rw [← hQ,Int.mul_comm P Q] at hx ⊢
  have:=Int.lt_of_mul_lt_mul_right hx (by omega)
  exact Int.mul_le_mul_of_nonneg_right (by omega) (by omega)
 have b1:bp b.length=bp (b.length - 1) * 4294967296:=by
  conv=>lhs;rw [← Nat.sub_add_cancel (show 1≤b.length by omega)]
  simp only [bp];rw [Int.mul_comm]
 have h2:lv b * P < bp b.length:=by
  have g1:lv b * P < bp (b.length - 1) *(b.getD (b.length - 1) 0+1) * P:=Int.mul_lt_mul_of_pos_right (by rw [Int.mul_add,Int.mul_one];omega) (by omega)
  have g2:bp (b.length - 1) *((b.getD (b.length - 1) 0+1) * P)≤bp (b.length - 1) * 4294967296:=Int.mul_le_mul_of_nonneg_left hx2 (by omega)
  rw [← Int.mul_assoc] at g2
  omega
 have h3:lv b * 1≤lv b * P:=Int.mul_le_mul_of_nonneg_left hP (by omega)
 refine⟨?_,by omega⟩
 have l1:=zfk hd nd (n:=b.length) (by omega)
 rcases Nat.lt_or_ge d.length b.length with h | h
 ·have l2:=zar hd
  have l3:bp d.length≤bp (b.length - 1):=zac (by omega)
  omega
 ·omega
end Go.Proofs.YtnkcjkpkphjecaaGreatDoor
/- Limbs divided by limbs: where there is nothing to do, and by one limb. -/
namespace Go.Proofs.YtnkcjkpkphjecaaGreatDoor
open Go.RowKit Limbs
def DivPost (w:World)(a b:List Int)(e:Ending)(w':World):Prop:=
 ∃ v1 v2 qs rs,e=.returned (.tuple #[v1,v2])∧Lim w' v1 qs∧Lim w' v2 rs∧Nrm qs∧Nrm rs∧lv a=lv b * lv qs+lv rs∧lv rs < lv b∧qs.length≤a.length∧rs.length≤b.length∧Below w.heap.size w w'
theorem Lim.nil (w:World):Lim w (.slice none 0 0) []:=⟨none,0,rfl,Nat.le_refl _,by simp,zbx,fun h=>absurd h (by simp)⟩
theorem Nrm.nil:Nrm []:=.inl rfl
theorem zev {B:Nat}{w W W':World}{g:Nat}(h:Below B w W)(hg:W.grownBy W' (some g))(hB:B≤g)(hs:B≤W.heap.size):Below B w W' where
 os:=hg.os.trans h.os
 tape:=hg.tape.trans h.tape
 output:=hg.output.trans h.output
 size:=Nat.le_trans h.size hg.size
 block:=fun j hj=>(hg.block j (by omega) (by simp;omega)).trans (h.block j hj)
set_option maxRecDepth 100000 in
set_option maxHeartbeats 800000 in
theorem zhU (w:World)(va vb:Value)(a b:List Int)(ha:Lim w va a)(hb:Lim w vb b)(na:Nrm a)(nb:Nrm b)(hlt:lv a < lv b):
  Calls Tryz.prog 41 #[va,vb] w fun e w'=>DivPost w a b e w':=by
 have HA:=hide ha;have HB:=hide hb
 obtain⟨ao,acap,rfl,hacap,halen,halb,-⟩:=ha
 obtain⟨bo,bcap,rfl,hbcap,hblen,hblb,-⟩:=hb
 have hc:=zS hlt
 have HF:=hide (show lv a=lv b * lv []+lv a by simp [lv])
 have HL:=hide (show a.length≤b.length by
  by_cases h:b.length < a.length
  ·have:=zbl hblb halb na h;omega
  ·omega)
 go_enter Tryz.func41,Tryz.ntmps41
 go_wp2_with fail
 refine(zaN w _ _ a b HA.out HB.out na nb).mono ?_
 rintro e w1 ⟨rfl,hb1⟩
 rw [hc]
 go_wp2_with fail
 refine(zbG w1 _ a (HA.out.below hb1 zL)).mono ?_
 rintro e w2 ⟨rfl,hr2,hb2⟩
 go_wp2
 go_ret2
 exact⟨_,_,[],a,rfl,Lim.nil _,hr2.lim _ zL halen,Nrm.nil,na,HF.out,hlt,by simp,HL.out,hb1.trans (hb2.mono hb1.size)⟩
theorem zf6 (w:World)(r:Int)(hr:0≤r∧r < 4294967296):Row (w.alloc (.cells #[.int .u32 r] 91)) w.heap.size [r]:=by
 refine⟨by simp,zcc hr zbx,fun j hj=>?_⟩
 obtain rfl:j=0:=by simpa using hj
 exact⟨by rw [World.cell?_alloc_new];simp,World.frozen?_alloc_new _ _ _ _⟩
set_option maxRecDepth 100000 in
set_option maxHeartbeats 800000 in
theorem zhW (w:World)(va vb:Value)(a b:List Int)(ha:Lim w va a)(hb:Lim w vb b)(na:Nrm a)(nb:Nrm b)(hge:lv b≤lv a)(h1:b.length=1):
  Calls Tryz.prog 41 #[va,vb] w fun e w'=>DivPost w a b e w':=by
 have HA:=hide ha;have HB:=hide hb
 obtain⟨ao,acap,rfl,hacap,halen,halb,-⟩:=ha
 obtain⟨bo,bcap,rfl,hbcap,hblen,hblb,hbc⟩:=hb
 obtain⟨bb,boff,rfl,hbb,hbc⟩:=hbc (by omega)
 obtain⟨y,rfl⟩:∃ y,b=[y]:=by
  match b,h1 with
  | [y],_=>exact⟨y,rfl⟩
 have hb0:=hbc 0 (by simp)
 have hy:0 < y∧y < 4294967296:=by
  have h2:=hblb 0
  have h3:y≠0:=by rcases nb with h | h <;> simp at h;exact h
  simp at h2
  omega
 simp only [List.getD_cons_zero,Nat.add_zero] at hb0
 clear hbc
 have hcm:¬ cmpI (lv a) (lv [y]) < 0:=by
  by_cases h:lv [y] < lv a
  ·rw [zR h];decide
  ·rw [zbb (by omega)];decide
 go_enter Tryz.func41,Tryz.ntmps41
 go_wp2_with fail
 refine(zaN w _ _ a [y] HA.out HB.out na nb).mono ?_
 rintro e w1 ⟨rfl,hb1⟩
 generalize cmpI (lv a) (lv [y])=c at *
 go_wp2_with fail
 refine(zbG w1 _ a (HA.out.below hb1 zL)).mono ?_
 rintro e w2 ⟨rfl,hr2,hb2⟩
 have hB2:=hb1.trans (hb2.mono hb1.size)
 have hcb:w2.cell? ⟨bb,boff,none⟩=some (.int .u32 y):=(hB2.cell (p:=⟨bb,boff,none⟩) hbb).trans hb0
 go_wp2_with fail
 refine(zeO w2 w1.heap.size a.length a y hr2 halen hy.1 hy.2).mono ?_
 rintro e w3 ⟨r,qs,rfl,hr0,hr1,hql,hrow,hgr,hval⟩
 have hB3:=zev hB2 hgr hb1.size hB2.size
 have HV:=hide hval
 clear hval hgr hr2 hcb
 go_wp2_with fail
 refine(zbt w3 _ _ qs a.length hql (by have:=hrow.lim a.length (by omega) (by omega);rwa [hql] at this)).mono ?_
 rintro e w4 ⟨m,hm,rfl,hlm,hnm,rfl⟩
 have HLM:=hide hlm
 clear hlm
 have hone:=zf6 w4 r ⟨hr0,by omega⟩
 go_wp2_with fail
 refine(zbt _ _ _ [r] 1 rfl (hone.lim 1 (by simp) (by simp))).mono ?_
 rintro e w5 ⟨k,hk,rfl,hlk,hnk,rfl⟩
 have HLK:=hide hlk
 clear hlk
 have hq':Lim w4 (.slice (some ⟨w1.heap.size,0,none⟩) m a.length) (qs.take m):=by
  have:=(hrow.lim a.length (by omega) (by omega)).take m hm
  exact this
 have hr':=(hone.lim 1 (by simp) (by simp)).take k hk
 have hba:=(Below.refl w4.heap.size w4).alloc zL (.cells #[.int .u32 r] 91)
 have hA:lv a=lv [y] * lv (qs.take m)+lv ([r].take k):=by rw [HLM.out,HLK.out,HV.out];simp [lv]
 have hR:lv ([r].take k) < lv [y]:=by rw [HLK.out];simpa [lv] using hr1
 have HF:=hide (show DivPost w a [y] (.returned (.tuple #[.slice (some ⟨w1.heap.size,0,none⟩) m a.length,.slice (some ⟨w4.heap.size,0,none⟩) k 1])) (w4.alloc (.cells #[.int .u32 r] 91)) from
  ⟨_,_,_,_,rfl,hq'.below hba zL,hr',hnm,hnk,hA,hR,by rw [List.length_take];omega,by rw [List.length_take];simp;omega,hB3.trans (hba.mono hB3.size)⟩)
 clear hq' hr' hba hA hR hone hrow
 go_wp2
 go_ret2
 exact HF.out
end Go.Proofs.YtnkcjkpkphjecaaGreatDoor
