import Derived.Test.YtdedolkgcdlmeaaGreatDoorRows
import Derived.WalkKit
import Derived.WalkSpells
import Derived.WalkLawsBesides
import Derived.Laws.AppendOwn
import Derived.OwnWalk
import Derived.Deep.QuietTactic
import Derived.BigQuiet
import Derived.Deep.RegionHeld3
import Derived.Deep.DrawnRows
set_option maxHeartbeats 800000
namespace Go.Proofs.YtdedolkgcdlmeaaGreatDoor
open Go.RowKit
variable{v:Value}{w w':World}{base size n:Nat}
theorem hide {p:Prop}(h:p):Hid p:=h
theorem zj{b:Nat}{o:Obj}(h:w.heap[b]?=some o):b<w.heap.size:=by
 rcases Nat.lt_or_ge b w.heap.size with hlt | hge
 ·exact hlt
 ·rw [Array.getElem?_eq_none hge] at h;cases h
theorem zcd{W W':World}{e:TypeId}{xs:List Value}(h:W.ownsRow base e size v n xs)(hb:Below W.heap.size W W'):W'.ownsRow base e size v n xs:=by
 refine⟨h.1,?_⟩;rcases h.2 with hn |⟨g,cap,cur,e,hbg,hh,rest⟩
 ·exact .inl hn
 ·exact .inr ⟨g,cap,cur,e,hbg,(hb.block _ (zj hh)).trans hh,rest⟩
theorem zw{wr w3:World}{e:TypeId}{xs:List Value}{ob:Obj}(h:wr.ownsRow base e size v n xs)(hB:base≤wr.heap.size)(hg:(wr.alloc ob).grownBy w3 v.ownBlock):Below base wr w3:=
 ((Below.refl _ _).alloc hB _).grown hg (by simp;omega) (fun k hk=>(h.lt k hk).1)
def RowS (w:World)(v:Value)(ks:List Int):Prop:=
 ∃ ao cap,v=.slice ao ks.length cap∧ks.length≤cap∧(∀ i,-9223372036854775808≤ks.getD i 0∧ks.getD i 0≤9223372036854775807) ∧
  (0<ks.length→∃ b off,ao=some ⟨b,off,none⟩∧b<w.heap.size∧∀ i,i<ks.length→w.cell? ⟨b,off+i,none⟩=some (.int .i64 (ks.getD i 0)))
theorem RowS.below{C:Nat}{ks:List Int}(h:RowS w v ks)(hb:Below C w w')(hC:w.heap.size≤C):RowS w' v ks:=by
 obtain⟨ao,cap,hv,h1,hk,h2⟩:=h;refine⟨ao,cap,hv,h1,hk,fun h0=>?_⟩;obtain⟨b,off,e,hlt,hc⟩:=h2 h0;exact⟨b,off,e,Nat.lt_of_lt_of_le hlt hb.size,fun i hi=>(hb.cell (p:=⟨b,off+i,none⟩) (Nat.lt_of_lt_of_le hlt hC)).trans (hc i hi)⟩
def RowsS (w:World)(v:Value)(rs:List (List Int)):Prop:=
 ∃ ao cap,v=.slice ao rs.length cap∧rs.length≤cap∧(0<rs.length→∃ b off,ao=some ⟨b,off,none⟩∧b<w.heap.size∧∀ i r,rs[i]?=some r→∃ u,w.cell? ⟨b,off+i,none⟩=some u∧RowS w u r)
theorem RowsS.below{rs:List (List Int)}(h:RowsS w v rs)(hb:Below w.heap.size w w'):RowsS w' v rs:=by
 obtain⟨ao,cap,hv,h1,h2⟩:=h;refine⟨ao,cap,hv,h1,fun h0=>?_⟩;obtain⟨b,off,e,hlt,hc⟩:=h2 h0;refine⟨b,off,e,Nat.lt_of_lt_of_le hlt hb.size,fun i r hi=>?_⟩;obtain⟨u,h3,h4⟩:=hc i r hi;exact⟨u,(hb.cell (p:=⟨b,off+i,none⟩) hlt).trans h3,h4.below hb (Nat.le_refl _)⟩
theorem RowsS.at{rs:List (List Int)}(h:RowsS w v rs)(i:Nat)(hi:i<rs.length):∃ b off cap,v=.slice (some ⟨b,off,none⟩) rs.length cap∧b<w.heap.size∧∃ u,w.cell? ⟨b,off+i,none⟩=some u∧RowS w u rs[i]:=by
 obtain⟨ao,cap,hv,h1,h2⟩:=h;obtain⟨b,off,e,hlt,hc⟩:=h2 (by omega);subst e;exact⟨b,off,cap,hv,hlt,hc i rs[i] (by simp [hi])⟩
end Go.Proofs.YtdedolkgcdlmeaaGreatDoor
/- Plain arithmetic of limbs: numbers to the base 4294967296, the lowest first. No Go in it. -/
namespace Go.Proofs.YtdedolkgcdlmeaaGreatDoor.Limbs
variable{zs xs a b:List Int}{x:Int}{n k:Nat}
def lv:List Int→Int
 | []=>0
 | x::xs=>x+4294967296*lv xs
def LB (zs:List Int):Prop:=∀ i:Nat,0≤zs.getD i 0∧zs.getD i 0<4294967296
def Nrm (zs:List Int):Prop:=zs.length=0∨zs.getD (zs.length-1) 0≠0
def bp:Nat→Int
 | 0=>1
 | n+1=>4294967296*bp n
theorem zK (n:Nat):0<bp n:=by
 induction n with
 | zero=>simp [bp]
 | succ n ih=>simp only [bp];omega
theorem zbO (m n:Nat):bp (m+n)=bp m*bp n:=by
 induction m with
 | zero=>simp [bp]
 | succ m ih=>rw [Nat.succ_add];simp only [bp];rw [ih,Int.mul_assoc]
theorem zab{m:Nat}(h:m≤n):bp m≤bp n:=by
 obtain⟨k,rfl⟩:=Nat.exists_eq_add_of_le h;rw [zbO];have h1:=zK m;have h2:=zK k;have:bp m*1≤bp m*bp k:=Int.mul_le_mul_of_nonneg_left (by omega) (by omega);omega
theorem zaN:LB []:=by intro i;simp
theorem zco(h:LB (x::xs)):LB xs:=fun i=>by simpa using h (i+1)
theorem zcn(h:LB (x::xs)):0≤x∧x<4294967296:=by simpa using h 0
theorem zcm(hx:0≤x∧x<4294967296)(h:LB xs):LB (x::xs):=by
 intro i;cases i with
 | zero=>simpa using hx
 | succ i=>simpa using h i
theorem zgM(h:∀ z∈zs,0≤z∧z<4294967296):LB zs:=by
 induction zs with
 | nil=>exact zaN
 | cons x xs ih=>exact zcm (h x (by simp)) (ih fun z hz=>h z (by simp [hz]))
theorem zcp(h:LB zs)(k:Nat):LB (zs.take k):=by
 intro i;have:=h i;by_cases hk:i<k
 ·simpa [List.getD_eq_getElem?_getD,List.getElem?_take,hk] using this
 ·simp [List.getD_eq_getElem?_getD,List.getElem?_take,hk]
theorem zbi(h:LB zs)(k:Nat):LB (zs.drop k):=by
 intro i;have:=h (k+i);simpa [List.getD_eq_getElem?_getD,List.getElem?_drop] using this
theorem zaG (zs:List Int)(n i:Nat)(h:i<n):(zs.take n).getD i 0=zs.getD i 0:=by
 rw [List.getD_eq_getElem?_getD,List.getElem?_take,if_pos h,List.getD_eq_getElem?_getD]
theorem zdF (zs:List Int)(n i:Nat):(zs.drop n).getD i 0=zs.getD (n+i) 0:=by
 rw [List.getD_eq_getElem?_getD,List.getElem?_drop,List.getD_eq_getElem?_getD]
theorem zbW (zs:List Int)(i:Nat)(h:zs.length≤i):zs.getD i 0=0:=by
 rw [List.getD_eq_getElem?_getD,List.getElem?_eq_none h];rfl
theorem zF(h:LB zs):0≤lv zs:=by
 induction zs with
 | nil=>simp [lv]
 | cons x xs ih=>have:=ih (zco h);have:=zcn h;simp only [lv];omega
theorem zao(h:LB zs):lv zs<bp zs.length:=by
 induction zs with
 | nil=>simp [lv,bp]
 | cons x xs ih=>have:=ih (zco h);have:=zcn h;simp only [lv,List.length_cons,bp];omega
theorem zdQ (xs ys:List Int):lv (xs++ys)=lv xs+bp xs.length*lv ys:=by
 induction xs with
 | nil=>simp [lv,bp]
 | cons x xs ih=>simp only [List.cons_append,lv,ih,List.length_cons,bp];rw [Int.mul_add,Int.mul_assoc];omega
theorem zD (zs:List Int)(k:Nat):lv (zs.take (k+1))=lv (zs.take k)+bp k*zs.getD k 0:=by
 by_cases h:k<zs.length
 ·rw [List.take_succ_eq_append_getElem h,zdQ];simp [lv,List.length_take,Nat.min_eq_left (Nat.le_of_lt h),List.getD_eq_getElem?_getD,h]
 ·rw [List.take_of_length_le (by omega),List.take_of_length_le (by omega)];simp [List.getD_eq_getElem?_getD,List.getElem?_eq_none (Nat.le_of_not_lt h)]
theorem zag (zs:List Int)(k:Nat)(h:k≤zs.length):lv zs=lv (zs.take k)+bp k*lv (zs.drop k):=by
 have:=zdQ (zs.take k) (zs.drop k);rw [List.take_append_drop,List.length_take,Nat.min_eq_left h] at this;exact this
theorem zaj (zs:List Int)(h:zs.length≤k):lv (zs.take k)=lv zs:=by
 rw [List.take_of_length_le h]
theorem zcM(h:LB zs)(k:Nat):lv (zs.take k)<bp k:=by
 have h1:=zao (zcp h k);have h2:bp (zs.take k).length≤bp k:=zab (List.length_take_le k zs);omega
theorem zbx(h:LB zs)(k:Nat):0≤lv (zs.take k):=zF (zcp h k)
theorem zC (zs:List Int)(k:Nat)(h:k<zs.length):zs.drop k=zs.getD k 0::zs.drop (k+1):=by
 rw [List.drop_eq_getElem_cons h];simp [List.getD_eq_getElem?_getD,h]
theorem zfx(ha:LB a)(hb:LB b)(hl:a.length=b.length)(hk:k<a.length)(hd:a.drop (k+1)=b.drop (k+1))(hx:a.getD k 0<b.getD k 0):lv a<lv b:=by
 have e1:=zag a k (by omega);have e2:=zag b k (by omega);rw [zC a k hk] at e1;rw [zC b k (by omega),← hd] at e2;simp only [lv] at e1 e2;have h1:=zcM ha k;have h2:=zbx hb k;generalize lv (a.drop (k+1))=t at e1 e2;have hp:=zK k;have h3:bp k *(a.getD k 0+4294967296*t+1)≤bp k *(b.getD k 0+4294967296*t):=Int.mul_le_mul_of_nonneg_left (by omega) (by omega);rw [Int.mul_add,Int.mul_one] at h3;omega
theorem zcb(h:LB zs)(hn:Nrm zs)(h0:0<zs.length):bp (zs.length-1)≤lv zs:=by
 have e:=zag zs (zs.length-1) (by omega);rw [zC zs (zs.length-1) (by omega)] at e;have hd:zs.drop (zs.length-1+1)=[]:=List.drop_eq_nil_of_le (by omega);rw [hd] at e;simp only [lv] at e;have h1:=zbx h (zs.length-1);have h2:=h (zs.length-1);have h3:zs.getD (zs.length-1) 0≠0:=by rcases hn with hn | hn;omega;exact hn
 have hp:=zK (zs.length-1);have h4:bp (zs.length-1)*1≤bp (zs.length-1) *(zs.getD (zs.length-1) 0+4294967296*0):=Int.mul_le_mul_of_nonneg_left (by omega) (by omega);omega
theorem zbw(ha:LB a)(hb:LB b)(hn:Nrm b)(hl:a.length<b.length):lv a<lv b:=by
 have h1:=zao ha;have h2:=zcb hb hn (by omega);have h3:bp a.length≤bp (b.length-1):=zab (by omega);omega
theorem zaI(h:LB zs)(hn:Nrm zs):lv zs=0↔zs.length=0:=by
 constructor
 ·intro h0;by_cases hl:zs.length=0
  ·exact hl
  ·have h1:=zcb h hn (by omega);have:=zK (zs.length-1);omega
 ·intro hl;rw [List.eq_nil_of_length_eq_zero hl];rfl
theorem zfu(h:LB zs)(hn:Nrm zs)(hlt:lv zs<bp n):zs.length≤n:=by
 by_cases hl:zs.length≤n
 ·exact hl
 ·have h1:=zcb h hn (by omega);have h2:bp n≤bp (zs.length-1):=zab (by omega);omega
theorem zfw(ha:LB a)(hb:LB b)(na:Nrm a)(nb:Nrm b)(h:lv a=lv b):a=b:=by
 have hl:a.length=b.length:=by
  by_cases h1:a.length<b.length
  ·have:=zbw ha hb nb h1;omega
  ·by_cases h2:b.length<a.length
   ·have:=zbw hb ha na h2;omega
   ·omega
 clear na nb
 induction a generalizing b with
 | nil=>exact(List.eq_nil_of_length_eq_zero hl.symm).symm
 | cons x xs ih=>
  match b,hl with
  | y::ys,hl=>
   simp only [lv] at h;have h1:=zcn ha;have h2:=zcn hb;have e:x=y:=by omega
   rw [e,ih (zco ha) (zco hb) (by omega) (by simpa using hl)]
theorem zgO(h:LB zs)(k:Nat){z:Int}(hz:0≤z∧z<4294967296):LB (zs.set k z):=by
 intro i;rw [List.getD_eq_getElem?_getD,List.getElem?_set];by_cases hk:k=i
 ·subst hk;by_cases hl:k<zs.length <;> simp [hl,hz]
 ·have:=h i;simpa [hk,List.getD_eq_getElem?_getD] using this
theorem zQ (zs:List Int)(k i:Nat)(z:Int)(hk:k<zs.length):(zs.set k z).getD i 0=if i=k then z else zs.getD i 0:=by
 rw [List.getD_eq_getElem?_getD,List.getElem?_set];by_cases h:k=i
 ·subst h;simp [hk]
 ·have h':¬ i=k:=fun e=>h e.symm;simp [h,h',List.getD_eq_getElem?_getD]
theorem zfy (zs:List Int)(k:Nat)(z:Int)(h:k<zs.length):lv (zs.set k z)=lv zs+bp k *(z-zs.getD k 0):=by
 induction zs generalizing k with
 | nil=>simp at h
 | cons x xs ih=>
  cases k with
  | zero=>simp [lv,bp];omega
  | succ k=>
   have:=ih k (by simpa using h);simp only [List.set_cons_succ,lv,this,bp,List.getD_cons_succ];rw [Int.mul_add,Int.mul_assoc];omega
theorem zaz (zs:List Int)(k i:Nat)(z:Int)(h:i≤k):(zs.set k z).take i=zs.take i:=by
 rw [List.take_set_of_le h]
theorem zcx (zs:List Int)(k i:Nat)(z:Int)(h:k<i):(zs.set k z).drop i=zs.drop i:=by
 rw [List.drop_set_of_lt h]
theorem zi8 (n:Nat):lv (List.replicate n 0)=0:=by
 induction n with
 | zero=>rfl
 | succ n ih=>simp only [List.replicate_succ,lv,ih];rfl
theorem zgN (n:Nat):LB (List.replicate n 0):=zgM fun z hz=>by
 rw [List.eq_of_mem_replicate hz];decide
end Go.Proofs.YtdedolkgcdlmeaaGreatDoor.Limbs
/- The leaves: one limb, its sums, orders. Conditions: the slices hold limbs. -/
namespace Go.Proofs.YtdedolkgcdlmeaaGreatDoor
open Go.RowKit Limbs
variable{zs a b:List Int}{w wr w':World}{k m n g B:Nat}{cy z:Int}
def Lim (w:World)(v:Value)(zs:List Int):Prop:=
 ∃ ao cap,v=.slice ao zs.length cap∧zs.length≤cap∧zs.length≤1000000∧LB zs ∧
  (0<zs.length→∃ b off,ao=some ⟨b,off,none⟩∧b<w.heap.size∧∀ i,i<zs.length→w.cell? ⟨b,off+i,none⟩=some (.int .u32 (zs.getD i 0)))
theorem Lim.below{v:Value}(h:Lim w v zs)(hb:Below B w w')(hB:w.heap.size≤B):Lim w' v zs:=by
 obtain⟨ao,cap,hv,h1,h2,h3,h4⟩:=h;refine⟨ao,cap,hv,h1,h2,h3,fun h0=>?_⟩;obtain⟨b,off,e,hlt,hc⟩:=h4 h0;exact⟨b,off,e,Nat.lt_of_lt_of_le hlt hb.size,fun i hi=>(hb.cell (p:=⟨b,off+i,none⟩) (Nat.lt_of_lt_of_le hlt hB)).trans (hc i hi)⟩
theorem zb8 (w:World)(v:Value)(zs:List Int)(i:Int)(h:Lim w v zs)(h0:0≤i)(h1:i≤2000000):
  Calls Tryz.prog 146 #[v,.int .i64 i] w fun e w'=>e=.returned (.int .u32 (zs.getD i.toNat 0))∧w'=w:=by
 obtain⟨ao,cap,rfl,hcap,hlen,hlb,hc⟩:=h;obtain⟨k,rfl⟩:=Int.eq_ofNat_of_zero_le h0;rw [Int.toNat_natCast];by_cases hk:k<zs.length
 ·obtain⟨b,off,rfl,hb,hc⟩:=hc (by omega);have hck:=hc k hk;clear hc;generalize zs.getD k 0=z at *;go_enter Tryz.func146,Tryz.ntmps146;go_wp2;go_ret;exact⟨rfl,rfl⟩
 ·have hz:zs.getD k 0=0:=by simp [List.getD_eq_getElem?_getD,List.getElem?_eq_none (Nat.le_of_not_lt hk)]
  clear hc;rw [hz];clear hz;go_enter Tryz.func146,Tryz.ntmps146;go_wp2;go_ret;exact⟨rfl,rfl⟩
def cmpI (a b:Int):Int:=if a<b then -1 else if b<a then 1 else 0
theorem zhs (x y:Int)(w:World):
  Calls Tryz.prog 135 #[.int .i64 x,.int .i64 y] w fun e w'=>e=.returned (.int .i64 (cmpI x y))∧w'=w:=by
 unfold cmpI;by_cases h1:x<y
 ·rw [if_pos h1];go_enter Tryz.func135,Tryz.ntmps135;go_wp2;go_ret;exact⟨rfl,rfl⟩
 ·rw [if_neg h1];by_cases h2:y<x
  ·rw [if_pos h2];go_enter Tryz.func135,Tryz.ntmps135;go_wp2;go_ret;exact⟨rfl,rfl⟩
  ·rw [if_neg h2];obtain rfl:x=y:=by omega
   go_enter Tryz.func135,Tryz.ntmps135;go_wp2;go_ret;exact⟨rfl,rfl⟩
theorem zhx (x y:Int)(w:World):
  Calls Tryz.prog 136 #[.int .u32 x,.int .u32 y] w fun e w'=>e=.returned (.int .i64 (cmpI x y))∧w'=w:=by
 unfold cmpI;by_cases h1:x<y
 ·rw [if_pos h1];go_enter Tryz.func136,Tryz.ntmps136;go_wp2;go_ret;exact⟨rfl,rfl⟩
 ·rw [if_neg h1];by_cases h2:y<x
  ·rw [if_pos h2];go_enter Tryz.func136,Tryz.ntmps136;go_wp2;go_ret;exact⟨rfl,rfl⟩
  ·rw [if_neg h2];obtain rfl:x=y:=by omega
   go_enter Tryz.func136,Tryz.ntmps136;go_wp2;go_ret;exact⟨rfl,rfl⟩
theorem zf3 {k l:IntKind}{a b c d:Int}(h:a=b)(g:c=d):Ending.returned (.tuple #[.int k a,.int l c])=.returned (.tuple #[.int k b,.int l d]):=by rw [h,g]
theorem add32 (x y c:Int)(w:World)(hx:0≤x∧x<4294967296)(hy:0≤y∧y<4294967296)(hc:0≤c∧c≤1):
  Calls Tryz.prog 145 #[.int .u32 x,.int .u32 y,.int .u32 c] w fun e w'=>e=.returned (.tuple #[.int .u32 ((x+y+c)%4294967296),.int .u32 ((x+y+c)/4294967296)])∧w'=w:=by
 obtain⟨_,_⟩:=hx;obtain⟨_,_⟩:=hy;obtain⟨_,_⟩:=hc;go_enter Tryz.func145,Tryz.ntmps145;go_wp2;go_ret2;exact⟨zf3 (by omega) (by omega),rfl⟩
def bor (x y:Int):Int:=if x<y then 1 else 0
theorem zhc (xb yb db:Nat)(hx:xb≤1)(hy:yb≤1)(hd:db≤1):
  (((1 ^^^ xb) &&& yb) |||((1 ^^^ (xb ^^^ yb)) &&& db))=if xb=yb then db else yb:=by
 rcases(by omega:xb=0∨xb=1) with rfl | rfl <;> rcases(by omega:yb=0∨yb=1) with rfl | rfl <;> rcases(by omega:db=0∨db=1) with rfl | rfl <;> decide
theorem zkC (x y c:Int)(hx:0≤x∧x<4294967296)(hy:0≤y∧y<4294967296)(hc:0≤c∧c≤1):
  bits BinOp.or IntKind.u32 (bits BinOp.and IntKind.u32 (bits BinOp.xor IntKind.u32 IntKind.u32.max x) y) (bits BinOp.and IntKind.u32 (bits BinOp.xor IntKind.u32 IntKind.u32.max (bits BinOp.xor IntKind.u32 x y)) ((x-y-c)%4294967296))/2147483648=bor x (y+c):=by
 have hm:IntKind.u32.max=((4294967295:Nat):Int):=by decide
 obtain⟨d,hd⟩:∃ d:Nat,(x-y-c)%4294967296=(d:Int):=Int.eq_ofNat_of_zero_le (by omega);obtain⟨x,rfl⟩:=Int.eq_ofNat_of_zero_le hx.1;obtain⟨y,rfl⟩:=Int.eq_ofNat_of_zero_le hy.1;have hx':x<4294967296:=by omega
 have hy':y<4294967296:=by omega
 have hd':d<4294967296:=by omega
 have l1:4294967295 ^^^ x<4294967296:=Nat.xor_lt_two_pow (n:=32) (by decide) hx';have l2:x ^^^ y<4294967296:=Nat.xor_lt_two_pow (n:=32) hx' hy';have l3:4294967295 ^^^ (x ^^^ y)<4294967296:=Nat.xor_lt_two_pow (n:=32) (by decide) l2;have l4:(4294967295 ^^^ x) &&& y<4294967296:=Nat.and_lt_two_pow (n:=32) _ hy';have l5:(4294967295 ^^^ (x ^^^ y)) &&& d<4294967296:=Nat.and_lt_two_pow (n:=32) _ hd';rw [hm,hd,u32_xor_nat _ _ (by decide) hx',u32_and_nat _ _ l1 hy',u32_xor_nat _ _ hx' hy',u32_xor_nat _ _ (by decide) l2,u32_and_nat _ _ l3 hd',u32_or_nat _ _ l4 l5];have e:(((4294967295 ^^^ x) &&& y) |||((4294967295 ^^^ (x ^^^ y)) &&& d))/2147483648=if x/2147483648=y/2147483648 then d/2147483648 else y/2147483648:=by
  rw [show(2147483648:Nat)=2 ^ 31 from by decide];simp only [← Nat.shiftRight_eq_div_pow,Nat.shiftRight_or_distrib,Nat.shiftRight_and_distrib,Nat.shiftRight_xor_distrib];rw [show(4294967295:Nat) >>> 31=1 from by decide];simp only [Nat.shiftRight_eq_div_pow];exact zhc _ _ _ (by omega) (by omega) (by omega)
 have e2:((((4294967295 ^^^ x) &&& y) |||((4294967295 ^^^ (x ^^^ y)) &&& d):Nat):Int)/2147483648=((if x/2147483648=y/2147483648 then d/2147483648 else y/2147483648:Nat):Int):=by rw [← e];rfl
 rw [e2];unfold bor;split <;> split <;> omega
theorem sub32 (x y c:Int)(w:World)(hx:0≤x∧x<4294967296)(hy:0≤y∧y<4294967296)(hc:0≤c∧c≤1):
  Calls Tryz.prog 147 #[.int .u32 x,.int .u32 y,.int .u32 c] w fun e w'=>e=.returned (.tuple #[.int .u32 ((x-y-c)%4294967296),.int .u32 (bor x (y+c))])∧w'=w:=by
 have HB:Hid _:=zkC x y c hx hy hc;obtain⟨_,_⟩:=hx;obtain⟨_,_⟩:=hy;obtain⟨_,_⟩:=hc;have hs:IntKind.u32.signed=false:=rfl;go_enter Tryz.func147,Tryz.ntmps147;go_wp2;go_ret2;exact⟨zf3 (by omega) HB.out,rfl⟩
def lenOf:Value→Nat | .slice _ n _=>n | _=>0
theorem Lim.take{ao:Option Addr}{cap:Nat}(h:Lim w (.slice ao zs.length cap) zs)(n:Nat)(hn:n≤zs.length):Lim w (.slice ao n cap) (zs.take n):=by
 obtain⟨ao',cap',hv,h1,h2,h3,h4⟩:=h;simp only [Value.slice.injEq,true_and] at hv;obtain⟨rfl,rfl⟩:=hv;have hl:(zs.take n).length=n:=by rw [List.length_take];omega
 refine⟨ao,cap,by rw [hl],by omega,by omega,zcp h3 n,fun h0=>?_⟩;obtain⟨b,off,e,hlt,hc⟩:=h4 (by omega);refine⟨b,off,e,hlt,fun i hi=>?_⟩;rw [hc i (by omega),zaG zs n i (by omega)]
theorem zbA(hn:n≤zs.length)(h:n=0∨zs.getD (n-1) 0≠0):Nrm (zs.take n):=by
 have hl:(zs.take n).length=n:=by rw [List.length_take];omega
 unfold Nrm;rw [hl];rcases h with h | h
 ·exact .inl h
 ·by_cases h0:n=0
  ·exact .inl h0
  ·right;rw [zaG zs n (n-1) (by omega)];exact h
theorem zja(h0:0<n)(h:zs.getD (n-1) 0=0):lv (zs.take (n-1))=lv (zs.take n):=by
 have:=zD zs (n-1);rw [show n-1+1=n by omega,h] at this;omega
def TrimPost (w:World)(ao:Option Addr)(cap:Nat)(zs:List Int)(e:Ending)(w':World):Prop:=
 ∃ m,m≤zs.length∧e=.returned (.slice ao m cap)∧lv (zs.take m)=lv zs∧Nrm (zs.take m)∧w'=w
theorem zej (w:World)(ao:Option Addr)(cap:Nat)(zs:List Int)(h:Lim w (.slice ao zs.length cap) zs):
  Calls Tryz.prog 124 #[.slice ao zs.length cap] w fun e w'=>TrimPost w ao cap zs e w':=by
 obtain⟨ao',cap',hv,hcap,hlen,hlb,hc⟩:=h;simp only [Value.slice.injEq,true_and] at hv;obtain⟨rfl,rfl⟩:=hv;go_enter Tryz.func124,Tryz.ntmps124;go_wp2
 go_loop [0] (fun t=>∃ n:Nat,n≤zs.length∧t=.slice ao n cap∧Hid (lv (zs.take n)=lv zs)) (fun t=>lenOf t)
 case atStart=>exact⟨zs.length,Nat.le_refl _,rfl,by show lv _=_;rw [List.take_length]⟩
 case round=>
  obtain⟨n,hn,rfl,HV⟩:=hrel;by_cases h0:n=0
  ·subst h0;go_wp2;go_ret;exact⟨0,hn,rfl,HV.out,zbA hn (.inl rfl),rfl⟩
  ·obtain⟨b,off,rfl,hb,hc⟩:=hc (by omega);obtain⟨m,rfl⟩:∃ m,n=m+1:=⟨n-1,by omega⟩;have hcm:=hc m (by omega);clear hc;have HG:Hid (zs.getD (m+1-1) 0=zs.getD m 0):=by show _=_;rw [Nat.add_sub_cancel]
   have hzb:=hlb m;generalize hz:zs.getD m 0=z at *;by_cases hz0:z=0
   ·subst hz0;go_wp2
    go_round
    case rel=>exact⟨m,by omega,rfl,by have:=zja (zs:=zs) (n:=m+1) (by omega) HG.out;rw [Nat.add_sub_cancel] at this;exact this.trans HV.out⟩
    case measure=>simp [lenOf]
   ·have hz1:(z==0)=false:=by simp [hz0]
    go_wp2;go_ret;exact⟨m+1,hn,rfl,HV.out,zbA hn (.inr (by rw [HG.out];exact hz0)),rfl⟩
theorem zad{a b:Int}(h:a<b):cmpI a b=-1:=by unfold cmpI;rw [if_pos h]
theorem zac{a b:Int}(h:b<a):cmpI a b=1:=by unfold cmpI;rw [if_neg (by omega),if_pos h]
theorem zbl{a b:Int}(h:a=b):cmpI a b=0:=by unfold cmpI;rw [if_neg (by omega),if_neg (by omega)]
theorem zht(ha:LB a)(hb:LB b)(na:Nrm a)(nb:Nrm b)(h:a.length≠b.length):cmpI (a.length:Int) (b.length:Int)=cmpI (lv a) (lv b):=by
 by_cases h1:a.length<b.length
 ·rw [zad (by omega),zad (zbw ha hb nb h1)]
 ·rw [zac (by omega),zac (zbw hb ha na (by omega))]
theorem zhu(ha:LB a)(hb:LB b)(hl:a.length=b.length)(hk:k<a.length)(hd:a.drop (k+1)=b.drop (k+1))(hx:a.getD k 0≠b.getD k 0):cmpI (a.getD k 0) (b.getD k 0)=cmpI (lv a) (lv b):=by
 by_cases h1:a.getD k 0<b.getD k 0
 ·rw [zad h1,zad (zfx ha hb hl hk hd h1)]
 ·have h2:b.getD k 0<a.getD k 0:=by omega
  rw [zac h2,zac (zfx hb ha hl.symm (by omega) hd.symm h2)]
theorem ze1(hl:a.length=b.length)(hk:k<a.length)(hd:a.drop (k+1)=b.drop (k+1))(hx:a.getD k 0=b.getD k 0):a.drop k=b.drop k:=by
 rw [zC a k hk,zC b k (by omega),hd,hx]
theorem zah{a b:Int}(h:a=b):Ending.returned (.int .i64 a)=.returned (.int .i64 b):=by rw [h]
def CmpPost (w:World)(r:Int)(e:Ending)(w':World):Prop:=e=.returned (.int .i64 r)∧Below w.heap.size w w'
theorem zZ(h:Below B w w')(n:Nat):Below B w (w'.drewN n):=⟨h.os,h.tape,h.output,h.size,h.block⟩
theorem zaS (w:World)(va vb:Value)(a b:List Int)(ha:Lim w va a)(hb:Lim w vb b)(na:Nrm a)(nb:Nrm b):
  Calls Tryz.prog 116 #[va,vb] w fun e w'=>CmpPost w (cmpI (lv a) (lv b)) e w':=by
 obtain⟨ao,acap,rfl,hacap,halen,halb,hac⟩:=ha;obtain⟨bo,bcap,rfl,hbcap,hblen,hblb,hbc⟩:=hb;by_cases hl:a.length=b.length
 ·have hne:((a.length:Int) !=(b.length:Int))=false:=by rw [bne_eq_false_iff_eq];omega
  have HLL:Hid (a.length=b.length):=hl;clear hl;go_enter Tryz.func116,Tryz.ntmps116;go_wp2;go_loopw [19] (fun i wr=>∃ k nq:Nat,k≤a.length∧i=.int .i64 k∧wr=w.drewN nq∧Hid (a.drop (a.length-k)=b.drop (a.length-k))) (fun i _=>a.length-(intOf i).toNat)
  case atStart=>exact⟨0,0,Nat.zero_le _,rfl,by simp [World.drewN_zero],by show _=_;rw [Nat.sub_zero,List.drop_length,HLL.out,List.drop_length]⟩
  case round=>
   obtain⟨k,nq,hk,rfl,rfl,HD⟩:=hrel;by_cases hlt:k<a.length
   ·obtain⟨ab,aoff,rfl,hab,hac⟩:=hac (by omega);obtain⟨bb,boff,rfl,hbb,hbc⟩:=hbc (by have:=HLL.out;omega);have hblt:a.length-1-k<b.length:=by have:=HLL.out;omega
    have hca:=hac (a.length-1-k) (by omega);have hcb:=hbc (a.length-1-k) hblt;clear hac hbc;have HE:Hid (∀ h:a.getD (a.length-1-k) 0=b.getD (a.length-1-k) 0,a.drop (a.length-(k+1))=b.drop (a.length-(k+1))):=fun h=>by
     have hd:=HD.out;rw [show a.length-k=a.length-1-k+1 by omega] at hd;rw [show a.length-(k+1)=a.length-1-k by omega];exact ze1 HLL.out (by omega) hd h
    have HN:Hid (∀ h:a.getD (a.length-1-k) 0≠b.getD (a.length-1-k) 0,cmpI (a.getD (a.length-1-k) 0) (b.getD (a.length-1-k) 0)=cmpI (lv a) (lv b)):=fun h=>by
     have hd:=HD.out;rw [show a.length-k=a.length-1-k+1 by omega] at hd;exact zhu halb hblb HLL.out (by omega) hd h
    generalize a.getD (a.length-1-k) 0=x at *;generalize b.getD (a.length-1-k) 0=y at *;by_cases hxy:x=y
    ·subst hxy;have HE':Hid (a.drop (a.length-(k+1))=b.drop (a.length-(k+1))):=HE.out rfl;clear HE HN;go_wp2
     go_quiet (fail)
     go_wp2;go_roundw
     case rel=>exact⟨k+1,_,by omega,by go_num,rfl,HE'⟩
     case measure=>simp [intOf];omega
    ·have hb1:(x != y)=true:=by rw [bne_iff_ne];exact hxy
     have HC:Hid _:=HN.out hxy;clear HN HE;have HX:Hid (x≠y):=hxy;clear hxy;have hpa:a.length-1-k<a.length:=by omega
     obtain⟨p,hp⟩:∃ p,p=a.length-1-k:=⟨_,rfl⟩;have hP:(a.length:Int)-1-(k:Int)=(p:Int):=by omega
     rw [← hp] at hca hcb hpa hblt;clear hp;go_wp2
     go_quiet (fail)
     go_wp2
     go_region_held3 (fun w'=>w'.cell? ⟨ab,aoff+p,none⟩=some (.int .u32 x)∧w'.cell? ⟨bb,boff+p,none⟩=some (.int .u32 y)) (go_keep) ((go_at_call 136;refine(zhx _ _ _).mono ?_;rintro e w' ⟨rfl,rfl⟩))
     go_wp2;go_ret;exact⟨zah HC.out,zZ (Below.refl _ _) _⟩
   ·have HK:Hid (cmpI (lv a) (lv b)=0):=by
     have hd:=HD.out;rw [show a.length-k=0 by omega,List.drop_zero,List.drop_zero] at hd;show _=_;rw [hd];exact zbl rfl
    go_wp2;go_ret;exact⟨zah HK.out.symm,zZ (Below.refl _ _) _⟩
 ·have HC:Hid _:=zht halb hblb na nb hl;have hne:((a.length:Int) !=(b.length:Int))=true:=by rw [bne_iff_ne];omega
  clear hac hbc;go_enter Tryz.func116,Tryz.ntmps116;go_wp2_with (go_at_call 135;refine(zhs _ _ _).mono ?_;rintro e w' ⟨rfl,rfl⟩);go_ret;exact⟨zah HC.out,Below.refl _ _⟩
def Row (w:World)(g:Nat)(zs:List Int):Prop:=
 g<w.heap.size∧LB zs∧∀ j,j<zs.length→w.cell? ⟨g,j,none⟩=some (.int .u32 (zs.getD j 0))∧w.frozen? ⟨g,j,none⟩=false
theorem Tryz.infoU32:(Tryz.prog.info? 104).map (fun i=>(i.zero,i.size,i.bytes))=some (some (.int .u32 0),1,4):=by kernel_rfl
theorem zbc (m:Nat)(hm:m≤3000000)(W:World):(Instr.makeSlice 27 (.int .i64 (m:Int)) (.int .i64 (m:Int))).run Tryz.prog W=.ok (.slice (some ⟨W.heap.size,0,none⟩) m m) (W.alloc (.cells (madeCells #[.int .u32 0] m) 104)):=by
 obtain⟨i0,hi,hz0,hz1,hz2⟩:=info_parts Tryz.infoU32;have h:=run_make (P:=Tryz.prog) W 27 104 i0 (.int .u32 0) Tryz.underlying27 hi hz0 .i64 .i64 m m (by omega) (by omega) (by rw [hz2];omega) (by omega);rw [hz1,Int.toNat_natCast,Nat.mul_one] at h;exact h
theorem Row.made (w:World)(m:Nat):Row (w.alloc (.cells (madeCells #[.int .u32 0] m) 104)) w.heap.size (List.replicate m 0):=by
 refine⟨by simp,zgN m,fun j hj=>⟨?_,World.frozen?_alloc_new _ _ _ _⟩⟩;rw [List.length_replicate] at hj;rw [World.cell?_alloc_new];simp [madeCells,hj,Nat.mod_one,List.getD_eq_getElem?_getD]
theorem Row.store(h:Row w g zs)(hk:k<zs.length)(hz:0≤z∧z<4294967296):Row (w.setCell ⟨g,k,none⟩ (.int .u32 z)) g (zs.set k z):=by
 obtain⟨h1,h2,h3⟩:=h;refine⟨by simpa [World.setCell] using h1,zgO h2 k hz,fun j hj=>?_⟩;rw [List.length_set] at hj;obtain⟨c1,c2⟩:=h3 j hj;obtain⟨c3,c4⟩:=h3 k hk;rw [World.frozen?_setCell,zQ zs k j z hk];refine⟨?_,c2⟩;by_cases e:j=k
 ·subst e;rw [if_pos rfl];exact World.cell?_setCell_same (h:=c3) ..
 ·rw [if_neg e,← c1];exact World.cell?_setCell_other (h:=fun h=>e (congrArg Addr.off h).symm) ..
theorem Row.lim(h:Row w g zs)(cap:Nat)(hc:zs.length≤cap)(hl:zs.length≤1000000):Lim w (.slice (some ⟨g,0,none⟩) zs.length cap) zs:=by
 obtain⟨h1,h2,h3⟩:=h;exact⟨_,cap,rfl,hc,hl,h2,fun _=>⟨g,0,rfl,h1,fun i hi=>by rw [Nat.zero_add];exact(h3 i hi).1⟩⟩
def LimPost (w:World)(z:Int)(n:Nat)(e:Ending)(w':World):Prop:=
 ∃ v zs,e=.returned v∧Lim w' v zs∧lv zs=z∧zs.length≤n∧Below w.heap.size w w'
def AddInv (w wr:World)(a b:List Int)(m k:Nat)(cy:Int)(zs:List Int):Prop:=
 zs.length=m∧Row wr w.heap.size zs∧Below w.heap.size w wr∧lv (zs.take k)+bp k*cy=lv (a.take k)+lv (b.take k)
theorem AddInv.start (w:World)(a b:List Int)(m:Nat):AddInv w (w.alloc (.cells (madeCells #[.int .u32 0] m) 104)) a b m 0 0 (List.replicate m 0):=
 ⟨List.length_replicate,Row.made w m,(Below.refl _ _).alloc (Nat.le_refl _) _,by simp [lv]⟩
theorem AddInv.step(h:AddInv w wr a b m k cy zs)(hk:k<m):
  AddInv w (wr.setCell ⟨w.heap.size,k,none⟩ (.int .u32 ((a.getD k 0+b.getD k 0+cy)%4294967296))) a b m (k+1) ((a.getD k 0+b.getD k 0+cy)/4294967296) (zs.set k ((a.getD k 0+b.getD k 0+cy)%4294967296)):=by
 obtain⟨h1,h2,h3,h4⟩:=h;refine⟨by rw [List.length_set];exact h1,h2.store (by omega) (by omega),h3.setCell (Nat.le_refl _) _,?_⟩;rw [zD,zD,zD,zaz _ _ _ _ (Nat.le_refl _),zQ _ _ _ _ (by omega),if_pos rfl];have e:bp k *((a.getD k 0+b.getD k 0+cy)%4294967296+4294967296 *((a.getD k 0+b.getD k 0+cy)/4294967296))=bp k *(a.getD k 0+b.getD k 0+cy):=by rw [Int.emod_add_mul_ediv]
 generalize (a.getD k 0+b.getD k 0+cy)%4294967296=s at *;generalize (a.getD k 0+b.getD k 0+cy)/4294967296=c at *;rw [Int.mul_add,Int.mul_add,Int.mul_add] at e;have e2:bp (k+1)*c=bp k *(4294967296*c):=by simp only [bp];rw [Int.mul_comm 4294967296 (bp k),Int.mul_assoc]
 rw [e2];omega
theorem AddInv.done(h:AddInv w wr a b m m cy zs)(hc:0≤cy∧cy≤1)(ha:LB a)(hb:LB b)(la:a.length<m)(lb:b.length<m):lv zs=lv a+lv b:=by
 obtain⟨h1,h2,h3,h4⟩:=h;rw [zaj zs (by omega),zaj a (by omega),zaj b (by omega)] at h4;have e1:=zao ha;have e2:=zao hb;have e3:bp a.length≤bp (m-1):=zab (by omega);have e4:bp b.length≤bp (m-1):=zab (by omega);have e5:bp m=4294967296*bp (m-1):=by rw [← Nat.sub_add_cancel (show 1≤m by omega)];rfl
 have e6:=zF h2.2.1;have e7:=zK (m-1);rcases(by omega:cy=0∨cy=1) with rfl | rfl
 ·omega
 ·omega
theorem zdO(hl:zs.length=m)(hr:Row wr w.heap.size zs)(hb:Below w.heap.size w wr)(hz:lv zs=z)(hm:m≤1000000)(hn:m≤n):LimPost w z n (.returned (.slice (some ⟨w.heap.size,0,none⟩) m m)) wr:=by
 subst hl;exact⟨_,zs,rfl,hr.lim _ (Nat.le_refl _) hm,hz,hn,hb⟩
theorem zex (w:World)(va vb:Value)(a b:List Int)(ha:Lim w va a)(hb:Lim w vb b)(hla:a.length≤900000)(hlb:b.length≤900000):
  Calls Tryz.prog 127 #[va,vb] w fun e w'=>LimPost w (lv a+lv b) (max a.length b.length+1) e w':=by
 have HA:Hid (Lim w va a):=ha;have HB:Hid (Lim w vb b):=hb;obtain⟨ao,acap,rfl,hacap,halen,halb,hac⟩:=ha;obtain⟨bo,bcap,rfl,hbcap,hblen,hblb,hbc⟩:=hb;clear hac hbc;obtain⟨m,hm⟩:∃ m,m=max a.length b.length+1:=⟨_,rfl⟩;have hma:a.length<m:=by omega
 have hmb:b.length<m:=by omega
 have hm3:m≤900001:=by omega
 have hmk:=zbc m (by omega);rw [← hm];rcases(by omega:(a.length<b.length∧(b.length:Int)+1=(m:Int))∨(b.length≤a.length∧(a.length:Int)+1=(m:Int))) with⟨hab,e⟩ |⟨hab,e⟩
 all_goals
  clear hm;go_enter Tryz.func127,Tryz.ntmps127;go_wp2;go_loopw [6,17] (fun c i wr=>∃(k:Nat) (cy:Int) (zs:List Int),k≤m∧i=.int .i64 k∧c=.int .u32 cy∧0≤cy∧cy≤1∧AddInv w wr a b m k cy zs) (fun _ i _=>m-(intOf i).toNat)
  case atStart=>exact⟨0,0,_,Nat.zero_le _,rfl,rfl,by decide,by decide,AddInv.start w a b m⟩
  case round=>
   obtain⟨k,cy,zs,hk,rfl,rfl,hc0,hc1,hinv⟩:=hrel;by_cases hlt:k<m
   ·have hst:=hinv.step hlt;obtain⟨hcell,hfr⟩:=hinv.2.1.2.2 k (by have:=hinv.1;omega);have hLa:=HA.out.below hinv.2.2.1 (Nat.le_refl _);have hLb:=HB.out.below hinv.2.2.1 (Nat.le_refl _);have hgx:=halb k;have hgy:=hblb k;have hsz:=hinv.2.1.1;generalize zs.getD k 0=z0 at *;go_wp2_with fail;refine(zb8 _ _ a k hLa (by omega) (by omega)).mono ?_;rintro e w' ⟨rfl,rfl⟩;rw [Int.toNat_natCast];generalize a.getD k 0=x at *;go_wp2_with fail;refine(zb8 _ _ b k hLb (by omega) (by omega)).mono ?_;rintro e w' ⟨rfl,rfl⟩;rw [Int.toNat_natCast];generalize b.getD k 0=y at *;go_wp2_with fail;refine(add32 x y cy _ hgx hgy ⟨hc0,hc1⟩).mono ?_;rintro e w' ⟨rfl,rfl⟩;have hs0:0≤(x+y+cy)/4294967296:=by omega
    have hs1:(x+y+cy)/4294967296≤1:=by omega
    generalize (x+y+cy)%4294967296=s at *;generalize (x+y+cy)/4294967296=c at *;go_wp2;go_roundw
    case rel=>exact⟨k+1,c,_,by omega,by go_num,rfl,hs0,hs1,hst⟩
    case measure=>simp [intOf];omega
   ·obtain rfl:k=m:=by omega
    have hd:=hinv.done ⟨hc0,hc1⟩ halb hblb hma hmb;have hl:=hinv.1;go_wp2;go_ret;exact zdO hl hinv.2.1 hinv.2.2.1 hd (by omega) (Nat.le_refl _)
def SubInv (w wr:World)(a b:List Int)(m k:Nat)(bw:Int)(zs:List Int):Prop:=
 zs.length=m∧Row wr w.heap.size zs∧Below w.heap.size w wr∧lv (zs.take k)-bp k*bw=lv (a.take k)-lv (b.take k)
theorem SubInv.start (w:World)(a b:List Int)(m:Nat):SubInv w (w.alloc (.cells (madeCells #[.int .u32 0] m) 104)) a b m 0 0 (List.replicate m 0):=
 ⟨List.length_replicate,Row.made w m,(Below.refl _ _).alloc (Nat.le_refl _) _,by simp [lv]⟩
theorem Row.drew(h:Row w g zs):Row w.drew g zs:=h
theorem SubInv.drew(h:SubInv w wr a b m k cy zs):SubInv w wr.drew a b m k cy zs:=
 ⟨h.1,h.2.1.drew,h.2.2.1.drew,h.2.2.2⟩
theorem zhd (x y:Int):0≤bor x y∧bor x y≤1:=by unfold bor;split <;> decide
theorem zhe (x y c:Int)(hx:0≤x∧x<4294967296)(hy:0≤y∧y<4294967296)(hc:0≤c∧c≤1):(x-y-c)%4294967296-4294967296*bor x (y+c)=x-y-c:=by
 unfold bor;split <;> omega
theorem SubInv.step(h:SubInv w wr a b m k cy zs)(hk:k<m)(hc:0≤cy∧cy≤1)(ha:LB a)(hb:LB b):
  SubInv w (wr.setCell ⟨w.heap.size,k,none⟩ (.int .u32 ((a.getD k 0-b.getD k 0-cy)%4294967296))) a b m (k+1) (bor (a.getD k 0) (b.getD k 0+cy)) (zs.set k ((a.getD k 0-b.getD k 0-cy)%4294967296)):=by
 obtain⟨h1,h2,h3,h4⟩:=h;refine⟨by rw [List.length_set];exact h1,h2.store (by omega) (by omega),h3.setCell (Nat.le_refl _) _,?_⟩;rw [zD,zD,zD,zaz _ _ _ _ (Nat.le_refl _),zQ _ _ _ _ (by omega),if_pos rfl];have e:bp k *((a.getD k 0-b.getD k 0-cy)%4294967296-4294967296*bor (a.getD k 0) (b.getD k 0+cy))=bp k *(a.getD k 0-b.getD k 0-cy):=by rw [zhe _ _ _ (ha k) (hb k) hc]
 generalize (a.getD k 0-b.getD k 0-cy)%4294967296=s at *;generalize bor (a.getD k 0) (b.getD k 0+cy)=c at *;rw [Int.mul_sub,Int.mul_sub,Int.mul_sub] at e;have e2:bp (k+1)*c=bp k *(4294967296*c):=by simp only [bp];rw [Int.mul_comm 4294967296 (bp k),Int.mul_assoc]
 rw [e2];omega
theorem SubInv.done(h:SubInv w wr a b m m cy zs)(hc:0≤cy∧cy≤1)(la:a.length=m)(lb:b.length≤m)(hle:lv b≤lv a):lv zs=lv a-lv b:=by
 obtain⟨h1,h2,h3,h4⟩:=h;rw [zaj zs (by omega),zaj a (by omega),zaj b (by omega)] at h4;have e1:=zao h2.2.1;rw [h1] at e1;rcases(by omega:cy=0∨cy=1) with rfl | rfl
 ·omega
 ·omega
theorem zft(ha:LB a)(hb:LB b)(nb:Nrm b)(h:lv b≤lv a):b.length≤a.length:=by
 by_cases hl:a.length<b.length
 ·have:=zbw ha hb nb hl;omega
 ·omega
theorem zed (w:World)(va vb:Value)(a b:List Int)(ha:Lim w va a)(hb:Lim w vb b)(nb:Nrm b)(hle:lv b≤lv a):
  Calls Tryz.prog 128 #[va,vb] w fun e w'=>LimPost w (lv a-lv b) a.length e w':=by
 have HA:Hid (Lim w va a):=ha;have HB:Hid (Lim w vb b):=hb;obtain⟨ao,acap,rfl,hacap,halen,halb,hac⟩:=ha;obtain⟨bo,bcap,rfl,hbcap,hblen,hblb,hbc⟩:=hb;clear hbc;have hbl:=zft halb hblb nb hle;have hmk:=zbc a.length (by omega);go_enter Tryz.func128,Tryz.ntmps128;go_wp2;go_loopw [6,13] (fun c i wr=>∃(k:Nat) (cy:Int) (zs:List Int),k≤a.length∧i=.int .i64 k∧c=.int .u32 cy∧0≤cy∧cy≤1∧SubInv w wr a b a.length k cy zs) (fun _ i _=>a.length-(intOf i).toNat)
 case atStart=>exact⟨0,0,_,Nat.zero_le _,rfl,rfl,by decide,by decide,SubInv.start w a b a.length⟩
 case round=>
  obtain⟨k,cy,zs,hk,rfl,rfl,hc0,hc1,hinv⟩:=hrel;by_cases hlt:k<a.length
  ·have hst:=hinv.step hlt ⟨hc0,hc1⟩ halb hblb;obtain⟨hcell,hfr⟩:=hinv.2.1.2.2 k (by have:=hinv.1;omega);have hLb:=HB.out.below hinv.2.2.1 (Nat.le_refl _);have hbe:=hinv.2.2.1;have hgx:=halb k;have hgy:=hblb k;have hsz:=hinv.2.1.1;replace hac:=hac (by omega);obtain⟨ab,aoff,rfl,hab,hac⟩:=hac;have hca:wr.cell? ⟨ab,aoff+k,none⟩=some (.int .u32 (a.getD k 0)):=(hbe.cell (p:=⟨ab,aoff+k,none⟩) hab).trans (hac k hlt);clear hac;generalize zs.getD k 0=z0 at *;have hlb':=fun W (h:Below w.heap.size w W)=>zb8 W (.slice bo b.length bcap) b k (HB.out.below h (Nat.le_refl _)) (by omega) (by omega);rw [Int.toNat_natCast] at hlb';generalize a.getD k 0=x at *;generalize b.getD k 0=y at *;have hbo:=zhd x (y+cy);have hks:∀ v,(wr.setCell ⟨w.heap.size,k,none⟩ v).cell? ⟨ab,aoff+k,none⟩=some (.int .u32 x):=fun v=>(World.cell?_setCell_other (h:=fun h=>by have:=congrArg Addr.block h;simp at this;omega) ..).trans hca;go_wp2
   go_region_held3 (fun w'=>w'.cell? ⟨ab,aoff+k,none⟩=some (.int .u32 x)) (go_keep) (first |(go_at_call 146;refine(hlb' _ (by first | exact hbe.drew | exact hbe)).mono ?_;rintro e w' ⟨rfl,rfl⟩) |(go_at_call 147;refine(sub32 x y cy _ hgx hgy ⟨hc0,hc1⟩).mono ?_;rintro e w' ⟨rfl,rfl⟩))
   generalize (x-y-cy)%4294967296=s at *;generalize bor x (y+cy)=c at *;go_wp2;go_roundw
   case rel=>exact⟨k+1,c,_,by omega,by go_num,rfl,hbo.1,hbo.2,hst.drew⟩
   case measure=>simp [intOf];omega
  ·obtain rfl:k=a.length:=by omega
   have hd:=hinv.done ⟨hc0,hc1⟩ rfl hbl hle;have hl:=hinv.1;go_wp2;go_ret;exact zdO hl hinv.2.1 hinv.2.2.1 hd (by omega) (Nat.le_refl _)
end Go.Proofs.YtdedolkgcdlmeaaGreatDoor
