import Derived.Test.YtncamilanceahaaGreatRows
import Derived.WalkKit
import Derived.WalkSpells
import Derived.WalkLawsBesides
import Derived.Laws.AppendOwn
import Derived.OwnWalk
import Derived.Deep.QuietTactic
import Derived.BigQuiet
import Derived.Deep.RegionHeld3
import Derived.Deep.DrawnRows
set_option maxHeartbeats 400000
namespace Go.Proofs.YtncamilanceahaaGreat
open Go.RowKit
variable{v:Value}{w w':World}{base size n:Nat}
theorem hide {p:Prop}(h:p):Hid p:=h
theorem zm{b:Nat}{o:Obj}(h:w.heap[b]?=some o):b<w.heap.size:=by
 rcases Nat.lt_or_ge b w.heap.size with hlt | hge
 ·exact hlt
 ·rw [Array.getElem?_eq_none hge] at h;cases h
def byt (s:ByteArray)(k:Nat):Int:=if h:k<s.size then ((s[k]'h).toNat:Int) else 0
theorem zcK {s:ByteArray}{k:Nat}(h:k<s.size):((s[k]'h).toNat:Int)=byt s k:=by simp [byt,h]
theorem zas{W W':World}{e:TypeId}{xs:List Value}(h:W.ownsRow base e size v n xs)(hb:Below W.heap.size W W'):W'.ownsRow base e size v n xs:=by
 refine⟨h.1,?_⟩;rcases h.2 with hn |⟨g,cap,cur,e,hbg,hh,rest⟩
 ·exact .inl hn
 ·exact .inr ⟨g,cap,cur,e,hbg,(hb.block _ (zm hh)).trans hh,rest⟩
theorem zaC{wr w3:World}{e:TypeId}{xs:List Value}{ob:Obj}(h:wr.ownsRow base e size v n xs)(hB:base≤wr.heap.size)(hg:(wr.alloc ob).grownBy w3 v.ownBlock):Below base wr w3:=
 ((Below.refl _ _).alloc hB _).grown hg (by simp;omega) (fun k hk=>(h.lt k hk).1)
def RowS (w:World)(v:Value)(ks:List Int):Prop:=
 ∃ ao cap,v=.slice ao ks.length cap∧ks.length≤cap∧(∀ i,-9223372036854775808≤ks.getD i 0∧ks.getD i 0≤9223372036854775807) ∧
  (0<ks.length→∃ b off,ao=some ⟨b,off,none⟩∧b<w.heap.size∧∀ i,i<ks.length→w.cell? ⟨b,off+i,none⟩=some (.int .i64 (ks.getD i 0)))
theorem RowS.below{C:Nat}{ks:List Int}(h:RowS w v ks)(hb:Below C w w')(hC:w.heap.size≤C):RowS w' v ks:=by
 obtain⟨ao,cap,hv,h1,hk,h2⟩:=h;refine⟨ao,cap,hv,h1,hk,fun h0=>?_⟩;obtain⟨b,off,e,hlt,hc⟩:=h2 h0;exact⟨b,off,e,Nat.lt_of_lt_of_le hlt hb.size,fun i hi=>(hb.cell (p:=⟨b,off+i,none⟩) (Nat.lt_of_lt_of_le hlt hC)).trans (hc i hi)⟩
def RowsS (w:World)(v:Value)(rs:List (List Int)):Prop:=
 ∃ ao cap,v=.slice ao rs.length cap∧rs.length≤cap∧(0<rs.length→∃ b off,ao=some ⟨b,off,none⟩∧b<w.heap.size∧∀ i r,rs[i]?=some r→∃ u,w.cell? ⟨b,off+i,none⟩=some u∧RowS w u r)
theorem RowsS.below{rs:List (List Int)}(h:RowsS w v rs)(hb:Below w.heap.size w w'):RowsS w' v rs:=by
 obtain⟨ao,cap,hv,h1,h2⟩:=h;refine⟨ao,cap,hv,h1,fun h0=>?_⟩;obtain⟨b,off,e,hlt,hc⟩:=h2 h0;refine⟨b,off,e,Nat.lt_of_lt_of_le hlt hb.size,fun i r hi=>?_⟩;obtain⟨u,h3,h4⟩:=hc i r hi;exact⟨u,(hb.cell (p:=⟨b,off+i,none⟩) hlt).trans h3,h4.below hb (Nat.le_refl _)⟩
theorem RowsS.at{rs:List (List Int)}(h:RowsS w v rs)(i:Nat)(hi:i<rs.length):∃ b off cap,v=.slice (some ⟨b,off,none⟩) rs.length cap∧b<w.heap.size∧∃ u,w.cell? ⟨b,off+i,none⟩=some u∧RowS w u rs[i]:=by
 obtain⟨ao,cap,hv,h1,h2⟩:=h;obtain⟨b,off,e,hlt,hc⟩:=h2 (by omega);subst e;exact⟨b,off,cap,hv,hlt,hc i rs[i] (by simp [hi])⟩
end Go.Proofs.YtncamilanceahaaGreat
/- Plain arithmetic of limbs: numbers to the base 4294967296, the lowest first. No Go in it. -/
namespace Go.Proofs.YtncamilanceahaaGreat.Limbs
variable{zs xs a b:List Int}{x:Int}{n k:Nat}
def lv:List Int→Int
 | []=>0
 | x::xs=>x+4294967296*lv xs
def LB (zs:List Int):Prop:=∀ i:Nat,0≤zs.getD i 0∧zs.getD i 0<4294967296
def Nrm (zs:List Int):Prop:=zs.length=0∨zs.getD (zs.length-1) 0≠0
def bp:Nat→Int
 | 0=>1
 | n+1=>4294967296*bp n
theorem zQ (n:Nat):0<bp n:=by
 induction n with
 | zero=>simp [bp]
 | succ n ih=>simp only [bp];omega
theorem zbw (m n:Nat):bp (m+n)=bp m*bp n:=by
 induction m with
 | zero=>simp [bp]
 | succ m ih=>rw [Nat.succ_add];simp only [bp];rw [ih,Int.mul_assoc]
theorem zad{m:Nat}(h:m≤n):bp m≤bp n:=by
 obtain⟨k,rfl⟩:=Nat.exists_eq_add_of_le h;rw [zbw];have h1:=zQ m;have h2:=zQ k;have:bp m*1≤bp m*bp k:=Int.mul_le_mul_of_nonneg_left (by omega) (by omega);omega
theorem zaF:LB []:=by intro i;simp
theorem zb8(h:LB (x::xs)):LB xs:=fun i=>by simpa using h (i+1)
theorem zbZ(h:LB (x::xs)):0≤x∧x<4294967296:=by simpa using h 0
theorem zbY(hx:0≤x∧x<4294967296)(h:LB xs):LB (x::xs):=by
 intro i;cases i with
 | zero=>simpa using hx
 | succ i=>simpa using h i
theorem zfL(h:∀ z∈zs,0≤z∧z<4294967296):LB zs:=by
 induction zs with
 | nil=>exact zaF
 | cons x xs ih=>exact zbY (h x (by simp)) (ih fun z hz=>h z (by simp [hz]))
theorem zb9(h:LB zs)(k:Nat):LB (zs.take k):=by
 intro i;have:=h i;by_cases hk:i<k
 ·simpa [List.getD_eq_getElem?_getD,List.getElem?_take,hk] using this
 ·simp [List.getD_eq_getElem?_getD,List.getElem?_take,hk]
theorem zaV(h:LB zs)(k:Nat):LB (zs.drop k):=by
 intro i;have:=h (k+i);simpa [List.getD_eq_getElem?_getD,List.getElem?_drop] using this
theorem zay (zs:List Int)(n i:Nat)(h:i<n):(zs.take n).getD i 0=zs.getD i 0:=by
 rw [List.getD_eq_getElem?_getD,List.getElem?_take,if_pos h,List.getD_eq_getElem?_getD]
theorem zeu (zs:List Int)(n i:Nat):(zs.drop n).getD i 0=zs.getD (n+i) 0:=by
 rw [List.getD_eq_getElem?_getD,List.getElem?_drop,List.getD_eq_getElem?_getD]
theorem zbF (zs:List Int)(i:Nat)(h:zs.length≤i):zs.getD i 0=0:=by
 rw [List.getD_eq_getElem?_getD,List.getElem?_eq_none h];rfl
theorem zF(h:LB zs):0≤lv zs:=by
 induction zs with
 | nil=>simp [lv]
 | cons x xs ih=>have:=ih (zb8 h);have:=zbZ h;simp only [lv];omega
theorem zaq(h:LB zs):lv zs<bp zs.length:=by
 induction zs with
 | nil=>simp [lv,bp]
 | cons x xs ih=>have:=ih (zb8 h);have:=zbZ h;simp only [lv,List.length_cons,bp];omega
theorem zda (xs ys:List Int):lv (xs++ys)=lv xs+bp xs.length*lv ys:=by
 induction xs with
 | nil=>simp [lv,bp]
 | cons x xs ih=>simp only [List.cons_append,lv,ih,List.length_cons,bp];rw [Int.mul_add,Int.mul_assoc];omega
theorem zw (zs:List Int)(k:Nat):lv (zs.take (k+1))=lv (zs.take k)+bp k*zs.getD k 0:=by
 by_cases h:k<zs.length
 ·rw [List.take_succ_eq_append_getElem h,zda];simp [lv,List.length_take,Nat.min_eq_left (Nat.le_of_lt h),List.getD_eq_getElem?_getD,h]
 ·rw [List.take_of_length_le (by omega),List.take_of_length_le (by omega)];simp [List.getD_eq_getElem?_getD,List.getElem?_eq_none (Nat.le_of_not_lt h)]
theorem zac (zs:List Int)(k:Nat)(h:k≤zs.length):lv zs=lv (zs.take k)+bp k*lv (zs.drop k):=by
 have:=zda (zs.take k) (zs.drop k);rw [List.take_append_drop,List.length_take,Nat.min_eq_left h] at this;exact this
theorem zah (zs:List Int)(h:zs.length≤k):lv (zs.take k)=lv zs:=by
 rw [List.take_of_length_le h]
theorem zco(h:LB zs)(k:Nat):lv (zs.take k)<bp k:=by
 have h1:=zaq (zb9 h k);have h2:bp (zs.take k).length≤bp k:=zad (List.length_take_le k zs);omega
theorem zbd(h:LB zs)(k:Nat):0≤lv (zs.take k):=zF (zb9 h k)
theorem zE (zs:List Int)(k:Nat)(h:k<zs.length):zs.drop k=zs.getD k 0::zs.drop (k+1):=by
 rw [List.drop_eq_getElem_cons h];simp [List.getD_eq_getElem?_getD,h]
theorem zeM(ha:LB a)(hb:LB b)(hl:a.length=b.length)(hk:k<a.length)(hd:a.drop (k+1)=b.drop (k+1))(hx:a.getD k 0<b.getD k 0):lv a<lv b:=by
 have e1:=zac a k (by omega);have e2:=zac b k (by omega);rw [zE a k hk] at e1;rw [zE b k (by omega),← hd] at e2;simp only [lv] at e1 e2;have h1:=zco ha k;have h2:=zbd hb k;generalize lv (a.drop (k+1))=t at e1 e2;have hp:=zQ k;have h3:bp k *(a.getD k 0+4294967296*t+1)≤bp k *(b.getD k 0+4294967296*t):=Int.mul_le_mul_of_nonneg_left (by omega) (by omega);rw [Int.mul_add,Int.mul_one] at h3;omega
theorem zbM(h:LB zs)(hn:Nrm zs)(h0:0<zs.length):bp (zs.length-1)≤lv zs:=by
 have e:=zac zs (zs.length-1) (by omega);rw [zE zs (zs.length-1) (by omega)] at e;have hd:zs.drop (zs.length-1+1)=[]:=List.drop_eq_nil_of_le (by omega);rw [hd] at e;simp only [lv] at e;have h1:=zbd h (zs.length-1);have h2:=h (zs.length-1);have h3:zs.getD (zs.length-1) 0≠0:=by rcases hn with hn | hn;omega;exact hn
 have hp:=zQ (zs.length-1);have h4:bp (zs.length-1)*1≤bp (zs.length-1) *(zs.getD (zs.length-1) 0+4294967296*0):=Int.mul_le_mul_of_nonneg_left (by omega) (by omega);omega
theorem zbc(ha:LB a)(hb:LB b)(hn:Nrm b)(hl:a.length<b.length):lv a<lv b:=by
 have h1:=zaq ha;have h2:=zbM hb hn (by omega);have h3:bp a.length≤bp (b.length-1):=zad (by omega);omega
theorem zbe(h:LB zs)(hn:Nrm zs):lv zs=0↔zs.length=0:=by
 constructor
 ·intro h0;by_cases hl:zs.length=0
  ·exact hl
  ·have h1:=zbM h hn (by omega);have:=zQ (zs.length-1);omega
 ·intro hl;rw [List.eq_nil_of_length_eq_zero hl];rfl
theorem zeI(h:LB zs)(hn:Nrm zs)(hlt:lv zs<bp n):zs.length≤n:=by
 by_cases hl:zs.length≤n
 ·exact hl
 ·have h1:=zbM h hn (by omega);have h2:bp n≤bp (zs.length-1):=zad (by omega);omega
theorem zeL(ha:LB a)(hb:LB b)(na:Nrm a)(nb:Nrm b)(h:lv a=lv b):a=b:=by
 have hl:a.length=b.length:=by
  by_cases h1:a.length<b.length
  ·have:=zbc ha hb nb h1;omega
  ·by_cases h2:b.length<a.length
   ·have:=zbc hb ha na h2;omega
   ·omega
 clear na nb
 induction a generalizing b with
 | nil=>exact(List.eq_nil_of_length_eq_zero hl.symm).symm
 | cons x xs ih=>
  match b,hl with
  | y::ys,hl=>
   simp only [lv] at h;have h1:=zbZ ha;have h2:=zbZ hb;have e:x=y:=by omega
   rw [e,ih (zb8 ha) (zb8 hb) (by omega) (by simpa using hl)]
theorem zfN(h:LB zs)(k:Nat){z:Int}(hz:0≤z∧z<4294967296):LB (zs.set k z):=by
 intro i;rw [List.getD_eq_getElem?_getD,List.getElem?_set];by_cases hk:k=i
 ·subst hk;by_cases hl:k<zs.length <;> simp [hl,hz]
 ·have:=h i;simpa [hk,List.getD_eq_getElem?_getD] using this
theorem zC (zs:List Int)(k i:Nat)(z:Int)(hk:k<zs.length):(zs.set k z).getD i 0=if i=k then z else zs.getD i 0:=by
 rw [List.getD_eq_getElem?_getD,List.getElem?_set];by_cases h:k=i
 ·subst h;simp [hk]
 ·have h':¬ i=k:=fun e=>h e.symm;simp [h,h',List.getD_eq_getElem?_getD]
theorem zeN (zs:List Int)(k:Nat)(z:Int)(h:k<zs.length):lv (zs.set k z)=lv zs+bp k *(z-zs.getD k 0):=by
 induction zs generalizing k with
 | nil=>simp at h
 | cons x xs ih=>
  cases k with
  | zero=>simp [lv,bp];omega
  | succ k=>
   have:=ih k (by simpa using h);simp only [List.set_cons_succ,lv,this,bp,List.getD_cons_succ];rw [Int.mul_add,Int.mul_assoc];omega
theorem zau (zs:List Int)(k i:Nat)(z:Int)(h:i≤k):(zs.set k z).take i=zs.take i:=by
 rw [List.take_set_of_le h]
theorem zce (zs:List Int)(k i:Nat)(z:Int)(h:k<i):(zs.set k z).drop i=zs.drop i:=by
 rw [List.drop_set_of_lt h]
theorem zii (n:Nat):lv (List.replicate n 0)=0:=by
 induction n with
 | zero=>rfl
 | succ n ih=>simp only [List.replicate_succ,lv,ih];rfl
theorem zfM (n:Nat):LB (List.replicate n 0):=zfL fun z hz=>by
 rw [List.eq_of_mem_replicate hz];decide
end Go.Proofs.YtncamilanceahaaGreat.Limbs
/- The leaves: one limb, its sums, orders. Conditions: the slices hold limbs. -/
namespace Go.Proofs.YtncamilanceahaaGreat
open Go.RowKit Limbs
variable{a b:Int}{zs:List Int}{w w':World}{B n k:Nat}
def Lim (w:World)(v:Value)(zs:List Int):Prop:=
 ∃ ao cap,v=.slice ao zs.length cap∧zs.length≤cap∧zs.length≤1000000∧LB zs ∧
  (0<zs.length→∃ b off,ao=some ⟨b,off,none⟩∧b<w.heap.size∧∀ i,i<zs.length→w.cell? ⟨b,off+i,none⟩=some (.int .u32 (zs.getD i 0)))
theorem Lim.below{v:Value}(h:Lim w v zs)(hb:Below B w w')(hB:w.heap.size≤B):Lim w' v zs:=by
 obtain⟨ao,cap,hv,h1,h2,h3,h4⟩:=h;refine⟨ao,cap,hv,h1,h2,h3,fun h0=>?_⟩;obtain⟨b,off,e,hlt,hc⟩:=h4 h0;exact⟨b,off,e,Nat.lt_of_lt_of_le hlt hb.size,fun i hi=>(hb.cell (p:=⟨b,off+i,none⟩) (Nat.lt_of_lt_of_le hlt hB)).trans (hc i hi)⟩
theorem zbG (w:World)(v:Value)(zs:List Int)(i:Int)(h:Lim w v zs)(h0:0≤i)(h1:i≤2000000):
  Calls Tryz.prog 99 #[v,.int .i64 i] w fun e w'=>e=.returned (.int .u32 (zs.getD i.toNat 0))∧w'=w:=by
 obtain⟨ao,cap,rfl,hcap,hlen,hlb,hc⟩:=h;obtain⟨k,rfl⟩:=Int.eq_ofNat_of_zero_le h0;rw [Int.toNat_natCast];by_cases hk:k<zs.length
 ·obtain⟨b,off,rfl,hb,hc⟩:=hc (by omega);have hck:=hc k hk;clear hc;generalize zs.getD k 0=z at *;go_enter Tryz.func99,Tryz.ntmps99;go_wp2;go_ret;exact⟨rfl,rfl⟩
 ·have hz:zs.getD k 0=0:=by simp [List.getD_eq_getElem?_getD,List.getElem?_eq_none (Nat.le_of_not_lt hk)]
  clear hc;rw [hz];clear hz;go_enter Tryz.func99,Tryz.ntmps99;go_wp2;go_ret;exact⟨rfl,rfl⟩
def cmpI (a b:Int):Int:=if a<b then -1 else if b<a then 1 else 0
theorem zgL (x y:Int)(w:World):
  Calls Tryz.prog 103 #[.int .i64 x,.int .i64 y] w fun e w'=>e=.returned (.int .i64 (cmpI x y))∧w'=w:=by
 unfold cmpI;by_cases h1:x<y
 ·rw [if_pos h1];go_enter Tryz.func103,Tryz.ntmps103;go_wp2;go_ret;exact⟨rfl,rfl⟩
 ·rw [if_neg h1];by_cases h2:y<x
  ·rw [if_pos h2];go_enter Tryz.func103,Tryz.ntmps103;go_wp2;go_ret;exact⟨rfl,rfl⟩
  ·rw [if_neg h2];obtain rfl:x=y:=by omega
   go_enter Tryz.func103,Tryz.ntmps103;go_wp2;go_ret;exact⟨rfl,rfl⟩
theorem zgQ (x y:Int)(w:World):
  Calls Tryz.prog 104 #[.int .u32 x,.int .u32 y] w fun e w'=>e=.returned (.int .i64 (cmpI x y))∧w'=w:=by
 unfold cmpI;by_cases h1:x<y
 ·rw [if_pos h1];go_enter Tryz.func104,Tryz.ntmps104;go_wp2;go_ret;exact⟨rfl,rfl⟩
 ·rw [if_neg h1];by_cases h2:y<x
  ·rw [if_pos h2];go_enter Tryz.func104,Tryz.ntmps104;go_wp2;go_ret;exact⟨rfl,rfl⟩
  ·rw [if_neg h2];obtain rfl:x=y:=by omega
   go_enter Tryz.func104,Tryz.ntmps104;go_wp2;go_ret;exact⟨rfl,rfl⟩
theorem zfb {k l:IntKind}{c d:Int}(h:a=b)(g:c=d):Ending.returned (.tuple #[.int k a,.int l c])=.returned (.tuple #[.int k b,.int l d]):=by rw [h,g]
theorem add32 (x y c:Int)(w:World)(hx:0≤x∧x<4294967296)(hy:0≤y∧y<4294967296)(hc:0≤c∧c≤1):
  Calls Tryz.prog 98 #[.int .u32 x,.int .u32 y,.int .u32 c] w fun e w'=>e=.returned (.tuple #[.int .u32 ((x+y+c)%4294967296),.int .u32 ((x+y+c)/4294967296)])∧w'=w:=by
 obtain⟨_,_⟩:=hx;obtain⟨_,_⟩:=hy;obtain⟨_,_⟩:=hc;go_enter Tryz.func98,Tryz.ntmps98;go_wp2;go_ret2;exact⟨zfb (by omega) (by omega),rfl⟩
def bor (x y:Int):Int:=if x<y then 1 else 0
theorem zgr (xb yb db:Nat)(hx:xb≤1)(hy:yb≤1)(hd:db≤1):
  (((1 ^^^ xb) &&& yb) |||((1 ^^^ (xb ^^^ yb)) &&& db))=if xb=yb then db else yb:=by
 rcases(by omega:xb=0∨xb=1) with rfl | rfl <;> rcases(by omega:yb=0∨yb=1) with rfl | rfl <;> rcases(by omega:db=0∨db=1) with rfl | rfl <;> decide
theorem zjx (x y c:Int)(hx:0≤x∧x<4294967296)(hy:0≤y∧y<4294967296)(hc:0≤c∧c≤1):
  bits BinOp.or IntKind.u32 (bits BinOp.and IntKind.u32 (bits BinOp.xor IntKind.u32 IntKind.u32.max x) y) (bits BinOp.and IntKind.u32 (bits BinOp.xor IntKind.u32 IntKind.u32.max (bits BinOp.xor IntKind.u32 x y)) ((x-y-c)%4294967296))/2147483648=bor x (y+c):=by
 have hm:IntKind.u32.max=((4294967295:Nat):Int):=by decide
 obtain⟨d,hd⟩:∃ d:Nat,(x-y-c)%4294967296=(d:Int):=Int.eq_ofNat_of_zero_le (by omega);obtain⟨x,rfl⟩:=Int.eq_ofNat_of_zero_le hx.1;obtain⟨y,rfl⟩:=Int.eq_ofNat_of_zero_le hy.1;have hx':x<4294967296:=by omega
 have hy':y<4294967296:=by omega
 have hd':d<4294967296:=by omega
 have l1:4294967295 ^^^ x<4294967296:=Nat.xor_lt_two_pow (n:=32) (by decide) hx';have l2:x ^^^ y<4294967296:=Nat.xor_lt_two_pow (n:=32) hx' hy';have l3:4294967295 ^^^ (x ^^^ y)<4294967296:=Nat.xor_lt_two_pow (n:=32) (by decide) l2;have l4:(4294967295 ^^^ x) &&& y<4294967296:=Nat.and_lt_two_pow (n:=32) _ hy';have l5:(4294967295 ^^^ (x ^^^ y)) &&& d<4294967296:=Nat.and_lt_two_pow (n:=32) _ hd';rw [hm,hd,u32_xor_nat _ _ (by decide) hx',u32_and_nat _ _ l1 hy',u32_xor_nat _ _ hx' hy',u32_xor_nat _ _ (by decide) l2,u32_and_nat _ _ l3 hd',u32_or_nat _ _ l4 l5];have e:(((4294967295 ^^^ x) &&& y) |||((4294967295 ^^^ (x ^^^ y)) &&& d))/2147483648=if x/2147483648=y/2147483648 then d/2147483648 else y/2147483648:=by
  rw [show(2147483648:Nat)=2 ^ 31 from by decide];simp only [← Nat.shiftRight_eq_div_pow,Nat.shiftRight_or_distrib,Nat.shiftRight_and_distrib,Nat.shiftRight_xor_distrib];rw [show(4294967295:Nat) >>> 31=1 from by decide];simp only [Nat.shiftRight_eq_div_pow];exact zgr _ _ _ (by omega) (by omega) (by omega)
 have e2:((((4294967295 ^^^ x) &&& y) |||((4294967295 ^^^ (x ^^^ y)) &&& d):Nat):Int)/2147483648=((if x/2147483648=y/2147483648 then d/2147483648 else y/2147483648:Nat):Int):=by rw [← e];rfl
 rw [e2];unfold bor;split <;> split <;> omega
theorem sub32 (x y c:Int)(w:World)(hx:0≤x∧x<4294967296)(hy:0≤y∧y<4294967296)(hc:0≤c∧c≤1):
  Calls Tryz.prog 100 #[.int .u32 x,.int .u32 y,.int .u32 c] w fun e w'=>e=.returned (.tuple #[.int .u32 ((x-y-c)%4294967296),.int .u32 (bor x (y+c))])∧w'=w:=by
 have HB:Hid _:=zjx x y c hx hy hc;obtain⟨_,_⟩:=hx;obtain⟨_,_⟩:=hy;obtain⟨_,_⟩:=hc;have hs:IntKind.u32.signed=false:=rfl;go_enter Tryz.func100,Tryz.ntmps100;go_wp2;go_ret2;exact⟨zfb (by omega) HB.out,rfl⟩
def lenOf:Value→Nat | .slice _ n _=>n | _=>0
theorem Lim.take{ao:Option Addr}{cap:Nat}(h:Lim w (.slice ao zs.length cap) zs)(n:Nat)(hn:n≤zs.length):Lim w (.slice ao n cap) (zs.take n):=by
 obtain⟨ao',cap',hv,h1,h2,h3,h4⟩:=h;simp only [Value.slice.injEq,true_and] at hv;obtain⟨rfl,rfl⟩:=hv;have hl:(zs.take n).length=n:=by rw [List.length_take];omega
 refine⟨ao,cap,by rw [hl],by omega,by omega,zb9 h3 n,fun h0=>?_⟩;obtain⟨b,off,e,hlt,hc⟩:=h4 (by omega);refine⟨b,off,e,hlt,fun i hi=>?_⟩;rw [hc i (by omega),zay zs n i (by omega)]
theorem zbg(hn:n≤zs.length)(h:n=0∨zs.getD (n-1) 0≠0):Nrm (zs.take n):=by
 have hl:(zs.take n).length=n:=by rw [List.length_take];omega
 unfold Nrm;rw [hl];rcases h with h | h
 ·exact .inl h
 ·by_cases h0:n=0
  ·exact .inl h0
  ·right;rw [zay zs n (n-1) (by omega)];exact h
theorem zik(h0:0<n)(h:zs.getD (n-1) 0=0):lv (zs.take (n-1))=lv (zs.take n):=by
 have:=zw zs (n-1);rw [show n-1+1=n by omega,h] at this;omega
def TrimPost (w:World)(ao:Option Addr)(cap:Nat)(zs:List Int)(e:Ending)(w':World):Prop:=
 ∃ m,m≤zs.length∧e=.returned (.slice ao m cap)∧lv (zs.take m)=lv zs∧Nrm (zs.take m)∧w'=w
theorem zdD (w:World)(ao:Option Addr)(cap:Nat)(zs:List Int)(h:Lim w (.slice ao zs.length cap) zs):
  Calls Tryz.prog 69 #[.slice ao zs.length cap] w fun e w'=>TrimPost w ao cap zs e w':=by
 obtain⟨ao',cap',hv,hcap,hlen,hlb,hc⟩:=h;simp only [Value.slice.injEq,true_and] at hv;obtain⟨rfl,rfl⟩:=hv;go_enter Tryz.func69,Tryz.ntmps69;go_wp2
 go_loop [0] (fun t=>∃ n:Nat,n≤zs.length∧t=.slice ao n cap∧Hid (lv (zs.take n)=lv zs)) (fun t=>lenOf t)
 case atStart=>exact⟨zs.length,Nat.le_refl _,rfl,by show lv _=_;rw [List.take_length]⟩
 case round=>
  obtain⟨n,hn,rfl,HV⟩:=hrel;by_cases h0:n=0
  ·subst h0;go_wp2;go_ret;exact⟨0,hn,rfl,HV.out,zbg hn (.inl rfl),rfl⟩
  ·obtain⟨b,off,rfl,hb,hc⟩:=hc (by omega);obtain⟨m,rfl⟩:∃ m,n=m+1:=⟨n-1,by omega⟩;have hcm:=hc m (by omega);clear hc;have HG:Hid (zs.getD (m+1-1) 0=zs.getD m 0):=by show _=_;rw [Nat.add_sub_cancel]
   have hzb:=hlb m;generalize hz:zs.getD m 0=z at *;by_cases hz0:z=0
   ·subst hz0;go_wp2
    go_round
    case rel=>exact⟨m,by omega,rfl,by have:=zik (zs:=zs) (n:=m+1) (by omega) HG.out;rw [Nat.add_sub_cancel] at this;exact this.trans HV.out⟩
    case measure=>simp [lenOf]
   ·have hz1:(z==0)=false:=by simp [hz0]
    go_wp2;go_ret;exact⟨m+1,hn,rfl,HV.out,zbg hn (.inr (by rw [HG.out];exact hz0)),rfl⟩
theorem zab(h:a<b):cmpI a b=-1:=by unfold cmpI;rw [if_pos h]
theorem zaa(h:b<a):cmpI a b=1:=by unfold cmpI;rw [if_neg (by omega),if_pos h]
theorem za8(h:a=b):cmpI a b=0:=by unfold cmpI;rw [if_neg (by omega),if_neg (by omega)]
theorem zgM{a b:List Int}(ha:LB a)(hb:LB b)(na:Nrm a)(nb:Nrm b)(h:a.length≠b.length):cmpI (a.length:Int) (b.length:Int)=cmpI (lv a) (lv b):=by
 by_cases h1:a.length<b.length
 ·rw [zab (by omega),zab (zbc ha hb nb h1)]
 ·rw [zaa (by omega),zaa (zbc hb ha na (by omega))]
theorem zgN{a b:List Int}(ha:LB a)(hb:LB b)(hl:a.length=b.length)(hk:k<a.length)(hd:a.drop (k+1)=b.drop (k+1))(hx:a.getD k 0≠b.getD k 0):cmpI (a.getD k 0) (b.getD k 0)=cmpI (lv a) (lv b):=by
 by_cases h1:a.getD k 0<b.getD k 0
 ·rw [zab h1,zab (zeM ha hb hl hk hd h1)]
 ·have h2:b.getD k 0<a.getD k 0:=by omega
  rw [zaa h2,zaa (zeM hb ha hl.symm (by omega) hd.symm h2)]
theorem zef{a b:List Int}(hl:a.length=b.length)(hk:k<a.length)(hd:a.drop (k+1)=b.drop (k+1))(hx:a.getD k 0=b.getD k 0):a.drop k=b.drop k:=by
 rw [zE a k hk,zE b k (by omega),hd,hx]
theorem zaD(h:a=b):Ending.returned (.int .i64 a)=.returned (.int .i64 b):=by rw [h]
def CmpPost (w:World)(r:Int)(e:Ending)(w':World):Prop:=e=.returned (.int .i64 r)∧Below w.heap.size w w'
theorem zP(h:Below B w w')(n:Nat):Below B w (w'.drewN n):=⟨h.os,h.tape,h.output,h.size,h.block⟩
theorem zbB (w:World)(va vb:Value)(a b:List Int)(ha:Lim w va a)(hb:Lim w vb b)(na:Nrm a)(nb:Nrm b):
  Calls Tryz.prog 92 #[va,vb] w fun e w'=>CmpPost w (cmpI (lv a) (lv b)) e w':=by
 obtain⟨ao,acap,rfl,hacap,halen,halb,hac⟩:=ha;obtain⟨bo,bcap,rfl,hbcap,hblen,hblb,hbc⟩:=hb;by_cases hl:a.length=b.length
 ·have hne:((a.length:Int) !=(b.length:Int))=false:=by rw [bne_eq_false_iff_eq];omega
  have HLL:Hid (a.length=b.length):=hl;clear hl;go_enter Tryz.func92,Tryz.ntmps92;go_wp2;go_loopw [19] (fun i wr=>∃ k nq:Nat,k≤a.length∧i=.int .i64 k∧wr=w.drewN nq∧Hid (a.drop (a.length-k)=b.drop (a.length-k))) (fun i _=>a.length-(intOf i).toNat)
  case atStart=>exact⟨0,0,Nat.zero_le _,rfl,by simp [World.drewN_zero],by show _=_;rw [Nat.sub_zero,List.drop_length,HLL.out,List.drop_length]⟩
  case round=>
   obtain⟨k,nq,hk,rfl,rfl,HD⟩:=hrel;by_cases hlt:k<a.length
   ·obtain⟨ab,aoff,rfl,hab,hac⟩:=hac (by omega);obtain⟨bb,boff,rfl,hbb,hbc⟩:=hbc (by have:=HLL.out;omega);have hblt:a.length-1-k<b.length:=by have:=HLL.out;omega
    have hca:=hac (a.length-1-k) (by omega);have hcb:=hbc (a.length-1-k) hblt;clear hac hbc;have HE:Hid (∀ h:a.getD (a.length-1-k) 0=b.getD (a.length-1-k) 0,a.drop (a.length-(k+1))=b.drop (a.length-(k+1))):=fun h=>by
     have hd:=HD.out;rw [show a.length-k=a.length-1-k+1 by omega] at hd;rw [show a.length-(k+1)=a.length-1-k by omega];exact zef HLL.out (by omega) hd h
    have HN:Hid (∀ h:a.getD (a.length-1-k) 0≠b.getD (a.length-1-k) 0,cmpI (a.getD (a.length-1-k) 0) (b.getD (a.length-1-k) 0)=cmpI (lv a) (lv b)):=fun h=>by
     have hd:=HD.out;rw [show a.length-k=a.length-1-k+1 by omega] at hd;exact zgN halb hblb HLL.out (by omega) hd h
    generalize a.getD (a.length-1-k) 0=x at *;generalize b.getD (a.length-1-k) 0=y at *;by_cases hxy:x=y
    ·subst hxy;have HE':Hid (a.drop (a.length-(k+1))=b.drop (a.length-(k+1))):=HE.out rfl;clear HE HN;go_wp2
     go_quiet (fail)
     go_wp2;go_roundw
     case rel=>exact⟨k+1,_,by omega,by go_num,rfl,HE'⟩
     case measure=>simp [intOf];omega
    ·have hb1:(x != y)=true:=by rw [bne_iff_ne];exact hxy
     have HC:Hid _:=HN.out hxy;clear HN HE;have HX:Hid (x≠y):=hxy;clear hxy;have hpa:a.length-1-k<a.length:=by omega
     obtain⟨p,hp⟩:∃ p,p=a.length-1-k:=⟨_,rfl⟩;have hP:(a.length:Int)-1-(k:Int)=(p:Int):=by omega
     rw [← hp] at hca hcb hpa hblt;clear hp;go_wp2
     go_quiet (fail)
     go_wp2
     go_region_held3 (fun w'=>w'.cell? ⟨ab,aoff+p,none⟩=some (.int .u32 x)∧w'.cell? ⟨bb,boff+p,none⟩=some (.int .u32 y)) (go_keep) ((go_at_call 104;refine(zgQ _ _ _).mono ?_;rintro e w' ⟨rfl,rfl⟩))
     go_wp2;go_ret;exact⟨zaD HC.out,zP (Below.refl _ _) _⟩
   ·have HK:Hid (cmpI (lv a) (lv b)=0):=by
     have hd:=HD.out;rw [show a.length-k=0 by omega,List.drop_zero,List.drop_zero] at hd;show _=_;rw [hd];exact za8 rfl
    go_wp2;go_ret;exact⟨zaD HK.out.symm,zP (Below.refl _ _) _⟩
 ·have HC:Hid _:=zgM halb hblb na nb hl;have hne:((a.length:Int) !=(b.length:Int))=true:=by rw [bne_iff_ne];omega
  clear hac hbc;go_enter Tryz.func92,Tryz.ntmps92;go_wp2_with (go_at_call 103;refine(zgL _ _ _).mono ?_;rintro e w' ⟨rfl,rfl⟩);go_ret;exact⟨zaD HC.out,Below.refl _ _⟩
end Go.Proofs.YtncamilanceahaaGreat
