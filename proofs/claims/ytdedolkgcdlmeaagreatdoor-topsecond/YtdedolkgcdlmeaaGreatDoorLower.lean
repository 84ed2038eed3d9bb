import Derived.Test.YtdedolkgcdlmeaaGreatDoorDetB
import Derived.Test.YtdedolkgcdlmeaaGreatDoorFold
namespace Go.Proofs.YtdedolkgcdlmeaaGreatDoor
def absI (z:Int):Int:=if z < 0 then -z else z
theorem zak (z:Int):0≤absI z:=by unfold absI;split <;> omega
theorem zcT (x y:Int):absI (x+y)≤absI x+absI y:=by unfold absI;repeat' split;all_goals omega
theorem zaK (x:Int):absI (-x)=absI x:=by unfold absI;repeat' split;all_goals omega
theorem zad {x:Int}(h:0≤x):absI x=x:=by unfold absI;rw [if_neg (by omega)]
theorem zcU {x:Int}:absI x=0↔x=0:=by unfold absI;split <;> omega
theorem zaj (x y:Int):absI (x * y)=absI x * absI y:=by
 have key:∀ a b:Int,0≤a→0≤b→absI (a * b)=absI a * absI b:=fun a b ha hb=>by
  rw [zad ha,zad hb,zad (Int.mul_nonneg ha hb)]
 rcases(by omega:0≤x∨0≤-x) with hx | hx <;> rcases(by omega:0≤y∨0≤-y) with hy | hy
 ·exact key x y hx hy
 ·have:=key x (-y) hx hy;rwa [Int.mul_neg,zaK,zaK] at this
 ·have:=key (-x) y hx hy;rwa [Int.neg_mul,zaK,zaK] at this
 ·have:=key (-x) (-y) hx hy;rwa [Int.neg_mul_neg,zaK,zaK] at this
theorem zej (k:Nat):absI (sgnN k)=1:=by unfold sgnN absI;split <;> rfl
theorem zek (n:Nat)(f:Nat→Int)(C:Int)(h:∀ i,i < n→absI (f i)≤C):absI (sumN n f)≤n * C:=by
 induction n with
 | zero=>simp [sumN,absI]
 | succ n ih=>
  have h1:=ih fun i hi=>h i (by omega)
  have h2:=h n (by omega)
  have h3:=zcT (sumN n f) (f n)
  have e:((n+1:Nat):Int) * C=n * C+C:=by rw [Int.natCast_add,Int.add_mul];simp
  rw [sumN,e]
  omega
def facP:Nat→Int→Int
 | 0,_=>1
 | n+1,B=>(n+1:Nat) *(B * facP n B)
theorem ziG (n:Nat){B:Int}(hB:0≤B):0≤facP n B:=by
 induction n with
 | zero=>exact(by decide:(0:Int)≤1)
 | succ n ih=>exact Int.mul_nonneg (Int.natCast_nonneg _) (Int.mul_nonneg hB ih)
theorem zeV {n:Nat}:∀(M:Nat→Nat→Int) (B:Int),0≤B→(∀ a b,a < n→b < n→absI (M a b)≤B)→absI (det n M)≤facP n B:=by
 induction n with
 | zero=>intro M B _ _;exact(by decide:absI (1:Int)≤1)
 | succ n ih=>
  intro M B hB h
  rw [det]
  refine zek (n+1) _ (B * facP n B) fun j hj=>?_
  rw [zaj,zaj,zej,Int.one_mul]
  have h1:=h n j (by omega) hj
  have h2:=ih (fun a b=>M a (sk j b)) B hB fun a b ha hb=>h a _ (by omega) (by unfold sk;split <;> omega)
  exact Int.mul_le_mul h1 h2 (zak _) hB
def prodN:Nat→(Nat→Int)→Int
 | 0,_=>1
 | n+1,d=>prodN n d * d n
theorem zaE (n:Nat)(d:Nat→Int)(h:∀ i,i < n→1≤d i):1≤prodN n d:=by
 induction n with
 | zero=>exact(by decide:(1:Int)≤1)
 | succ n ih=>
  have h1:=ih fun i hi=>h i (by omega)
  have h2:=h n (by omega)
  have:=Int.mul_le_mul h1 h2 (by decide) (by omega)
  simpa [prodN] using this
theorem zcL (n:Nat)(d:Nat→Int)(h:∀ i,i < n→1≤d i)(k:Nat)(hk:k < n):d k≤prodN n d:=by
 induction n with
 | zero=>omega
 | succ n ih=>
  have h0:=zaE n d fun i hi=>h i (by omega)
  have h2:=h n (by omega)
  by_cases hkn:k=n
  ·subst hkn
   have:=Int.mul_le_mul h0 (Int.le_refl (d k)) (by omega) (by omega)
   simpa [prodN] using this
  ·have h1:=ih (fun i hi=>h i (by omega)) (by omega)
   have:=Int.mul_le_mul h1 h2 (by decide) (by omega)
   simp only [Int.mul_one] at this
   exact this
theorem zaB (n:Nat)(M:Nat→Nat→Int)(h:∀ a b,a < n→b < a→M a b=0):det n M=prodN n (fun i=>M i i):=by
 induction n with
 | zero=>rfl
 | succ n ih=>
  rw [det,zF (n+1) n (by omega) _ fun j hj hne=>by rw [h n j (by omega) (by omega),Int.mul_zero,Int.zero_mul]]
  have e:det n (fun a b=>M a (sk n b))=det n M:=zm fun a b _ hb=>by rw [zR hb]
  rw [e,ih fun a b ha hb=>h a b (by omega) hb]
  have:sgnN (n+n)=1:=by unfold sgnN;rw [if_pos (by omega)]
  rw [this,Int.one_mul,prodN,Int.mul_comm]
theorem zk3 (n:Nat)(f:Nat→Int)(h:sumN n f≠0):∃ k,k < n∧f k≠0:=by
 induction n with
 | zero=>exact absurd rfl h
 | succ n ih=>
  by_cases hf:f n=0
  ·rw [sumN,hf,Int.add_zero] at h
   obtain⟨k,hk,hne⟩:=ih h
   exact⟨k,by omega,hne⟩
  ·exact⟨n,by omega,hf⟩
theorem zc8 (r m:Nat)(H M C:Nat→Nat→Int)(hH:∀ a b,a < r→b < r→H a b=sumN m (fun k=>C a k * M k b))(h0:det r H≠0):
  ∀ q,q≤r→∃ φ:Nat→Nat,(∀ a,a < q→φ a < m)∧det r (fun a b=>if a < q then M (φ a) b else H a b)≠0:=by
 intro q
 induction q with
 | zero=>
  intro _
  refine⟨fun _=>0,fun a h=>by omega,?_⟩
  have e:det r (fun a b=>if a < 0 then M 0 b else H a b)=det r H:=zm fun a b _ _=>if_neg (by omega)
  rw [e];exact h0
 | succ q ih=>
  intro hq
  obtain⟨φ,h1,h2⟩:=ih (by omega)
  let X:Nat→Nat→Int:=fun a b=>if a < q then M (φ a) b else H a b
  have e:det r X=det r (setRow X q (fun b=>sumN m (fun k=>C q k * M k b))):=zm fun a b ha hb=>by
   by_cases haq:a=q
   ·rw [haq,zO]
    show(if q < q then _ else H q b)=_
    rw [if_neg (by omega)]
    exact hH q b (by omega) hb
   ·rw [zS _ _ _ haq]
  have h3:det r (setRow X q (fun b=>sumN m (fun k=>C q k * M k b)))≠0:=by rw [← e];exact h2
  rw [zbO r X q (by omega)] at h3
  obtain⟨k,hk,hne⟩:=zk3 m _ h3
  refine⟨fun a=>if a=q then k else φ a,fun a ha=>?_,fun hz=>hne ?_⟩
  ·show(if a=q then k else φ a) < m
   split
   ·exact hk
   ·exact h1 a (by omega)
  ·have e2:det r (setRow X q (M k))=det r (fun a b=>if a < q+1 then M (if a=q then k else φ a) b else H a b):=zm fun a b ha hb=>by
    by_cases haq:a=q
    ·rw [haq,zO,if_pos (by omega),if_pos rfl]
    ·rw [zS _ _ _ haq]
     show(if a < q then M (φ a) b else H a b)=_
     by_cases hlt:a < q
     ·rw [if_pos hlt,if_pos (by omega),if_neg haq]
     ·rw [if_neg hlt,if_neg (by omega)]
   rw [e2,hz,Int.mul_zero]
theorem zbx (r m n:Nat)(H M C:Nat→Nat→Int)(p:Nat→Nat)(hp:∀ k,k < r→p k < n)(hzero:∀ i k,i < r→k < i→H i (p k)=0)(hpos:∀ i,i < r→1≤H i (p i))
  (hHM:∀ a b,a < r→b < n→H a b=sumN m (fun k=>C a k * M k b)):r≤m:=by
 by_cases hrm:r≤m
 ·exact hrm
 have hD:det r (fun a b=>H a (p b))=prodN r (fun k=>H k (p k)):=zaB r _ fun a b ha hb=>hzero a b ha hb
 have hD1:=zaE r (fun k=>H k (p k)) hpos
 obtain⟨φ,hφ,hne⟩:=zc8 r m (fun a b=>H a (p b)) (fun k b=>M k (p b)) C (fun a b ha hb=>hHM a (p b) ha (hp b hb)) (by rw [hD];omega) r zL
 obtain⟨i,k,hik,hk,e⟩:=pigeon m φ fun i hi=>hφ i (by omega)
 refine absurd (zam r _ i k hik (by omega) fun b=>?_) hne
 show(if i < r then M (φ i) (p b) else H i (p b))=if k < r then M (φ k) (p b) else H k (p b)
 rw [if_pos (by omega),if_pos (by omega),e]
theorem zfc (r m n:Nat)(H M C T:Nat→Nat→Int)(p:Nat→Nat)(B:Int)(hB:0≤B)
  (hp:∀ k,k < r→p k < n) (hzero:∀ i k,i < r→k < i→H i (p k)=0) (hpos:∀ i,i < r→1≤H i (p i)) (hred:∀ i k,i < r→k < r→i < k→0≤H i (p k)∧H i (p k)≤H k (p k))
  (hHM:∀ a b,a < r→b < n→H a b=sumN m (fun k=>C a k * M k b)) (hMH:∀ a b,a < m→b < n→M a b=sumN r (fun k=>T a k * H k b))
  (hM:∀ a b,a < m→b < n→absI (M a b)≤B) (i j:Nat) (hi:i < r) (hj:j < n):absI (H i j)≤r * facP r B:=by
 have hD:det r (fun a b=>H a (p b))=prodN r (fun k=>H k (p k)):=zaB r _ fun a b ha hb=>hzero a b ha hb
 have hD1:=zaE r (fun k=>H k (p k)) hpos
 obtain⟨φ,hφ,hne⟩:=zc8 r m (fun a b=>H a (p b)) (fun k b=>M k (p b)) C (fun a b ha hb=>hHM a (p b) ha (hp b hb)) (by rw [hD];omega) r zL
 have hne':det r (fun a b=>M (φ a) (p b))≠0:=by
  intro h
  apply hne
  have e:det r (fun a b=>if a < r then M (φ a) (p b) else H a (p b))=det r (fun a b=>M (φ a) (p b)):=zm fun a b ha _=>if_pos ha
  exact e.trans h
 have hmul:∀ J:Nat→Nat,(∀ b,b < r→J b < n)→det r (fun a b=>M (φ a) (J b))=det r (fun a k=>T (φ a) k) * det r (fun a b=>H a (J b)):=fun J hJ=>by
  rw [← zaA]
  exact zm fun a b ha hb=>hMH (φ a) (J b) (hφ a ha) (hJ b hb)
 have hT:det r (fun a k=>T (φ a) k)≠0:=fun h=>hne' (by rw [hmul p hp,h,Int.zero_mul])
 have hmin:∀ J:Nat→Nat,(∀ b,b < r→J b < n)→absI (det r (fun a b=>H a (J b)))≤facP r B:=fun J hJ=>by
  have h1:=zeV (n:=r) (fun a b=>M (φ a) (J b)) B hB fun a b ha hb=>hM (φ a) (J b) (hφ a ha) (hJ b hb)
  rw [hmul J hJ,zaj] at h1
  have h2:1≤absI (det r (fun a k=>T (φ a) k)):=by
   have:=zak (det r (fun a k=>T (φ a) k))
   have h3:absI (det r (fun a k=>T (φ a) k))≠0:=fun h=>hT (zcU.1 h)
   omega
  have h3:=Int.mul_le_mul h2 (Int.le_refl (absI (det r (fun a b=>H a (J b))))) (zak _) (by omega)
  omega
 -- the last row is one of the others
 let X:Nat→Nat→Int:=fun a b=>H (if a < r then a else i) (if b < r then p b else j)
 have hX:det (r+1) X=0:=zam (r+1) X i r hi (by omega) fun b=>by
  show H (if i < r then i else i) _=H (if r < r then r else i) _
  rw [if_pos hi,if_neg (Nat.lt_irrefl r)]
 rw [det,sumN] at hX
 have hlast:X r r=H i j:=by
  show H (if r < r then r else i) (if r < r then p r else j)=H i j
  rw [if_neg (Nat.lt_irrefl r),if_neg (Nat.lt_irrefl r)]
 have hm:det r (fun a b=>X a (sk r b))=prodN r (fun k=>H k (p k)):=by
  rw [← hD]
  exact zm fun a b ha hb=>by
   show H (if a < r then a else i) (if sk r b < r then p (sk r b) else j)=_
   rw [zR hb,if_pos ha,if_pos hb]
 have hs:sgnN (r+r)=1:=by unfold sgnN;rw [if_pos (by omega)]
 rw [hlast,hm,hs,Int.one_mul] at hX
 have hsum:absI (sumN r (fun k=>sgnN (r+k) * X r k * det r (fun a b=>X a (sk k b))))≤r *(prodN r (fun k=>H k (p k)) * facP r B):=by
  refine zek r _ _ fun k hk=>?_
  rw [zaj,zaj,zej,Int.one_mul]
  have hXk:X r k=H i (p k):=by
   show H (if r < r then r else i) (if k < r then p k else j)=_
   rw [if_neg (by omega),if_pos hk]
  have h1:absI (X r k)≤prodN r (fun k=>H k (p k)):=by
   rw [hXk]
   have hg:=zcL r (fun k=>H k (p k)) hpos k hk
   rcases Nat.lt_trichotomy i k with h | h | h
   ·obtain⟨h1,h2⟩:=hred i k hi hk h
    have hg':H k (p k)≤prodN r (fun k=>H k (p k)):=hg
    rw [zad h1];omega
   ·subst h
    have:=hpos i hi
    rw [zad (by omega)];exact hg
   ·rw [hzero i k hi h]
    show(if (0:Int) < 0 then -0 else 0)≤_
    rw [if_neg (by decide)];omega
  have h2:absI (det r (fun a b=>X a (sk k b)))≤facP r B:=by
   have e:det r (fun a b=>X a (sk k b))=det r (fun a b=>H a (if sk k b < r then p (sk k b) else j)):=zm fun a b ha _=>by
    show H (if a < r then a else i) _=_
    rw [if_pos ha]
   rw [e]
   exact hmin _ fun b _=>by
    show(if sk k b < r then p (sk k b) else j) < n
    split
    ·rename_i h;exact hp _ h
    ·exact hj
  exact Int.mul_le_mul h1 h2 (zak _) (by omega)
 generalize sumN r (fun k=>sgnN (r+k) * X r k * det r (fun a b=>X a (sk k b)))=S at *
 generalize prodN r (fun k=>H k (p k))=D at *
 have h5:absI (H i j * D)≤r *(D * facP r B):=by
  have:H i j * D=- S:=by omega
  rw [this,zaK];exact hsum
 rw [zaj,zad (by omega:0≤D),← Int.mul_assoc,Int.mul_comm (r:Int) D,Int.mul_assoc,Int.mul_comm _ D] at h5
 exact Int.le_of_mul_le_mul_left h5 (by omega)
end Go.Proofs.YtdedolkgcdlmeaaGreatDoor
namespace Go.Proofs.YtdedolkgcdlmeaaGreatDoor
open Go.RowKit Limbs
structure Stair (w:World)(sb f m:Nat)(rows:Nat→Option (List Int))(len ns:Nat):Prop where
 lt:sb < w.heap.size
 nil:∀ i,f≤i→i < m→rows i=none→w.cell? ⟨sb,i,none⟩=some (.slice none 0 0)
 row:∀ i,f≤i→i < m→∀ r,rows i=some r→∃ b off cap,w.cell? ⟨sb,i,none⟩=some (.slice (some ⟨b,off,none⟩) r.length cap)∧VecN w (.slice (some ⟨b,off,none⟩) r.length cap) r ns∧r.length=len∧0 < r.getD i 0
theorem Stair.below {w w':World}{sb f m:Nat}{rows:Nat→Option (List Int)}{len ns:Nat}(h:Stair w sb f m rows len ns)(hb:Below w.heap.size w w'):Stair w' sb f m rows len ns where
 lt:=zT h.lt hb.size
 nil:=fun i hf hi e=>(hb.cell (p:=⟨sb,i,none⟩) h.lt).trans (h.nil i hf hi e)
 row:=fun i hf hi r e=>by
  obtain⟨b,off,cap,hc,hv,h1,h2⟩:=h.row i hf hi r e
  exact⟨b,off,cap,(hb.cell (p:=⟨sb,i,none⟩) h.lt).trans hc,hv.below hb zL,h1,h2⟩
def lowRow (us r:List Int)(k:Nat):List Int:=List.zipWith (fun a b=>1 * a+-(us.getD k 0 / r.getD k 0) * b) us r
def lowAt (rows:Nat→Option (List Int))(k:Nat)(us:List Int):List Int:=
 match rows k with
 | none=>us
 | some r=>lowRow us r k
def lowN (rows:Nat→Option (List Int))(f:Nat)(us:List Int):Nat→List Int
 | 0=>us
 | k+1=>lowAt rows (f+k) (lowN rows f us k)
theorem zjC {us r:List Int}{k:Nat}(hl:us.length=r.length)(h:us.getD k 0 / r.getD k 0=0):lowRow us r k=us:=by
 unfold lowRow
 rw [h]
 clear h
 induction us generalizing r with
 | nil=>rfl
 | cons a us ih=>
  cases r with
  | nil=>simp at hl
  | cons b r=>simp at hl ⊢;simpa using ih hl
theorem zcM {p q y r:Int}(hy:0 < y)(h:p=q * y+r)(hl:Left r y):p / y=q:=by
 have h2:=hl.1 hy
 have:r+y * q=p:=by rw [Int.mul_comm];omega
 exact((Int.ediv_emod_unique hy).2 ⟨this,h2.1,h2.2⟩).1
structure LowV (w W:World)(va v:Value)(zs:List Int)(n:Nat):Prop where
 vec:VecN W v zs n
 own:v=va∨∃ P,v=.slice (some ⟨P,0,none⟩) zs.length zs.length∧VecO w W P zs n
 below:Below w.heap.size w W
theorem LowV.later {w W W':World}{va v:Value}{zs:List Int}{n:Nat}(h:LowV w W va v zs n)(hb:Below W.heap.size W W'):LowV w W' va v zs n where
 vec:=h.vec.below hb zL
 own:=h.own.imp id fun⟨P,e,ho⟩=>⟨P,e,ho.later hb⟩
 below:=h.below.trans (hb.mono h.below.size)
theorem zbp {rows:Nat→Option (List Int)}{f:Nat}{us:List Int}(h:∀ i r,rows i=some r→r.length=us.length)(k:Nat):(lowN rows f us k).length=us.length:=by
 induction k with
 | zero=>rfl
 | succ k ih=>
  unfold lowN lowAt
  split
  ·exact ih
  ·rename_i r hr
   unfold lowRow
   rw [zk _ _ _ (ih.trans (h _ r hr).symm)]
   exact ih
theorem zgp (w:World):Sem.run Tryz.prog (binOp .eql 72 (.slice none 0 0) (.slice none 0 0)) w=.ok (.bool true) w:=by kernel_rfl
theorem zgs (w:World)(a:Addr)(l c:Nat):Sem.run Tryz.prog (binOp .eql 72 (.slice (some a) l c) (.slice none 0 0)) w=.ok (.bool false) w:=by kernel_rfl
set_option maxRecDepth 100000 in
set_option maxHeartbeats 4000000 in
theorem zfz (w:World)(sb m f nv ns:Nat)(rows:Nat→Option (List Int))(va:Value)(us:List Int)(hs:Stair w sb f m rows us.length ns)(hrl:∀ i r,rows i=some r→r.length=us.length)(ha:VecN w va us nv)(hf:f≤m)(hm:m≤us.length)(h8:us.length≤1000)(hN:nv+m *(ns+3)≤300000):
  Calls Tryz.prog 129 #[.slice (some ⟨sb,0,none⟩) m m,va,.int .i64 f] w fun e w'=>∃ v,e=.returned v∧LowV w w' va v (lowN rows f us (m - f)) (nv+(m - f) *(ns+3)):=by
 have HS:=hide hs;have HA:=hide ha
 clear hs ha
 have hm1000:m≤1000:=by omega
 go_enter Tryz.func129,Tryz.ntmps129
 go_wp2_with fail
 go_loopw [16,1] (fun i v wr=>∃ k:Nat,k≤m - f∧i=.int .i64 k∧Hid (LowV w wr va v (lowN rows f us k) (nv+k *(ns+3)))) (fun i _ _=>(m - f) - (intOf i).toNat)
 case atStart=>exact⟨0,Nat.zero_le _,rfl,hide ⟨by rw [Nat.zero_mul];exact HA.out,.inl rfl,Below.refl _ _⟩⟩
 case round=>
  obtain⟨k,hk,rfl,HI⟩:=hrel
  by_cases hkl:k < m - f
  ·have hst:=HS.out.below HI.out.below
   have hcap:nv+(k+1) *(ns+3)≤nv+m *(ns+3):=Nat.add_le_add_left (Nat.mul_le_mul_right _ (by omega)) _
   have hsucc:nv+(k+1) *(ns+3)=nv+k *(ns+3)+(ns+3):=by rw [Nat.succ_mul];omega
   have hzl:=zbp (f:=f) hrl k
   have HLN:=hide (show lowN rows f us (k+1)=lowAt rows (f+k) (lowN rows f us k) from rfl)
   rw [hsucc] at hcap
   cases hr:rows (f+k) with
   | none=>
    have c0:=hst.nil (f+k) (by omega) (by omega) hr
    have HN:Hid (LowV w wr va u1 (lowN rows f us (k+1)) (nv+(k+1) *(ns+3))):=by
     have h1:=HI.out
     have e:=HLN.out
     unfold lowAt at e
     rw [hr] at e
     rw [e,hsucc]
     exact hide ⟨h1.vec.mono (by omega),h1.own.imp id fun⟨P,e,ho⟩=>⟨P,e,⟨ho.vec.mono (by omega),ho.low,ho.below,ho.blk⟩⟩,h1.below⟩
    clear hst HI HLN hr
    have hbo:=zgp wr
    go_wp2
    go_roundw
    case rel=>exact⟨k+1,by omega,by go_num,HN⟩
    case measure=>simp [intOf];omega
   | some r=>
    obtain⟨b,off,cap,c0,hv,hlen,hpos⟩:=hst.row (f+k) (by omega) (by omega) r hr
    have lsb:=hst.lt
    have HE:Hid (lowN rows f us (k+1)=lowRow (lowN rows f us k) r (f+k)):=by
     have e:=HLN.out
     unfold lowAt at e
     rw [hr] at e
     exact hide e
    clear HLN hst hr
    generalize hzs':lowN rows f us (k+1)=zs' at *
    have HZ':=hide hzs'
    clear hzs'
    generalize lowN rows f us k=zs at *
    generalize hnz:nv+k *(ns+3)=nz at *
    obtain⟨vb,voff,vcap,rfl⟩:=HI.out.vec.form (by omega)
    obtain⟨lv,an,ao,al,ac,a2,a3,na'⟩:=HI.out.vec.at (f+k) (by omega)
    obtain⟨lr,bn,bo,bl,bc,a6,a7,nb'⟩:=hv.at (f+k) (by omega)
    have NV:=hide na';have NP:=hide nb';have HR:=hide hv
    clear na' nb' hv
    have HLR:=hide (show lowRow zs r (f+k)=List.zipWith (fun a b=>1 * a+-(zs.getD (f+k) 0 / r.getD (f+k) 0) * b) zs r from rfl)
    have HLZ:=hide (fun h=>zjC (us:=zs) (r:=r) (k:=f+k) (by omega) h)
    generalize zs.getD (f+k) 0=p at *
    generalize r.getD (f+k) 0=y at *
    have hkr:f+k < r.length:=by omega
    have hkz:f+k < zs.length:=by omega
    have HLE:=hide (show r.length=us.length∧zs.length=us.length from⟨hlen,hzl⟩)
    clear hlen hzl
    generalize hj:f+k=j at *
    have hjc:(f:Int)+(k:Int)=(j:Int):=by omega
    have hjm:j < m:=by omega
    have hst:=QuoGot.moved nz ns p y
    have hbo:=zgs wr ⟨b,off,none⟩ r.length cap
    go_wp2_with fail
    clear hbo
    try simp only [hjc,hj]
    generalize Value.bool (decide ((k:Int) < (m:Int) - (f:Int)))=x17
    have HJ:=hide hj
    have HJC:=hide hjc
    clear hj hjc
    refine zag (by kernel_rfl) (by kernel_rfl) (fun L a' w'=>∃(c:Nat→Value) (G:Nat→Nat),a'=(⟨#[.slice (some ⟨sb,0,none⟩) m m,.slice (some ⟨vb,voff,none⟩) zs.length vcap,.int .i64 (f:Int),undef,undef,undef,.slice none 0 0,.int .i64 (k:Int),.int .i64 (j:Int),c 16,c 17,c 20,.slice (some ⟨sb,0,none⟩) m m,.int .i64 (m:Int),.int .i64 (f:Int),.int .i64 ((m:Int) - (f:Int)),.int .i64 (k:Int),x17,.int .i64 (k:Int),.int .i64 (f:Int),.int .i64 (k:Int),.int .i64 (j:Int),.slice (some ⟨sb,0,none⟩) m m,.int .i64 (j:Int),.pointer (some ⟨sb,j,none⟩),.slice (some ⟨b,off,none⟩) r.length cap,.bool false,c 12,c 0,c 1,c 2,c 3,c 4,c 5,c 6,c 7,c 8,c 9,c 10,c 11,c 13,c 14,c 15,u43,u44,u45,u46,u47,u48,u49,u50,u51,u52,u53,u54,u55,undef],[]⟩:Act)∧Tags (D2 11) (FA2 11 [.slice (some ⟨vb,voff,none⟩) zs.length vcap,.int .i64 (j:Int),.pointer (some ⟨vb,voff+j * 2,none⟩),.agg #[.bool an,.slice ao al ac],.slice (some ⟨sb,0,none⟩) m m,.int .i64 (j:Int),.pointer (some ⟨sb,j,none⟩),.slice (some ⟨b,off,none⟩) r.length cap,.int .i64 (j:Int),.pointer (some ⟨b,off+j * 2,none⟩),.agg #[.bool bn,.slice bo bl bc]] (QuoGot nz ns p y) (wr).heap.size) (wr) L c w' G) ⟨fun i=>List.getD [u28,u29,u30,u31,u32,u33,u34,u35,u36,u37,u38,u39,u27,u40,u41,u42,u9,u10,undef,undef,u11] i undef,fun _=>0,rfl,Tags.start _ _ _⟩ ?_ ?_
    ·rintro L a' w' i o ⟨c,G,rfl,R⟩ ho hn hdep K hK
     have hi:i < 21:=(Array.getElem?_eq_some_iff.1 ho).1
     rcases(by omega:i=0∨i=1∨i=2∨i=3∨i=4∨i=5∨i=6∨i=7∨i=8∨i=9∨i=10∨i=11∨i=12∨i=13∨i=14∨i=15∨i=16∨i=17∨i=18∨i=19∨i=20) with rfl | rfl | rfl | rfl | rfl | rfl | rfl | rfl | rfl | rfl | rfl | rfl | rfl | rfl | rfl | rfl | rfl | rfl | rfl | rfl | rfl
     ·obtain rfl:=Option.some.inj ho
      have R':=R.plain hn (fun j hj=>absurd hj (by simp [D2])) (FA2.keep hst) (v:=(.slice (some ⟨vb,voff,none⟩) zs.length vcap)) (show upd c 0 ((.slice (some ⟨vb,voff,none⟩) zs.length vcap)) 0=(.slice (some ⟨vb,voff,none⟩) zs.length vcap) from zd _ _ _)
      clear R
      go_simp
      exact hK.out _ _ ⟨_,_,by simp [upd],R'⟩
     ·obtain rfl:=Option.some.inj ho
      have R':=R.plain hn (fun j hj=>absurd hj (by simp [D2])) (FA2.keep hst) (v:=(.int .i64 (j:Int))) (show upd c 1 ((.int .i64 (j:Int))) 1=(.int .i64 (j:Int)) from zd _ _ _)
      clear R
      go_simp
      exact hK.out _ _ ⟨_,_,by simp [upd],R'⟩
     ·obtain rfl:=Option.some.inj ho
      have e0:c 0=(.slice (some ⟨vb,voff,none⟩) zs.length vcap):=R.facts 0 (hdep ⟨0,.data⟩ (by simp) rfl)
      have e1:c 1=(.int .i64 (j:Int)):=R.facts 1 (hdep ⟨1,.data⟩ (by simp) rfl)
      have R':=R.plain hn (fun j hj=>absurd hj (by simp [D2])) (FA2.keep hst) (v:=(.pointer (some ⟨vb,voff+j * 2,none⟩))) (show upd c 2 ((.pointer (some ⟨vb,voff+j * 2,none⟩))) 2=(.pointer (some ⟨vb,voff+j * 2,none⟩)) from zd _ _ _)
      clear R
      rw [e0,e1]
      go_simp
      exact hK.out _ _ ⟨_,_,by simp [upd,e0,e1],R'⟩
     ·obtain rfl:=Option.some.inj ho
      have e2:c 2=(.pointer (some ⟨vb,voff+j * 2,none⟩)):=R.facts 2 (hdep ⟨2,.data⟩ (by simp) rfl)
      have q0:=(R.below.cell (p:=⟨vb,voff+j * 2,none⟩) lv).trans a2
      have q1:=(R.below.cell (p:=⟨vb,voff+j * 2+1,none⟩) lv).trans a3
      have R':=R.plain hn (fun j hj=>absurd hj (by simp [D2])) (FA2.keep hst) (v:=(.agg #[.bool an,.slice ao al ac])) (show upd c 3 ((.agg #[.bool an,.slice ao al ac])) 3=(.agg #[.bool an,.slice ao al ac]) from zd _ _ _)
      clear R
      rw [e2]
      go_simp
      exact hK.out _ _ ⟨_,_,by simp [upd,e2],R'⟩
     ·obtain rfl:=Option.some.inj ho
      have R':=R.plain hn (fun j hj=>absurd hj (by simp [D2])) (FA2.keep hst) (v:=(.slice (some ⟨sb,0,none⟩) m m)) (show upd c 4 ((.slice (some ⟨sb,0,none⟩) m m)) 4=(.slice (some ⟨sb,0,none⟩) m m) from zd _ _ _)
      clear R
      go_simp
      exact hK.out _ _ ⟨_,_,by simp [upd],R'⟩
     ·obtain rfl:=Option.some.inj ho
      have R':=R.plain hn (fun j hj=>absurd hj (by simp [D2])) (FA2.keep hst) (v:=(.int .i64 (j:Int))) (show upd c 5 ((.int .i64 (j:Int))) 5=(.int .i64 (j:Int)) from zd _ _ _)
      clear R
      go_simp
      exact hK.out _ _ ⟨_,_,by simp [upd],R'⟩
     ·obtain rfl:=Option.some.inj ho
      have e4:c 4=(.slice (some ⟨sb,0,none⟩) m m):=R.facts 4 (hdep ⟨4,.data⟩ (by simp) rfl)
      have e5:c 5=(.int .i64 (j:Int)):=R.facts 5 (hdep ⟨5,.data⟩ (by simp) rfl)
      have R':=R.plain hn (fun j hj=>absurd hj (by simp [D2])) (FA2.keep hst) (v:=(.pointer (some ⟨sb,j,none⟩))) (show upd c 6 ((.pointer (some ⟨sb,j,none⟩))) 6=(.pointer (some ⟨sb,j,none⟩)) from zd _ _ _)
      clear R
      rw [e4,e5]
      go_simp
      exact hK.out _ _ ⟨_,_,by simp [upd,e4,e5],R'⟩
     ·obtain rfl:=Option.some.inj ho
      have e6:c 6=(.pointer (some ⟨sb,j,none⟩)):=R.facts 6 (hdep ⟨6,.data⟩ (by simp) rfl)
      have q0:=(R.below.cell (p:=⟨sb,j,none⟩) lsb).trans c0
      have R':=R.plain hn (fun j hj=>absurd hj (by simp [D2])) (FA2.keep hst) (v:=(.slice (some ⟨b,off,none⟩) r.length cap)) (show upd c 7 ((.slice (some ⟨b,off,none⟩) r.length cap)) 7=(.slice (some ⟨b,off,none⟩) r.length cap) from zd _ _ _)
      clear R
      rw [e6]
      go_simp
      exact hK.out _ _ ⟨_,_,by simp [upd,e6],R'⟩
     ·obtain rfl:=Option.some.inj ho
      have R':=R.plain hn (fun j hj=>absurd hj (by simp [D2])) (FA2.keep hst) (v:=(.int .i64 (j:Int))) (show upd c 8 ((.int .i64 (j:Int))) 8=(.int .i64 (j:Int)) from zd _ _ _)
      clear R
      go_simp
      exact hK.out _ _ ⟨_,_,by simp [upd],R'⟩
     ·obtain rfl:=Option.some.inj ho
      have e7:c 7=(.slice (some ⟨b,off,none⟩) r.length cap):=R.facts 7 (hdep ⟨7,.data⟩ (by simp) rfl)
      have e8:c 8=(.int .i64 (j:Int)):=R.facts 8 (hdep ⟨8,.data⟩ (by simp) rfl)
      have R':=R.plain hn (fun j hj=>absurd hj (by simp [D2])) (FA2.keep hst) (v:=(.pointer (some ⟨b,off+j * 2,none⟩))) (show upd c 9 ((.pointer (some ⟨b,off+j * 2,none⟩))) 9=(.pointer (some ⟨b,off+j * 2,none⟩)) from zd _ _ _)
      clear R
      rw [e7,e8]
      go_simp
      exact hK.out _ _ ⟨_,_,by simp [upd,e7,e8],R'⟩
     ·obtain rfl:=Option.some.inj ho
      have e9:c 9=(.pointer (some ⟨b,off+j * 2,none⟩)):=R.facts 9 (hdep ⟨9,.data⟩ (by simp) rfl)
      have q0:=(R.below.cell (p:=⟨b,off+j * 2,none⟩) lr).trans a6
      have q1:=(R.below.cell (p:=⟨b,off+j * 2+1,none⟩) lr).trans a7
      have R':=R.plain hn (fun j hj=>absurd hj (by simp [D2])) (FA2.keep hst) (v:=(.agg #[.bool bn,.slice bo bl bc])) (show upd c 10 ((.agg #[.bool bn,.slice bo bl bc])) 10=(.agg #[.bool bn,.slice bo bl bc]) from zd _ _ _)
      clear R
      rw [e9]
      go_simp
      exact hK.out _ _ ⟨_,_,by simp [upd,e9],R'⟩
     ·obtain rfl:=Option.some.inj ho
      have e3:c 3=(.agg #[.bool an,.slice ao al ac]):=R.facts 3 (hdep ⟨3,.data⟩ (by simp) rfl)
      have e10:c 10=(.agg #[.bool bn,.slice bo bl bc]):=R.facts 10 (hdep ⟨10,.data⟩ (by simp) rfl)
      rw [e3,e10]
      go_simp
      refine(zbi w' _ _ p y nz ns (NV.out.below R.below zL) (NP.out.below R.below zL) (by omega) (by omega)).mono ?_
      rintro e wq ⟨vq,vr,s,t,rfl,m1,m2,m3,m4,hb⟩
      have R':=R.call hn (fun j hj=>absurd hj (by simp [D2])) (FA2.keep hst) hb (v:=.tuple #[vq,vr,.nilIface]) (show QuoGot nz ns p y wq (upd c 11 (.tuple #[vq,vr,.nilIface]) 11) from by rw [zd];exact⟨vq,vr,s,t,rfl,m1,m2,m3,m4⟩)
      clear m1 m2 m3 m4 hb
      clear R
      go_wp2_with fail
      exact hK.out _ _ ⟨_,_,by simp [upd,e3,e10],R'⟩
     ·obtain rfl:=Option.some.inj ho
      have R':=R.plain hn (fun j hj=>by simp [D2] at hj;subst hj;exact hdep ⟨_,.data⟩ (by simp) rfl) (FA2.keep hst) (v:=c 11) (show upd c 12 (c 11) 12=upd c 12 (c 11) 11 from by rw [zd,zc _ _ (by decide)])
      clear R
      go_simp
      exact hK.out _ _ ⟨_,_,by simp [upd],R'⟩
     ·obtain rfl:=Option.some.inj ho
      have hm:=hdep ⟨12,.data⟩ (by simp) rfl
      have em:c 12=c 11:=R.facts 12 hm
      obtain⟨vq,vr,s,t,ec,nm1,nm2,-⟩:(QuoGot nz ns p y) w' (c 11):=R.facts 11 (R.closed 12 hm 11 (by simp [D2]))
      rw [ec] at em
      have R':=R.plain hn (fun j hj=>by simp [D2] at hj;subst hj;exact hdep ⟨_,.data⟩ (by simp) rfl) (FA2.keep hst) (v:=vq) (show ∃ u1 u2 u3:Value,upd c 13 vq 12=.tuple #[u1,u2,u3]∧upd c 13 vq 13=u1 from⟨vq,vr,(.nilIface:Value),by rw [zc _ _ (by decide)];exact em,zd _ _ _⟩)
      clear R ec
      rw [em]
      go_simp
      exact hK.out _ _ ⟨_,_,by simp [upd,em],R'⟩
     ·obtain rfl:=Option.some.inj ho
      have hm:=hdep ⟨12,.data⟩ (by simp) rfl
      have em:c 12=c 11:=R.facts 12 hm
      obtain⟨vq,vr,s,t,ec,nm1,nm2,-⟩:(QuoGot nz ns p y) w' (c 11):=R.facts 11 (R.closed 12 hm 11 (by simp [D2]))
      rw [ec] at em
      have R':=R.plain hn (fun j hj=>by simp [D2] at hj;subst hj;exact hdep ⟨_,.data⟩ (by simp) rfl) (FA2.keep hst) (v:=vr) (show ∃ u1 u2 u3:Value,upd c 14 vr 12=.tuple #[u1,u2,u3]∧upd c 14 vr 14=u2 from⟨vq,vr,(.nilIface:Value),by rw [zc _ _ (by decide)];exact em,zd _ _ _⟩)
      clear R ec
      rw [em]
      go_simp
      exact hK.out _ _ ⟨_,_,by simp [upd,em],R'⟩
     ·obtain rfl:=Option.some.inj ho
      have hm:=hdep ⟨12,.data⟩ (by simp) rfl
      have em:c 12=c 11:=R.facts 12 hm
      obtain⟨vq,vr,s,t,ec,nm1,nm2,-⟩:(QuoGot nz ns p y) w' (c 11):=R.facts 11 (R.closed 12 hm 11 (by simp [D2]))
      rw [ec] at em
      have R':=R.plain hn (fun j hj=>by simp [D2] at hj;subst hj;exact hdep ⟨_,.data⟩ (by simp) rfl) (FA2.keep hst) (v:=(.nilIface:Value)) (show ∃ u1 u2 u3:Value,upd c 15 (.nilIface:Value) 12=.tuple #[u1,u2,u3]∧upd c 15 (.nilIface:Value) 15=u3 from⟨vq,vr,(.nilIface:Value),by rw [zc _ _ (by decide)];exact em,zd _ _ _⟩)
      clear R ec
      rw [em]
      go_simp
      exact hK.out _ _ ⟨_,_,by simp [upd,em],R'⟩
     ·obtain rfl:=Option.some.inj ho
      obtain⟨G',R'⟩:=R.alloc hn (fun j hj=>absurd hj (by simp [D2])) (FA2.keep hst) 18 29 (fun W' G' h=>show Made W' G' _ 18 (upd c 16 (ptr w'.heap.size) 16) from by rw [zd];exact h)
      clear R
      go_simp
      exact hK.out _ _ ⟨_,G',by simp [upd],R'⟩
     ·obtain rfl:=Option.some.inj ho
      obtain⟨G',R'⟩:=R.alloc hn (fun j hj=>absurd hj (by simp [D2])) (FA2.keep hst) 19 29 (fun W' G' h=>show Made W' G' _ 19 (upd c 17 (ptr w'.heap.size) 17) from by rw [zd];exact h)
      clear R
      go_simp
      exact hK.out _ _ ⟨_,G',by simp [upd],R'⟩
     ·obtain rfl:=Option.some.inj ho
      have hx:=hdep ⟨13,.data⟩ (by simp) rfl
      have hm:=R.closed 13 hx 12 (by simp [D2])
      have em:c 12=c 11:=R.facts 12 hm
      obtain⟨vq,vr,s,t,ec,nm1,nm2,-⟩:(QuoGot nz ns p y) w' (c 11):=R.facts 11 (R.closed 12 hm 11 (by simp [D2]))
      obtain⟨u1,u2,u3,em',ex⟩:∃ u1 u2 u3:Value,c 12=.tuple #[u1,u2,u3]∧c 13=u1:=R.facts 13 hx
      rw [em,ec] at em'
      simp only [Value.tuple.injEq,Array.mk.injEq,List.cons.injEq,and_true] at em'
      obtain⟨rfl,rfl,rfl⟩:=em'
      obtain⟨s,hs⟩:=nm1.nm
      rw [hs] at ex
      obtain⟨B,ea,hC,hB,hG,r,hb⟩:Made w' G _ 18 (c 16):=R.facts 16 (hdep ⟨16,.data⟩ (by simp) rfl)
      have R':=R.store hn (fun j hj=>by simp [D2] at hj;rcases hj with rfl | rfl <;> exact hdep ⟨_,.data⟩ (by simp) rfl) (FA2.keep hst) s hC hB hG hb (fun W' G' h=>show ∃ r:Nm,upd c 18 undef 13=r.v∧Stored W' G' _ 18 (upd c 18 undef 16) r from⟨s,by rw [zc _ _ (by decide)];exact ex,by rw [zc _ _ (by decide),ea];exact h⟩)
      obtain⟨b0,b1,b2,b3⟩:=hb
      obtain⟨sn,so,sl,sc⟩:=s
      dsimp only at *
      clear R em ec
      rw [ea,ex]
      go_simp
      exact hK.out _ _ ⟨_,_,by simp [upd,ea,ex],R'⟩
     ·obtain rfl:=Option.some.inj ho
      have hx:=hdep ⟨14,.data⟩ (by simp) rfl
      have hm:=R.closed 14 hx 12 (by simp [D2])
      have em:c 12=c 11:=R.facts 12 hm
      obtain⟨vq,vr,s,t,ec,nm1,nm2,-⟩:(QuoGot nz ns p y) w' (c 11):=R.facts 11 (R.closed 12 hm 11 (by simp [D2]))
      obtain⟨u1,u2,u3,em',ex⟩:∃ u1 u2 u3:Value,c 12=.tuple #[u1,u2,u3]∧c 14=u2:=R.facts 14 hx
      rw [em,ec] at em'
      simp only [Value.tuple.injEq,Array.mk.injEq,List.cons.injEq,and_true] at em'
      obtain⟨rfl,rfl,rfl⟩:=em'
      obtain⟨s,hs⟩:=nm2.nm
      rw [hs] at ex
      obtain⟨B,ea,hC,hB,hG,r,hb⟩:Made w' G _ 19 (c 17):=R.facts 17 (hdep ⟨17,.data⟩ (by simp) rfl)
      have R':=R.store hn (fun j hj=>by simp [D2] at hj;rcases hj with rfl | rfl <;> exact hdep ⟨_,.data⟩ (by simp) rfl) (FA2.keep hst) s hC hB hG hb (fun W' G' h=>show ∃ r:Nm,upd c 19 undef 14=r.v∧Stored W' G' _ 19 (upd c 19 undef 17) r from⟨s,by rw [zc _ _ (by decide)];exact ex,by rw [zc _ _ (by decide),ea];exact h⟩)
      obtain⟨b0,b1,b2,b3⟩:=hb
      obtain⟨sn,so,sl,sc⟩:=s
      dsimp only at *
      clear R em ec
      rw [ea,ex]
      go_simp
      exact hK.out _ _ ⟨_,_,by simp [upd,ea,ex],R'⟩
     ·obtain rfl:=Option.some.inj ho
      have R':=R.plain hn (fun j hj=>by simp [D2] at hj;subst hj;exact hdep ⟨_,.data⟩ (by simp) rfl) (FA2.keep hst) (v:=c 15) (show upd c 20 (c 15) 20=upd c 20 (c 15) 15 from by rw [zd,zc _ _ (by decide)])
      clear R
      go_simp
      exact hK.out _ _ ⟨_,_,by simp [upd],R'⟩
    ·rintro L a' w0 ⟨cc,G,rfl,R⟩ hall
     obtain⟨⟨sn,so,sl,sc⟩,r2',u3v,B1,B2,⟨vq,vr,s,t,ec,N1,-,hps,hleft⟩,e13,e14,e15,l1,l2,s1,s2,d12,x1,-,hb1⟩:=R.fin2 (fun i hi=>hall i hi)
     simp only [Value.tuple.injEq,Array.mk.injEq,List.cons.injEq,and_true] at ec
     obtain⟨rfl,-,-⟩:=ec
     have HQ:=hide (zcM hpos hps hleft)
     have NQ0:=hide N1
     have HV0:=hide (HI.out.later hb1)
     have HR0:=hide (HR.out.below hb1 zL)
     have k0:=(hb1.cell (p:=⟨sb,j,none⟩) lsb).trans c0
     have ls0:=zT lsb hb1.size
     obtain⟨x10,x11,-,-⟩:=x1
     clear R hall hst N1 hps hleft l1 l2 d12 hb1 c0 lsb a2 a3 a6 a7 lv lr HI HR NV NP s2 e15
     dsimp only at *
     rw [e13,e14]
     clear e13 e14
     go_wp2_with fail
     refine(zaq w0 _ s (nz+1) (by exact NQ0.out)).mono ?_
     rintro e w1 ⟨rfl,hbz⟩
     have NQ1:=hide (NQ0.out.below hbz zL)
     have HV1:=hide (HV0.out.later hbz)
     have HR1:=hide (HR0.out.below hbz zL)
     have c1:=(hbz.cell (p:=⟨sb,j,none⟩) ls0).trans k0
     have ls1:=zT ls0 hbz.size
     have y10:=(hbz.cell (p:=⟨B1,0,none⟩) s1).trans x10
     have y11:=(hbz.cell (p:=⟨B1,1,none⟩) s1).trans x11
     have sB:=zT s1 hbz.size
     clear NQ0 HV0 HR0 k0 ls0 x10 x11 s1 hbz
     have x10:=y10
     have x11:=y11
     have s1:=sB
     clear y10 y11 sB
     by_cases hs0:s=0
     ·rw [decide_eq_true hs0]
      have HN:Hid (LowV w w1 va (.slice (some ⟨vb,voff,none⟩) zs.length vcap) zs' (nv+(k+1) *(ns+3))):=by
       have e:=HE.out
       rw [HLZ.out (by rw [HQ.out,hs0])] at e
       have h1:=HV1.out
       rw [e,hsucc]
       exact hide ⟨h1.vec.mono (by omega),h1.own.imp id fun⟨P,e,ho⟩=>⟨P,e,⟨ho.vec.mono (by omega),ho.low,ho.below,ho.blk⟩⟩,h1.below⟩
      clear hs0 HQ HV1 HR1 NQ1 HE HLZ HLR x10 x11 c1
      go_wp2
      go_roundw
      case rel=>exact⟨k+1,by omega,by go_num,by rw [HZ'.out];exact HN⟩
      case measure=>simp [intOf];omega
     ·rw [decide_eq_false hs0]
      go_wp2_with fail
      go_region_held3 (fun w'=>w'.cell? ⟨B1,0,none⟩=some (.bool sn)∧w'.cell? ⟨B1,1,none⟩=some (.slice so sl sc)∧w'.cell? ⟨sb,j,none⟩=some (.slice (some ⟨b,off,none⟩) r.length cap)) (go_keep)
       (first
        |(go_at_call 53;refine(zaD _ 1 (by decide) (by decide)).mono ?_;rintro e w2 ⟨r2,rfl,hr2,hb⟩;have hb2:Below w1.heap.size w1 w2:=((Below.refl w1.heap.size w1).drew).trans hb;have N12:=hide hr2;have NQ2:=hide (NQ1.out.below hb2 zL);have HV2:=hide (HV1.out.later hb2);have HR2:=hide (HR1.out.below hb2 zL);have d0:=(hb2.cell (p:=⟨B1,0,none⟩) s1).trans x10;have d1:=(hb2.cell (p:=⟨B1,1,none⟩) s1).trans x11;have d2:=(hb2.cell (p:=⟨sb,j,none⟩) ls1).trans c1;have s2:=zT s1 hb2.size;have ls2:=zT ls1 hb2.size;clear hr2 hb hb2)
        |(go_at_call 55;refine(zfO _ _ s (nz+1) (by exact NQ2.out) (by omega)).mono ?_;rintro e w3 ⟨r3,rfl,hr3,hb3⟩;have NF3:=hide hr3;have N13:=hide (N12.out.below hb3 zL);have HV3:=hide (HV2.out.later hb3);have HR3:=hide (HR2.out.below hb3 zL);have e0:=(hb3.cell (p:=⟨B1,0,none⟩) s2).trans d0;have e1:=(hb3.cell (p:=⟨B1,1,none⟩) s2).trans d1;have e2:=(hb3.cell (p:=⟨sb,j,none⟩) ls2).trans d2;have s3:=zT s2 hb3.size;have ls3:=zT ls2 hb3.size;clear hr3 hb3)
        |(go_at_call 148;refine(zdH _ _ _ _ _ 1 (-s) zs r 2 nz (nz+1) ns (nz+ns+2) (by exact N13.out) (by exact HV3.out.vec) (by exact NF3.out) (by exact HR3.out) (by have:=HLE.out;omega) (by have:=HLE.out;omega) (by omega) (by omega) (by omega)).mono ?_;rintro e w4 ⟨P,rfl,ho⟩;have HO:=hide ho;have hb4:Below w3.heap.size w3 w4:=ho.below;have f0:=(hb4.cell (p:=⟨B1,0,none⟩) s3).trans e0;have f1:=(hb4.cell (p:=⟨B1,1,none⟩) s3).trans e1;have f2:=(hb4.cell (p:=⟨sb,j,none⟩) ls3).trans e2;clear ho hb4))
      rw [Nat.min_eq_left (by have:=HLE.out;omega)]
      have HN:Hid (LowV w w4 va (.slice (some ⟨P,0,none⟩) zs.length zs.length) zs' (nv+(k+1) *(ns+3))):=by
       have e:zs'=List.zipWith (fun a b=>1 * a+-s * b) zs r:=by rw [HE.out,HLR.out,HQ.out]
       have hl':zs'.length=zs.length:=by rw [e,zk _ _ _ (by have:=HLE.out;omega)]
       have ho:=HO.out.since HV3.out.below
       rw [← e] at ho
       rw [hsucc,← hl']
       have hn:nz+ns+2+1=nz+(ns+3):=by omega
       rw [hn] at ho
       exact hide ⟨ho.vec,.inr ⟨P,rfl,ho⟩,ho.below⟩
      clear HO HV3 HV2 HV1 HR1 HR2 HR3 HQ HE HLR HLZ
      go_wp2
      go_roundw
      case rel=>exact⟨k+1,by omega,by go_num,by rw [HZ'.out];exact HN⟩
      case measure=>simp [intOf];omega
  ·obtain rfl:k=m - f:=by omega
   have hnk:¬(((m - f:Nat):Int) < (m:Int) - (f:Int)):=by omega
   go_wp2
   exact bodyPost_ret (v:=u1) (by simp [results,Tryz.results129,go_sem]) rfl ⟨_,rfl,HI.out⟩
end Go.Proofs.YtdedolkgcdlmeaaGreatDoor
