import Derived.Test.YtnkcjkpkphjecaaGreatDoorKerT
import Derived.Deep.LoopGhost
import Derived.Test.YtnkcjkpkphjecaaGreatDoorMats
import Derived.Test.YtnkcjkpkphjecaaGreatDoorMix
import Derived.Test.YtnkcjkpkphjecaaGreatDoorGcdA
namespace Go.Proofs.YtnkcjkpkphjecaaGreatDoor
open Go.RowKit Limbs
theorem zcN:∀(n:Nat) (M:Nat→Nat→Int) (c:Nat),c < n→(∀ a,a < n→M a c=0)→det n M=0
 | 0,_,c,hc,_=>absurd hc (Nat.not_lt_zero c)
 | n+1,M,c,hc,h=>by
  rw [det]
  refine(zj (g:=fun _=>0) fun j hj=>?_).trans (zau _)
  by_cases e:j=c
  ·rw [e,h n (by omega),Int.mul_zero,Int.zero_mul]
  ·have:det n (fun a b=>M a (sk j b))=0:=by
    by_cases hlt:c < j
    ·exact zcN n _ c (by omega) fun a ha=>by
      show M a (sk j c)=0
      rw [zaD hlt];exact h a (by omega)
    ·refine zcN n _ (c - 1) (by omega) fun a ha=>?_
     show M a (sk j (c - 1))=0
     rw [zcv (by omega),show c - 1+1=c by omega]
     exact h a (by omega)
   rw [this,Int.mul_zero]
theorem zg4 (n:Nat)(M:Nat→Nat→Int)(h:∀ a b,a < n→b < n→a < b→M a b=0):det n M=prodN n (fun i=>M i i):=by
 induction n with
 | zero=>rfl
 | succ n ih=>
  rw [det,zE (n+1) n (by omega) _ fun j hj hne=>by
   have:det n (fun a b=>M a (sk j b))=0:=by
    refine zcN n _ (n - 1) (by omega) fun a ha=>?_
    show M a (sk j (n - 1))=0
    rw [zcv (by omega),show n - 1+1=n by omega]
    exact h a n (by omega) (by omega) (by omega)
   rw [this,Int.mul_zero]]
  have e:det n (fun a b=>M a (sk n b))=det n M:=zt fun a b _ hb=>by rw [zaD hb]
  rw [e,ih fun a b ha hb hab=>h a b (by omega) (by omega) hab]
  have:sgnN (n+n)=1:=by unfold sgnN;rw [if_pos (by omega)]
  rw [this,Int.one_mul,prodN,Int.mul_comm]
structure Sq (r:Nat)(H:List (List Int)):Prop where
 form:FormL r H (fun k=>k)
 len:H.length=r
theorem zaO {r:Nat}{H:List (List Int)}{p:Nat→Nat}(F:FormL r H p)(hl:H.length=r):Sq r H:=by
 have h2:∀ d k,k+d < r→p k+d≤p (k+d):=fun d=>by
  induction d with
  | zero=>exact fun k _=>Nat.le_refl _
  | succ d ih=>intro k hk;have:=ih k (by omega);have:=F.form.inc (k+d) (k+(d+1)) (by omega) (by omega);omega
 have hp:∀ k,k < r→p k=k:=fun k hk=>by
  have h3:=h2 (r - 1 - k) k (by omega)
  have h4:=F.form.lt (k+(r - 1 - k)) (by omega)
  have h5:=h2 k 0 (by omega)
  rw [Nat.zero_add] at h5
  omega
 refine⟨⟨F.len,?_⟩,hl⟩
 refine⟨fun i k h _=>h,fun i h=>by omega,fun i b hi hb=>F.form.zero i b hi (by rw [hp i (by omega)];exact hb),fun i hi=>?_,fun i k hik hk=>?_⟩
 ·have:=F.form.pos i hi;rwa [hp i (by omega)] at this
 ·have:=F.form.red i k hik hk;rwa [hp k (by omega)] at this
theorem zjA {r:Nat}{H:List (List Int)}{p:Nat→Nat}(F:FormL r H p)(hl:H.length=r):∀ k,k < r→p k=k:=fun k hk=>by
 have h2:∀ d k,k+d < r→p k+d≤p (k+d):=fun d=>by
  induction d with
  | zero=>exact fun k _=>Nat.le_refl _
  | succ d ih=>intro k hk;have:=ih k (by omega);have:=F.form.inc (k+d) (k+(d+1)) (by omega) (by omega);omega
 have h3:=h2 (r - 1 - k) k (by omega)
 have h4:=F.form.lt (k+(r - 1 - k)) (by omega)
 have h5:=h2 k 0 (by omega)
 rw [Nat.zero_add] at h5
 omega
theorem zgX {n:Nat}{hs fs:List (List Int)}{p:Nat→Nat}(G:FormL n hs p)(a:Alikes hs.length (InL fs) (InL (colsL hs n)))(hle:fs.length≤hs.length):fs.length=hs.length:=by
 obtain⟨C,hC⟩:=zI (r:=hs.length) (n:=hs.length) (mm:=fs.length) (H:=fun i b=>ent hs b (p (hs.length - 1 - i))) (M:=ent fs) fun i hi=>by
  have hj:p (hs.length - 1 - i) < n:=G.form.lt _ (by omega)
  have hm:(colsL hs n).getD (p (hs.length - 1 - i)) []∈colsL hs n:=zm (by rw [zN];exact hj)
  obtain⟨d,hd⟩:=zy ((a _).2 (.base hm (zaG hs n _ hm)))
  refine⟨d,fun b hb=>?_⟩
  have e1:=hd b hb
  dsimp only at e1
  rw [zaW hs n _ hj,zbF _ _ _ hb] at e1
  exact e1
 have:=zbh hs.length fs.length hs.length (fun i b=>ent hs b (p (hs.length - 1 - i))) (ent fs) C (fun k=>hs.length - 1 - k) (fun k hk=>by omega)
  (fun i k hi hki=>G.form.zero (hs.length - 1 - k) (p (hs.length - 1 - i)) (by omega) (G.form.inc _ _ (by omega) (by omega)))
  (fun i hi=>G.form.pos (hs.length - 1 - i) (by omega)) hC
 omega
section
variable {r:Nat}{H H':List (List Int)}
theorem Sq.low (S:Sq r H){k b:Nat}(hk:k < r)(hb:b < k):ent H k b=0:=S.form.form.zero k b (by rw [S.len];exact hk) hb
theorem Sq.pos (S:Sq r H){k:Nat}(hk:k < r):0 < ent H k k:=S.form.form.pos k (by rw [S.len];exact hk)
theorem Sq.red (S:Sq r H){i k:Nat}(hik:i < k)(hk:k < r):0≤ent H i k∧ent H i k < ent H k k:=S.form.form.red i k hik (by rw [S.len];exact hk)
def diag (r:Nat)(H:List (List Int)):Int:=prodN r (fun k=>ent H k k)
theorem Sq.one_le (S:Sq r H):1≤diag r H:=zbM r _ fun _ hk=>S.pos hk
theorem Sq.diag_le (S:Sq r H){k:Nat}(hk:k < r):ent H k k≤diag r H:=zdt r (fun k=>ent H k k) (fun _ hk=>S.pos hk) k hk
theorem Sq.ent_le (S:Sq r H){k b:Nat}(hk:k < r)(hb:b < r):0≤ent H k b∧ent H k b≤diag r H:=by
 rcases Nat.lt_trichotomy k b with h | h | h
 ·have h1:=S.red h hb;have h2:=S.diag_le hb;omega
 ·subst h;have h1:=S.pos hk;have h2:=S.diag_le hk;omega
 ·have h1:=S.low hk h;have h2:=S.one_le;omega
theorem zai (S:Sq r H){j b:Nat}(hj:j < r)(hb:b < r):ent (colsL H r) j b=ent H b j:=by
 show((colsL H r).getD j []).getD b 0=_
 rw [zaW H r j hj,zbF _ _ _ (by rw [S.len];exact hb)]
 rfl
theorem zcL (S:Sq r H){j:Nat}(hj:j < r):Gens r (InL (colsL H r)) ((colsL H r).getD j []):=by
 have hm:(colsL H r).getD j []∈colsL H r:=zm (by rw [zN];exact hj)
 exact .base hm (by rw [zaG H r _ hm,S.len])
theorem Sq.step (S:Sq r H){p:Nat→Nat}(F:FormL r H' p)(a:Alikes r (InL H') (InL (colsL H r))):Sq r H'∧diag r H'=diag r H:=by
 have h1:=zeA F a
 rw [zN] at h1
 have hl:H'.length=r:=by
  obtain⟨C,hC⟩:=zI (r:=r) (n:=r) (mm:=H'.length) (H:=fun i b=>ent (colsL H r) (r - 1 - i) b) (M:=ent H') fun i hi=>zy ((a _).2 (zcL S (j:=r - 1 - i) (by omega)))
  have:=zbh r H'.length r (fun i b=>ent (colsL H r) (r - 1 - i) b) (ent H') C (fun k=>r - 1 - k) (fun k hk=>by omega)
   (fun i k hi hki=>by
    show ent (colsL H r) (r - 1 - i) (r - 1 - k)=0
    rw [zai S (by omega) (by omega)]
    exact S.low (by omega) (by omega))
   (fun i hi=>by
    show 1≤ent (colsL H r) (r - 1 - i) (r - 1 - i)
    rw [zai S (by omega) (by omega)]
    exact S.pos (by omega)) hC
  omega
 have S':=zaO F hl
 refine⟨S',?_⟩
 obtain⟨C,hC⟩:=zI (r:=r) (n:=r) (mm:=r) (H:=ent H') (M:=ent (colsL H r)) fun k hk=>by
  have hm:H'.getD k []∈H':=zm (by omega)
  have g:=zy ((a _).1 (.base hm (F.len _ hm)))
  rw [zN] at g
  exact g
 obtain⟨T,hT⟩:=zI (r:=r) (n:=r) (mm:=r) (H:=ent (colsL H r)) (M:=ent H') fun k hk=>by
  have g:=zy ((a _).2 (zcL S hk))
  rw [hl] at g
  exact g
 have d1:det r (ent H')=diag r H':=zbu r _ fun i b hi hb=>S'.low hi hb
 have d2:det r (ent (colsL H r))=diag r H:=by
  rw [zg4 r _ fun i b hi hb hib=>by rw [zai S hi hb];exact S.low hb hib]
  unfold diag
  have:∀ m,m≤r→prodN m (fun i=>ent (colsL H r) i i)=prodN m (fun k=>ent H k k):=fun m=>by
   induction m with
   | zero=>exact fun _=>rfl
   | succ m ih=>intro hm;rw [prodN,prodN,ih (by omega),zai S (by omega) (by omega)]
  exact this r zL
 have e1:diag r H'=det r C * diag r H:=by
  rw [← d1,← d2,← zaX]
  exact zt fun x y hx hy=>hC x y hx hy
 have e2:diag r H=det r T * diag r H':=by
  rw [← d1,← d2,← zaX]
  exact zt fun x y hx hy=>hT x y hx hy
 have o1:=S.one_le;have o2:=S'.one_le
 have up:∀ {x y c:Int},1≤x→1≤y→x=c * y→y≤x:=fun {x y c} hx hy h=>by
  rcases Int.lt_or_le 0 c with hc | hc
  ·have:=Int.mul_le_mul_of_nonneg_right (show 1≤c by omega) (show 0≤y by omega)
   omega
  ·have:=Int.mul_le_mul_of_nonneg_right hc (show 0≤y by omega)
   omega
 have:=up o2 o1 e1
 have:=up o1 o2 e2
 omega
theorem Sq.bound (S:Sq r H){ms:List (List Int)}(a:Alikes r (InL H) (InL ms))(hl:∀ us∈ms,us.length=r){B:Int}(hB:0≤B)(hb:∀ us∈ms,∀ j,j < r→absI (us.getD j 0)≤B):diag r H≤facP r B:=by
 obtain⟨C,hC⟩:=zI (r:=r) (n:=r) (mm:=ms.length) (H:=ent H) (M:=ent ms) fun k hk=>by
  have hm:H.getD k []∈H:=zm (by rw [S.len];exact hk)
  exact zy ((a _).1 (.base hm (S.form.len _ hm)))
 obtain⟨T,hT⟩:=zI (r:=ms.length) (n:=r) (mm:=r) (H:=ent ms) (M:=ent H) fun k hk=>by
  have hm:ms.getD k []∈ms:=zm hk
  have g:=zy ((a _).2 (.base hm (hl _ hm)))
  rw [S.len] at g
  exact g
 have d1:det r (ent H)=diag r H:=zbu r _ fun i b hi hb=>S.low hi hb
 have o1:=S.one_le
 obtain⟨φ,hφ,hne⟩:=zcH r ms.length (ent H) (ent ms) C (fun a b ha hb=>hC a b ha hb) (by rw [d1];omega) r zL
 have hne':det r (fun a b=>ent ms (φ a) b)≠0:=by
  intro h
  apply hne
  have e:det r (fun a b=>if a < r then ent ms (φ a) b else ent H a b)=det r (fun a b=>ent ms (φ a) b):=zt fun a b ha _=>if_pos ha
  exact e.trans h
 have hmul:det r (fun a b=>ent ms (φ a) b)=det r (fun a k=>T (φ a) k) * det r (ent H):=by
  rw [← zaX]
  exact zt fun a b ha hb=>hT (φ a) b (hφ a ha) hb
 have h1:=zen (n:=r) (fun a b=>ent ms (φ a) b) B hB fun a b ha hb'=>hb _ (zm (hφ a ha)) b hb'
 rw [hmul,zaf,d1] at h1
 have hT0:det r (fun a k=>T (φ a) k)≠0:=fun h=>hne' (by rw [hmul,h,Int.zero_mul])
 have h2:1≤absI (det r (fun a k=>T (φ a) k)):=by
  have:=zag (det r (fun a k=>T (φ a) k))
  have h3:absI (det r (fun a k=>T (φ a) k))≠0:=fun h=>hT0 (zcD.1 h)
  omega
 rw [zZ (show 0≤diag r H by omega)] at h1
 have h3:=Int.mul_le_mul_of_nonneg_right h2 (show 0≤diag r H by omega)
 omega
def rowAl (r:Nat)(H:List (List Int))(k:Nat):Prop:=∀ b,k < b→b < r→ent H k b=0
theorem zdF (n k b:Nat)(hkb:k < b)(hb:b < n)(f:Nat→Int)(h:∀ i,i < n→i≠k→i≠b→f i=0):sumN n f=f k+f b:=by
 have e:sumN n f=sumN n (fun j=>(if j=k then f k else 0)+(if j=b then f b else 0)):=zj fun j hj=>by
  by_cases h1:j=k
  ·rw [if_pos h1,if_neg (by omega),h1,Int.add_zero]
  ·by_cases h2:j=b
   ·rw [if_neg h1,if_pos h2,h2,Int.zero_add]
   ·rw [if_neg h1,if_neg h2,h j hj h1 h2];rfl
 rw [e,zbl,zE n k (by omega) _ (fun i _ hi=>if_neg hi),zE n b hb _ (fun i _ hi=>if_neg hi),if_pos rfl,if_pos rfl]
theorem Sq.unit_row (S:Sq r H){v:List Int}(hv:Gens r (InL H) v){k:Nat}(hk:k < r){e:Int}(he:∀ b,b < r→v.getD b 0=if b=k then e else 0):
  (∃ t,e=t * ent H k k)∧(e=ent H k k→rowAl r H k):=by
 obtain⟨d,hd⟩:=zy hv
 rw [S.len] at hd
 have hd':∀ b,b < r→(if b=k then e else 0)=sumN r (fun j=>d j * ent H j b):=fun b hb=>(he b hb).symm.trans (hd b hb)
 have hpiv:∀ j,j < r→(∀ i,i < j→d i=0)→sumN r (fun i=>d i * ent H i j)=d j * ent H j j:=fun j hj h0=>by
  refine zE r j hj _ fun i hi hij=>?_
  rcases Nat.lt_or_gt_of_ne hij with h | h
  ·rw [h0 i h,Int.zero_mul]
  ·rw [S.low hi h,Int.mul_zero]
 have hz:∀ j,j < k→d j=0:=fun j=>by
  induction j using Nat.strongRecOn with
  | _ j ih=>
   intro hj
   have h1:=hd' j (by omega)
   rw [if_neg (by omega),hpiv j (by omega) fun i hi=>ih i hi (by omega)] at h1
   have hp:=S.pos (k:=j) (by omega)
   rcases Int.mul_eq_zero.1 h1.symm with h | h
   ·exact h
   ·omega
 have hke:=hd' k hk
 rw [if_pos rfl,hpiv k hk hz] at hke
 refine⟨⟨d k,hke⟩,fun hee=>?_⟩
 have hd1:d k=1:=by
  have hp:=S.pos hk
  rw [hee] at hke
  have:(d k - 1) * ent H k k=0:=by rw [Int.sub_mul];omega
  rcases Int.mul_eq_zero.1 this with h | h <;> omega
 have key:∀ b,k < b→b < r→d b=0∧ent H k b=0:=fun b=>by
  induction b using Nat.strongRecOn with
  | _ b ih=>
   intro hkb hb
   have h1:=hd' b hb
   rw [if_neg (by omega),zdF r k b hkb hb _ fun i hi h2 h3=>by
    rcases Nat.lt_trichotomy i k with h | h | h
    ·rw [hz i h,Int.zero_mul]
    ·exact absurd h h2
    ·rcases Nat.lt_or_gt_of_ne h3 with h4 | h4
     ·rw [(ih i h4 h hi).1,Int.zero_mul]
     ·rw [S.low hi h4,Int.mul_zero],hd1,Int.one_mul] at h1
   have hr:=S.red hkb hb
   have hp:=S.pos hb
   have h0:d b=0:=by
    rcases Int.lt_trichotomy (d b) 0 with h | h | h
    ·have:=Int.mul_le_mul_of_nonneg_right (show d b≤-1 by omega) (show 0≤ent H b b by omega)
     omega
    ·exact h
    ·have:=Int.mul_le_mul_of_nonneg_right (show 1≤d b by omega) (show 0≤ent H b b by omega)
     omega
   rw [h0,Int.zero_mul] at h1
   exact⟨h0,by omega⟩
 exact fun b h1 h2=>(key b h1 h2).2
theorem Sq.first (S:Sq r H)(S':Sq r H')(a:Alikes r (InL H') (InL (colsL H r))){k0:Nat}(hk0:k0 < r)(hal:∀ k,k < k0→rowAl r H k):
  (∀ k,k < k0→ent H' k k=ent H k k∧rowAl r H' k)∧ent H' k0 k0≤ent H k0 k0∧(ent H' k0 k0=ent H k0 k0→rowAl r H' k0):=by
 have hcol:∀ k,k≤k0→∀ b,b < r→((colsL H r).getD k []).getD b 0=if b=k then ent H k k else 0:=fun k hk b hb=>by
  have e:((colsL H r).getD k []).getD b 0=ent H b k:=zai S (by omega) hb
  rw [e]
  rcases Nat.lt_trichotomy b k with h | h | h
  ·rw [if_neg (by omega)];exact hal b (by omega) k h (by omega)
  ·rw [if_pos h,h]
  ·rw [if_neg (by omega)];exact S.low hb h
 have hu:=fun k (hk:k≤k0)=>S'.unit_row ((a _).2 (zcL S (j:=k) (by omega))) (by omega) (hcol k hk)
 have hdv:∀ {x y t:Int},0 < x→0 < y→x=t * y→y≤x:=fun {x y t} hx hy h=>by
  rcases Int.lt_or_le 0 t with hc | hc
  ·have:=Int.mul_le_mul_of_nonneg_right (show 1≤t by omega) (show 0≤y by omega)
   omega
  ·have:=Int.mul_le_mul_of_nonneg_right hc (show 0≤y by omega)
   omega
 refine⟨fun k hk=>?_,?_,fun h=>(hu k0 zL).2 h.symm⟩
 ·obtain⟨⟨t,ht⟩,h2⟩:=hu k (by omega)
  have hp:=S.pos (k:=k) (by omega)
  have hp':=S'.pos (k:=k) (by omega)
  have g1:=hdv hp hp' ht
  have hm:H'.getD k []∈H':=zm (by rw [S'.len];omega)
  obtain⟨c,hc⟩:=zy ((a _).1 (.base hm (S'.form.len _ hm)))
  have hck:=hc k (by omega)
  rw [zN] at hck
  have e1:sumN r (fun j=>c j *((colsL H r).getD j []).getD k 0)=c k * ent H k k:=by
   refine(zE r k (by omega) _ fun j hj hjk=>?_).trans ?_
   ·have e:((colsL H r).getD j []).getD k 0=ent H k j:=zai S hj (by omega)
    rw [e]
    rcases Nat.lt_or_gt_of_ne hjk with h | h
    ·rw [S.low (by omega) h,Int.mul_zero]
    ·rw [hal k hk j h hj,Int.mul_zero]
   ·have e:((colsL H r).getD k []).getD k 0=ent H k k:=zai S (by omega) (by omega)
    rw [e]
  have g2:=hdv hp' hp (show ent H' k k=c k * ent H k k from hck.trans e1)
  have e3:ent H' k k=ent H k k:=by omega
  exact⟨e3,h2 e3.symm⟩
 ·obtain⟨⟨t,ht⟩,-⟩:=hu k0 zL
  exact hdv (S.pos hk0) (S'.pos hk0) ht
end
def horn (W:Nat)(f:Nat→Nat):Nat→Nat
 | 0=>0
 | n+1=>horn W f n * W+f n
theorem zhX {W:Nat}{f g:Nat→Nat}(n:Nat)(h:∀ i,i < n→f i=g i):horn W f n=horn W g n:=by
 induction n with
 | zero=>rfl
 | succ n ih=>rw [horn,horn,ih fun i hi=>h i (by omega),h n (by omega)]
theorem zhY {W:Nat}{f g:Nat→Nat}{k:Nat}(hk:f k < g k)(he:∀ i,i < k→f i=g i)(n:Nat)(hn:k < n)(hf:∀ i,i < n→f i < W):horn W f n < horn W g n:=by
 induction n with
 | zero=>omega
 | succ n ih=>
  rw [horn,horn]
  by_cases e:k=n
  ·subst e
   rw [zhX k he]
   omega
  ·have h1:=ih (by omega) fun i hi=>hf i (by omega)
   have h2:=hf n (by omega)
   have h3:(horn W f n+1) * W≤horn W g n * W:=Nat.mul_le_mul_right _ h1
   rw [Nat.succ_mul] at h3
   omega
theorem zhZ {W:Nat}{f:Nat→Nat}(n:Nat)(hf:∀ i,i < n→f i < W):horn W f n < W ^ n:=by
 induction n with
 | zero=>exact Nat.zero_lt_one
 | succ n ih=>
  have h1:=ih fun i hi=>hf i (by omega)
  have h2:=hf n (by omega)
  have h3:(horn W f n+1) * W≤W ^ n * W:=Nat.mul_le_mul_right _ h1
  rw [Nat.succ_mul] at h3
  rw [horn,Nat.pow_succ]
  omega
open Classical in
noncomputable def codeK (r:Nat) (H:List (List Int)) (k:Nat):Nat:=2 *(ent H k k).toNat+if rowAl r H k then 0 else 1
noncomputable def muS (W r:Nat) (H:List (List Int)):Nat:=horn W (codeK r H) r
theorem zej {r W:Nat}{H:List (List Int)}(S:Sq r H)(hW:2 *(diag r H).toNat+1 < W):∀ i,i < r→codeK r H i < W:=fun i hi=>by
 have h1:=S.diag_le hi;have h2:=S.pos hi
 unfold codeK
 split <;> omega
theorem ziw {r W:Nat}{H H':List (List Int)}(S:Sq r H)(S':Sq r H')(hd:diag r H'=diag r H)(a:Alikes r (InL H') (InL (colsL H r)))(hW:2 *(diag r H).toNat+1 < W)(hno:¬ ∀ k,k < r→rowAl r H k):muS W r H' < muS W r H:=by
 obtain⟨k0,⟨hk0,hn0⟩,hle⟩:=exists_least (p:=fun k=>k < r∧¬ rowAl r H k) (Classical.byContradiction fun h=>hno fun k hk=>Classical.byContradiction fun h'=>h ⟨k,hk,h'⟩)
 have hal:∀ k,k < k0→rowAl r H k:=fun k hk=>Classical.byContradiction fun h=>by
  have:=hle k ⟨by omega,h⟩
  omega
 obtain⟨h1,h2,h3⟩:=S.first S' a hk0 hal
 refine zhY (k:=k0) ?_ (fun i hi=>?_) r hk0 (zej S' (by rw [hd];exact hW))
 ·unfold codeK
  rw [if_neg hn0]
  have hp:=S.pos hk0;have hp':=S'.pos hk0
  by_cases e:ent H' k0 k0=ent H k0 k0
  ·rw [if_pos (h3 e),e];omega
  ·split <;> omega
 ·obtain⟨e1,e2⟩:=h1 i hi
  unfold codeK
  rw [e1,if_pos e2,if_pos (hal i hi)]
end Go.Proofs.YtnkcjkpkphjecaaGreatDoor
/- Rows of vectors that grow at their end. Their own block holds slices alone: so no number lies in it, and what is appended changes no vector. -/
namespace Go.Proofs.YtnkcjkpkphjecaaGreatDoor
open Go.RowKit Limbs
def AllSl (W:World)(row:Option Nat):Prop:=∀ g,row=some g→∃ cur t fz,W.heap[g]?=some (.cells cur t fz)∧∀ u,u∈cur.toList→∃ o l c,u=.slice o l c
theorem zd6 (W:World):AllSl W none:=fun _ h=>by cases h
theorem AllSl.cell {W:World}{g:Nat}(h:AllSl W (some g)){k:Nat}{u:Value}(hc:W.cell? ⟨g,k,none⟩=some u):∃ o l c,u=.slice o l c:=by
 obtain⟨cur,t,fz,hh,hs⟩:=h g rfl
 rw [cell_of_row W g k cur t fz hh] at hc
 refine hs u ?_
 obtain⟨hk,e⟩:=Array.getElem?_eq_some_iff.1 hc
 rw [← e]
 exact Array.getElem_mem_toList hk
theorem AllSl.later {W W':World}{row:Option Nat}(h:AllSl W row)(hb:Below W.heap.size W W'):AllSl W' row:=fun g hg=>by
 obtain⟨cur,t,fz,hh,hs⟩:=h g hg
 exact⟨cur,t,fz,(hb.block _ (zn hh)).trans hh,hs⟩
theorem Lim.grownS {W W':World}{row:Option Nat}{s:Value}{zs:List Int}(h:Lim W s zs)(hg:W.grownBy W' row)(hr:AllSl W row):Lim W' s zs:=by
 obtain⟨ao,cap,rfl,h1,h2,h3,h4⟩:=h
 refine⟨ao,cap,rfl,h1,h2,h3,fun h0=>?_⟩
 obtain⟨b,off,e,hlt,hc⟩:=h4 h0
 have hne:some b≠row:=fun e'=>by
  subst e'
  obtain⟨o,l,c,e⟩:=hr.cell (hc 0 h0)
  cases e
 exact⟨b,off,e,zT hlt hg.size,fun i hi=>hg.cell (hc i hi) hne⟩
theorem NumL.grownS {W W':World}{row:Option Nat}{v:Value}{z:Int}{n:Nat}(h:NumL W v z n)(hg:W.grownBy W' row)(hr:AllSl W row):NumL W' v z n:=by
 obtain⟨neg,s,zs,h1,h2,h3⟩:=h
 exact⟨neg,s,zs,h1,h2.grownS hg hr,h3⟩
theorem VecN.grownS {W W':World}{row:Option Nat}{v:Value}{zs:List Int}{n:Nat}(h:VecN W v zs n)(hg:W.grownBy W' row)(hr:AllSl W row):VecN W' v zs n:=by
 obtain⟨ao,cap,hv,h1,h2⟩:=h
 refine⟨ao,cap,hv,h1,fun h0=>?_⟩
 obtain⟨b,off,e,hlt,hc⟩:=h2 h0
 have hne:some b≠row:=fun e'=>by
  subst e'
  obtain⟨neg,_,_,_,h3,-⟩:=hc 0 h0
  obtain⟨o,l,c,e⟩:=hr.cell h3
  cases e
 refine⟨b,off,e,zT hlt hg.size,fun i hi=>?_⟩
 obtain⟨neg,o,l,c,h3,h4,h5⟩:=hc i hi
 exact⟨neg,o,l,c,hg.cell h3 hne,hg.cell h4 hne,h5.grownS hg hr⟩
theorem zdO (n:Nat):∀ u,u∈(Builtin.zeroCells (Value.cells (.slice none 0 0)) n).toList→∃ o l c,u=.slice o l c:=fun u hu=>by
 simp only [Builtin.zeroCells,Array.toList_map,List.mem_map] at hu
 obtain⟨i,-,rfl⟩:=hu
 exact⟨none,0,0,by
  have:i % (Value.cells (.slice none 0 0)).size=0:=by simp [Value.cells,Nat.mod_one]
  rw [this];rfl⟩
theorem zjb {P:Program}(w:World)(t ty:TypeId)(base:Nat)(e:TypeId)(i:TypeInfo)(ht:P.underlying t=some (.slice e))(hi:P.info? e=some i)(hz:i.zero=some (.slice none 0 0))
  (hsize:i.size=1) (v:Value) (n:Nat) (xs:List Value) (hown:w.ownsRow base e 1 v n xs) (hall:AllSl w v.ownBlock)
  (ad:Addr) (o:Option Addr) (l c cc:Nat) (hnews:∀ j u,[Value.slice o l c][j]?=some u→w.cell? (ad.add j)=some u)
  (h63:n+1≤maxLen) (hbytes:(n+1) * i.bytes≤140737488355328) (g cap:Nat) (w':World)
  (hr:(Builtin.append_ #[t,t] ty #[v,.slice (some ad) 1 cc]).run P w=.ok (.slice (some ⟨g,0,none⟩) (n+1) cap) w'):AllSl w' (some g):=by
 have hx:∀ u,u∈xs→∃ o l c,u=.slice o l c:=by
  rcases hown.2 with⟨rfl,rfl⟩ |⟨g',cap',cur,rfl,hbg,hg,hnc,hcm,hcs,htake⟩
  ·have:xs=[]:=List.eq_nil_of_length_eq_zero (by simpa using hown.1)
   rw [this]
   exact fun _ h=>by cases h
  ·intro u hu
   obtain⟨cur',t',fz',hh,hs⟩:=hall g' rfl
   rw [hg] at hh
   simp only [Option.some.injEq,Obj.cells.injEq] at hh
   obtain⟨rfl,-,-⟩:=hh
   rw [← htake] at hu
   exact hs u (List.mem_of_mem_take hu)
 have hmake:∀(k:Nat) (ys:List Value),(∀ u,u∈ys→∃ o l c,u=.slice o l c)→AllSl (w.drew.alloc (.cells (ys.toArray ++ Builtin.zeroCells (Value.cells (.slice none 0 0)) k) e)) (some w.heap.size):=fun k ys hy g0 hg0=>by
  simp only [Option.some.injEq] at hg0
  subst hg0
  refine⟨_,_,_,heap_alloc_new w.drew _,fun u hu=>?_⟩
  rw [Array.toList_append,List.mem_append] at hu
  rcases hu with hu | hu
  ·exact hy u (by simpa using hu)
  ·exact zdO k u hu
 have hsl:∀ u,u∈[Value.slice o l c]→∃ o l c,u=.slice o l c:=fun u hu=>by
  rw [List.mem_singleton] at hu
  exact⟨o,l,c,hu⟩
 have h1c:∀ u∈[Value.slice o l c],u.oneCell'=true:=fun u hu=>by
  rw [List.mem_singleton] at hu
  rw [hu];rfl
 have hsmall:n+1≤9223372036854775807:=by simp only [maxLen] at h63;omega
 rcases hown.2 with⟨rfl,rfl⟩ |⟨g',cap',cur,rfl,hbg,hg,hnc,hcm,hcs,htake⟩
 ·have hr':=run_append_nil (P:=P) w t ty e i (.slice none 0 0) ht hi hz ad 1 cc [Value.slice o l c] (by rw [hsize];rfl) hnews (by decide) (by decide) (by simp only [Nat.zero_add] at hbytes;omega)
  rw [hr'] at hr
  simp only [Result.ok.injEq,Value.slice.injEq,Option.some.injEq,Addr.mk.injEq,and_true] at hr
  obtain⟨⟨rfl,-⟩,rfl⟩:=hr
  exact hmake _ _ hsl
 ·by_cases hroom:n+1≤cap'
  ·have hr':=run_append_room (P:=P) w t ty e i ht hi g' n cap' cur hg ad 1 cc [Value.slice o l c] (by rw [hsize];rfl) hnews h1c hroom (by rw [hsize,hcs];simp;omega)
   rw [hr'] at hr
   simp only [Result.ok.injEq,Value.slice.injEq,Option.some.injEq,Addr.mk.injEq,and_true,true_and] at hr
   obtain⟨⟨rfl,-⟩,rfl⟩:=hr
   intro g0 hg0
   simp only [Option.some.injEq] at hg0
   subst hg0
   refine⟨_,_,_,setRow_heap w g' cur _ e _ hg,fun u hu=>?_⟩
   obtain⟨cur',t',fz',hh,hs⟩:=hall g' rfl
   rw [hg] at hh
   simp only [Option.some.injEq,Obj.cells.injEq] at hh
   obtain⟨rfl,-,-⟩:=hh
   simp only [List.mem_append] at hu
   rcases hu with(hu | hu) | hu
   ·exact hs u (List.mem_of_mem_take hu)
   ·exact hsl u hu
   ·exact hs u (List.mem_of_mem_drop hu)
  ·have holds:∀ j u,xs[j]?=some u→w.cell? ((⟨g',0,none⟩:Addr).add j)=some u:=hown.cells (g:=g') rfl
   have hr':=run_append_grow (P:=P) w t ty e i (.slice none 0 0) ht hi hz ⟨g',0,none⟩ n cap' xs (by rw [hsize];exact hown.1) holds ad 1 cc [Value.slice o l c] (by rw [hsize];rfl) hnews (by omega) (by omega) (growslice_fits (by omega) hbytes)
   rw [hr'] at hr
   simp only [Result.ok.injEq,Value.slice.injEq,Option.some.injEq,Addr.mk.injEq,and_true,true_and] at hr
   obtain⟨⟨rfl,-⟩,rfl⟩:=hr
   have:=hmake (grownCap w (n+1) cap' e - (n+1)) (xs ++ [Value.slice o l c]) (fun u hu=>by
    rcases List.mem_append.1 hu with h | h
    ·exact hx u h
    ·exact hsl u h)
   rwa [← List.append_toArray] at this
structure GrowV (W:World)(base:Nat)(v:Value)(qs:List (Value × List Int))(n:Nat):Prop where
 own:W.ownsRow base 53 1 v qs.length (qs.map (·.1))
 all:AllSl W v.ownBlock
 vec:∀ q∈qs,VecN W q.1 q.2 n
theorem GrowV.nil (W:World)(base n:Nat):GrowV W base (.slice none 0 0) [] n:=⟨World.ownsRow_nil _ _ _ _,zd6 _,fun _ h=>by cases h⟩
theorem GrowV.later {W W':World}{base:Nat}{v:Value}{qs:List (Value × List Int)}{n:Nat}(h:GrowV W base v qs n)(hb:Below W.heap.size W W'):GrowV W' base v qs n:=
 ⟨zcn h.own hb,h.all.later hb,fun p hp=>(h.vec p hp).below hb zL⟩
theorem GrowV.mono {W:World}{base:Nat}{v:Value}{qs:List (Value × List Int)}{n m:Nat}(h:GrowV W base v qs n)(hm:n≤m):GrowV W base v qs m:=
 ⟨h.own,h.all,fun p hp=>(h.vec p hp).mono hm⟩
theorem GrowV.mat {W:World}{base:Nat}{v:Value}{qs:List (Value × List Int)}{n:Nat}(h:GrowV W base v qs n):MatN W v (qs.map (·.2)) n:=ze6 h.own h.vec
end Go.Proofs.YtnkcjkpkphjecaaGreatDoor
/- Of rows those that are nought in the first places: one by one. -/
namespace Go.Proofs.YtnkcjkpkphjecaaGreatDoor
open Go.RowKit Limbs
theorem VecN.drop {W:World}{b off cap:Nat}{us:List Int}{nv n m:Nat}(h:VecN W (.slice (some ⟨b,off,none⟩) us.length cap) us nv)(hn:n+m=us.length)(hm:0 < m):VecN W (.slice (some ⟨b,off+n * 2,none⟩) m (cap - n)) (us.drop n) nv:=by
 have hc:us.length≤cap:=by
  obtain⟨_,_,e,h1,-⟩:=h
  simp only [Value.slice.injEq,true_and] at e
  rw [e.2];exact h1
 have hl:(us.drop n).length=m:=by rw [List.length_drop];omega
 refine⟨_,_,by rw [hl],by rw [hl];omega,fun _=>⟨b,off+n * 2,rfl,(h.at 0 (by omega)).1,fun i hi=>?_⟩⟩
 rw [hl] at hi
 obtain⟨-,neg,o,l,c,h1,h2,h3⟩:=h.at (n+i) (by omega)
 refine⟨neg,o,l,c,?_,?_,?_⟩
 ·rw [show off+n * 2+i * 2=off+(n+i) * 2 by omega];exact h1
 ·rw [show off+n * 2+i * 2+1=off+(n+i) * 2+1 by omega];exact h2
 ·rw [zcZ];exact h3
end Go.Proofs.YtnkcjkpkphjecaaGreatDoor
/- mat.pivotsAlone, mat.pivots. -/
namespace Go.Proofs.YtnkcjkpkphjecaaGreatDoor
open Go.RowKit Limbs
theorem VecN.drop0 {W:World}{b off cap:Nat}{us:List Int}{nv n m:Nat}(h:VecN W (.slice (some ⟨b,off,none⟩) us.length cap) us nv)(hn:n+m=us.length):VecN W (.slice (some ⟨b,off+n * 2,none⟩) m (cap - n)) (us.drop n) nv:=by
 by_cases hm:0 < m
 ·exact h.drop hn hm
 ·have hl:(us.drop n).length=m:=by rw [List.length_drop];omega
  exact⟨_,_,by rw [hl],by rw [hl];omega,fun h0=>absurd h0 (by rw [hl];exact hm)⟩
def aloneTo (hs:List (List Int))(p:Nat→Nat)(n k:Nat):Prop:=∀ i,i < k→∀ b,p i < b→b < n→ent hs i b=0
theorem zgr {us:List Int}{f n:Nat}(hl:us.length=n):first (us.drop (f+1)) < 0↔∀ b,f < b→b < n→us.getD b 0=0:=by
 rw [zcW]
 constructor
 ·intro h b h1 h2
  have:=h (b - (f+1)) (by rw [List.length_drop];omega)
  rw [zcZ,show f+1+(b - (f+1))=b by omega] at this
  exact this
 ·intro h b hb
  rw [List.length_drop] at hb
  rw [zcZ]
  exact h _ (by omega) (by omega)
set_option linter.unusedSimpArgs false in
set_option maxRecDepth 100000 in
set_option maxHeartbeats 3200000 in
theorem zfx (w:World)(va:Value)(n nv:Nat)(hs:List (List Int))(p:Nat→Nat)(ha:MatN w va hs nv)(F:FormL n hs p)(hn:n≤100)(hm:hs.length≤100):
  Calls Tryz.prog 66 #[va] w fun e w'=>∃ r:Bool,e=.returned (.bool r)∧(r=true↔aloneTo hs p n hs.length)∧Below w.heap.size w w':=by
 have HA:=hide ha;have HF:=hide F
 obtain⟨ao,acap,rfl,-,-⟩:=ha
 clear F
 go_enter Tryz.func66,Tryz.ntmps66
 go_wp2
 go_loopw [6] (fun x wr=>∃ k:Nat,k≤hs.length∧x=.int .i64 k∧Hid (aloneTo hs p n k)∧Hid (Below w.heap.size w wr)) (fun x _=>hs.length - (intOf x).toNat)
 case atStart=>exact⟨0,Nat.zero_le _,rfl,hide (fun i hi=>absurd hi (Nat.not_lt_zero i)),hide (Below.refl _ _)⟩
 case round=>
  obtain⟨k,hk,rfl,HAL,HBE⟩:=hrel
  by_cases hkl:k < hs.length
  ·obtain⟨rb,roff,_,e,lr,ru,cu,hru⟩:=HA.out.at k hkl
   simp only [Value.slice.injEq,true_and] at e
   obtain⟨rfl,rfl⟩:=e
   have hul:hs[k].length=n:=HF.out.len _ (List.getElem_mem hkl)
   obtain⟨hf1,hf2,hf3⟩:=HF.out.first hkl
   have HE:Hid (∀ b,ent hs k b=hs[k].getD b 0):=fun b=>by unfold ent;rw [zk hkl]
   have hpn:p k < n:=hf2
   generalize hs[k]=us at *
   obtain⟨vb,voff,vcap,rfl⟩:=hru.form (by omega)
   have hcap:n≤vcap:=by
    obtain⟨_,_,e,h1,-⟩:=hru
    simp only [Value.slice.injEq,true_and] at e
    omega
   have HU:=hide ((hru.below HBE.out zL).below (Below.refl wr.heap.size wr).drew zL)
   have HD:Hid (VecN wr.drew (.slice (if vcap=p k+1 then some ⟨vb,voff,none⟩ else some ⟨vb,voff+(p k+1) * 2,none⟩) (n - (p k+1)) (vcap - (p k+1))) (us.drop (p k+1)) nv):=by
    by_cases hvc:vcap=p k+1
    ·rw [if_pos hvc]
     have hl:(us.drop (p k+1)).length=n - (p k+1):=by rw [List.length_drop];omega
     exact⟨_,_,by rw [hl],by rw [hl];omega,fun h0=>absurd h0 (by rw [hl];omega)⟩
    ·rw [if_neg hvc]
     exact HU.out.drop0 (n:=p k+1) (m:=n - (p k+1)) (by omega)
   have HDL:Hid ((us.drop (p k+1)).length≤100):=by
    show _≤_
    rw [List.length_drop];omega
   have HAD:=hide (zgr (us:=us) (f:=p k) hul)
   have c1:=(HBE.out.cell (p:=⟨rb,roff+k,none⟩) lr).trans cu
   have HFI:=hide (zby wr.drew _ us nv HU.out (by omega))
   rw [hf1,hul] at HFI
   have hrb:rb < wr.heap.size:=zT lr HBE.out.size
   rw [hul] at c1
   clear hru cu hf1 hf2 hf3 hul HU
   generalize hpk:p k=f at *
   obtain⟨f1,hf1⟩:∃ f1:Nat,f1=f+1:=⟨_,rfl⟩
   have g1:f1≤n:=by omega
   have g2:IntKind.i64.wrap ((f:Int)+1)=(f1:Int):=by rw [IntKind.wrap_i64];omega
   rw [← hf1] at HD HAD HDL
   have HF1:=hide hf1;have HPK:=hide hpk
   clear hf1 hpk
   go_wp2_with fail
   refine zp (S:=(fun w'=>w'.cell? ⟨rb,roff+k,none⟩=some (.slice (some ⟨vb,voff,none⟩) n vcap))) (k:=13) (by kernel_rfl) (by exact c1) (fun hHeld=>?_)
   refine ze (v:=?_) 0 9 [] rfl rfl (by kernel_rfl) (by kernel_rfl) (by kernel_rfl) (by kernel_rfl) (by kernel_rfl) (fun _ _ _ h=>h) (by rfl) ?_ (by assumption) ?_
   rotate_left
   ·(intro w hSw;(try dsimp only at hSw);go_simp;with_reducible rfl)
   try simp only [zA]
   refine ze (v:=?_) 1 10 [] rfl rfl (by kernel_rfl) (by kernel_rfl) (by kernel_rfl) (by kernel_rfl) (by kernel_rfl) (fun _ _ _ h=>h) (by rfl) ?_ (by assumption) ?_
   rotate_left
   ·(intro w hSw;(try dsimp only at hSw);go_simp;with_reducible rfl)
   try simp only [zA]
   refine ze (v:=?_) 2 11 [] rfl rfl (by kernel_rfl) (by kernel_rfl) (by kernel_rfl) (by kernel_rfl) (by kernel_rfl) (fun _ _ _ h=>h) (by rfl) ?_ (by assumption) ?_
   rotate_left
   ·(intro w hSw;(try dsimp only at hSw);go_simp;with_reducible rfl)
   try simp only [zA]
   refine ze (v:=?_) 3 12 [] rfl rfl (by kernel_rfl) (by kernel_rfl) (by kernel_rfl) (by kernel_rfl) (by kernel_rfl) (fun _ _ _ h=>h) (by rfl) ?_ (by assumption) ?_
   rotate_left
   ·(intro w hSw;(try dsimp only at hSw);go_simp;with_reducible rfl)
   try simp only [zA]
   refine ze (v:=?_) 4 13 [] rfl rfl (by kernel_rfl) (by kernel_rfl) (by kernel_rfl) (by kernel_rfl) (by kernel_rfl) (fun _ _ _ h=>h) (by rfl) ?_ (by assumption) ?_
   rotate_left
   ·(intro w hSw;(try dsimp only at hSw);go_simp;with_reducible rfl)
   try simp only [zA]
   refine ze (v:=?_) 5 14 [] rfl rfl (by kernel_rfl) (by kernel_rfl) (by kernel_rfl) (by kernel_rfl) (by kernel_rfl) (fun _ _ _ h=>h) (by rfl) ?_ (by assumption) ?_
   rotate_left
   ·(intro w hSw;(try dsimp only at hSw);go_simp;with_reducible rfl)
   try simp only [zA]
   refine ze (v:=?_) 6 15 [] rfl rfl (by kernel_rfl) (by kernel_rfl) (by kernel_rfl) (by kernel_rfl) (by kernel_rfl) (fun _ _ _ h=>h) (by rfl) ?_ (by assumption) ?_
   rotate_left
   ·(intro w hSw;(try dsimp only at hSw);go_simp;with_reducible rfl)
   try simp only [zA]
   refine ze (v:=?_) 7 16 [] rfl rfl (by kernel_rfl) (by kernel_rfl) (by kernel_rfl) (by kernel_rfl) (by kernel_rfl) (fun _ _ _ h=>h) (by rfl) ?_ (by assumption) ?_
   rotate_left
   ·(intro w hSw;(try dsimp only at hSw);go_simp;with_reducible rfl)
   try simp only [zA]
   refine zf 8 (by kernel_rfl) rfl (fun K hK=>?_)
   go_simp
   refine HFI.out.mono ?_
   rintro e w1 ⟨rfl,hb1⟩
   have hb1':Below wr.heap.size wr w1:=(Below.refl _ _).drew.trans hb1
   have c2:=(hb1'.cell (p:=⟨rb,roff+k,none⟩) hrb).trans c1
   have HD1:=hide (HD.out.below hb1 zL)
   have HB1:=hide (HBE.out.trans (hb1'.mono HBE.out.size))
   clear hb1 hb1' HFI HD
   go_wp2_with fail
   refine hK.out _ _ (fun _=>c2) ?_
   clear hK K hHeld
   try simp only [zA]
   have hHeld1:(fun w'=>w'.cell? ⟨rb,roff+k,none⟩=some (.slice (some ⟨vb,voff,none⟩) n vcap)) w1:=c2
   refine ze (v:=?_) 9 18 [] rfl rfl (by kernel_rfl) (by kernel_rfl) (by kernel_rfl) (by kernel_rfl) (by kernel_rfl) (fun _ _ _ h=>h) (by rfl) ?_ (by assumption) ?_
   rotate_left
   ·(intro w hSw;(try dsimp only at hSw);go_simp;with_reducible rfl)
   try simp only [zA]
   refine ze (v:=?_) 10 19 [] rfl rfl (by kernel_rfl) (by kernel_rfl) (by kernel_rfl) (by kernel_rfl) (by kernel_rfl) (fun _ _ _ h=>h) (by rfl) ?_ (by assumption) ?_
   rotate_left
   ·(intro w hSw;(try dsimp only at hSw);go_simp;with_reducible rfl)
   try simp only [zA]
   generalize (if vcap=f1 then some (⟨vb,voff,none⟩:Addr) else some ⟨vb,voff+f1 * 2,none⟩)=ad at *
   refine zf 11 (by kernel_rfl) rfl (fun K hK=>?_)
   go_simp
   refine(zf9 w1 _ _ nv (by exact HD1.out) (by have:=HDL.out;omega)).mono ?_
   rintro e w2 ⟨rfl,hb2⟩
   have c3:=(hb2.cell (p:=⟨rb,roff+k,none⟩) (zT lr HB1.out.size)).trans c2
   have HB2:=hide (HB1.out.trans (hb2.mono HB1.out.size))
   clear hb2
   go_wp2_with fail
   refine hK.out _ _ (fun _=>c3) ?_
   clear hK K hHeld1
   try simp only [zA]
   have hHeld2:(fun w'=>w'.cell? ⟨rb,roff+k,none⟩=some (.slice (some ⟨vb,voff,none⟩) n vcap)) w2:=c3
   refine ze (v:=?_) 12 21 [] rfl rfl (by kernel_rfl) (by kernel_rfl) (by kernel_rfl) (by kernel_rfl) (by kernel_rfl) (fun _ _ _ h=>h) (by rfl) ?_ (by assumption) ?_
   rotate_left
   ·(intro w hSw;(try dsimp only at hSw);go_simp;with_reducible rfl)
   try simp only [zA]
   refine zl (by kernel_rfl) ?_
   clear c1 c2 c3 hHeld2 HB1 HD1
   generalize hbz:decide (first (us.drop f1) < 0)=bz
   cases bz with
   | true=>
    have HAL':Hid (aloneTo hs p n (k+1)):=fun i hi b h1 h2=>by
     by_cases e:i=k
     ·subst e
      rw [HE.out b]
      exact HAD.out.1 (of_decide_eq_true hbz) b (by have:=HPK.out;omega) h2
     ·exact HAL.out i (by omega) b h1 h2
    clear hbz
    go_wp2
    go_roundw
    case rel=>exact⟨k+1,by omega,by go_num,HAL',HB2⟩
    case measure=>simp [intOf];omega
   | false=>
    have HNO:Hid (¬ aloneTo hs p n hs.length):=fun h=>of_decide_eq_false hbz (HAD.out.2 fun b h1 h2=>by
     have:=h k hkl b (by have:=HPK.out;omega) h2
     rwa [HE.out b] at this)
    clear hbz
    go_wp2
    go_ret
    exact⟨false,rfl,⟨fun h=>(by cases h),fun h=>absurd h HNO.out⟩,HB2.out⟩
  ·obtain rfl:k=hs.length:=by omega
   go_wp2
   go_ret
   exact⟨true,rfl,⟨fun _=>HAL.out,fun _=>rfl⟩,HBE.out⟩
def pivL (hs:List (List Int))(p:Nat→Nat):List Int:=(List.range hs.length).map fun k=>ent hs k (p k)
theorem zcp (hs:List (List Int))(p:Nat→Nat):(pivL hs p).length=hs.length:=by simp [pivL]
theorem zbL (hs:List (List Int))(p:Nat→Nat)(k:Nat)(hk:k < hs.length):(pivL hs p).getD k 0=ent hs k (p k):=zaC _ _ k hk
theorem zje (m:Nat)(hm:m≤1000)(W:World):(Instr.makeSlice 52 (.int .i64 (m:Int)) (.int .i64 (m:Int))).run Tryz.prog W=.ok (.slice (some ⟨W.heap.size,0,none⟩) m m) (W.alloc (.cells (madeCells #[.bool false,.slice none 0 0] (m * 2)) 42)):=by
 obtain⟨i0,hi,hz0,hz1,hz2⟩:=info_parts Tryz.infoNum
 have h:=run_make (P:=Tryz.prog) W 52 42 i0 (.agg #[.bool false,.slice none 0 0]) (by kernel_rfl) hi hz0 .i64 .i64 m m (by omega) (by omega) (by rw [hz2];omega) (by omega)
 rw [hz1,Int.toNat_natCast] at h
 exact h
set_option linter.unusedSimpArgs false in
set_option maxRecDepth 100000 in
set_option maxHeartbeats 3200000 in
theorem zfy (w:World)(va:Value)(n nv:Nat)(hs:List (List Int))(p:Nat→Nat)(ha:MatN w va hs nv)(F:FormL n hs p)(hn:n≤100)(hm:hs.length≤100):
  Calls Tryz.prog 69 #[va] w fun e w'=>VecPost w (pivL hs p) nv e w':=by
 have HA:=hide ha;have HF:=hide F
 obtain⟨ao,acap,rfl,-,-⟩:=ha
 have hpl:=zcp hs p
 have hmk:=zje hs.length (by omega)
 have HI:=hide (VecO.made w w (Below.refl _ _) (pivL hs p).length nv)
 rw [hpl] at HI
 clear F
 go_enter Tryz.func69,Tryz.ntmps69
 go_wp2
 clear hmk
 go_loopw [10] (fun x wr=>∃ k:Nat,k≤hs.length∧x=.int .i64 k∧Hid (VecO w wr w.heap.size ((pivL hs p).take k ++ List.replicate ((pivL hs p).length - k) 0) nv)) (fun x _=>hs.length - (intOf x).toNat)
 case atStart=>exact⟨0,Nat.zero_le _,rfl,hide (by rw [hpl];exact HI.out)⟩
 case round=>
  clear HI
  obtain⟨k,hk,rfl,HI⟩:=hrel
  by_cases hkl:k < hs.length
  ·obtain⟨rb,roff,_,e,lr,ru,cu,hru⟩:=HA.out.at k hkl
   simp only [Value.slice.injEq,true_and] at e
   obtain⟨rfl,rfl⟩:=e
   have hul:hs[k].length=n:=HF.out.len _ (List.getElem_mem hkl)
   obtain⟨hf1,hf2,hf3⟩:=HF.out.first hkl
   have hz:(pivL hs p).getD k 0=hs[k].getD (p k) 0:=by rw [zbL hs p k hkl];unfold ent;rw [zk hkl]
   have HFS:=hide (zaZ (pivL hs p) k (by omega))
   rw [hz] at HFS
   have hfl:=zaK (pivL hs p) k (by omega)
   clear hz
   generalize hs[k]=us at *
   obtain⟨vb,voff,vcap,rfl⟩:=hru.form (by omega)
   obtain⟨lv,neg,lo,ll,lc,z0,z1,nz⟩:=hru.at (p k) (by omega)
   have hb0:=HI.out.below
   have HU:=hide ((hru.below hb0 zL).below (Below.refl wr.heap.size wr).drew zL)
   have c1:=(hb0.cell (p:=⟨rb,roff+k,none⟩) lr).trans cu
   have c2:=(hb0.cell (p:=⟨vb,voff+p k * 2,none⟩) lv).trans z0
   have c3:=(hb0.cell (p:=⟨vb,voff+p k * 2+1,none⟩) lv).trans z1
   have HNZ:=hide (nz.below hb0 zL)
   have HFI:=hide (zby wr.drew _ us nv HU.out (by omega))
   rw [hf1,hul] at HFI
   have hrb:rb < wr.heap.size:=zT lr hb0.size
   have hvb:vb < wr.heap.size:=zT lv hb0.size
   rw [hul] at c1
   have hpn:p k < n:=hf2
   clear hru cu z0 z1 nz hf1 hf2 hf3 hul HU hb0
   generalize us.getD (p k) 0=z at *
   generalize hpk:p k=f at *
   go_wp2_with fail
   refine zp (S:=(fun w'=>w'.cell? ⟨rb,roff+k,none⟩=some (.slice (some ⟨vb,voff,none⟩) n vcap)∧w'.cell? ⟨vb,voff+f * 2,none⟩=some (.bool neg)∧w'.cell? ⟨vb,voff+f * 2+1,none⟩=some (.slice lo ll lc))) (k:=14) (by kernel_rfl) (by exact⟨c1,c2,c3⟩) (fun hHeld=>?_)
   refine ze (v:=?_) 0 13 [14] rfl rfl (by kernel_rfl) (by kernel_rfl) (by kernel_rfl) (by kernel_rfl) (by kernel_rfl) (fun _ _ _ h=>h) (by rfl) ?_ (by assumption) ?_
   rotate_left
   ·(intro w hSw;(try dsimp only at hSw);obtain⟨hS1,hS2,hS3⟩:=hSw;go_simp;with_reducible rfl)
   try simp only [zA]
   refine ze (v:=?_) 1 14 [14] rfl rfl (by kernel_rfl) (by kernel_rfl) (by kernel_rfl) (by kernel_rfl) (by kernel_rfl) (fun _ _ _ h=>h) (by rfl) ?_ (by assumption) ?_
   rotate_left
   ·(intro w hSw;(try dsimp only at hSw);obtain⟨hS1,hS2,hS3⟩:=hSw;go_simp;with_reducible rfl)
   try simp only [zA]
   refine ze (v:=?_) 2 15 [14] rfl rfl (by kernel_rfl) (by kernel_rfl) (by kernel_rfl) (by kernel_rfl) (by kernel_rfl) (fun _ _ _ h=>h) (by rfl) ?_ (by assumption) ?_
   rotate_left
   ·(intro w hSw;(try dsimp only at hSw);obtain⟨hS1,hS2,hS3⟩:=hSw;go_simp;with_reducible rfl)
   try simp only [zA]
   refine ze (v:=?_) 3 16 [14] rfl rfl (by kernel_rfl) (by kernel_rfl) (by kernel_rfl) (by kernel_rfl) (by kernel_rfl) (fun _ _ _ h=>h) (by rfl) ?_ (by assumption) ?_
   rotate_left
   ·(intro w hSw;(try dsimp only at hSw);obtain⟨hS1,hS2,hS3⟩:=hSw;go_simp;with_reducible rfl)
   try simp only [zA]
   refine ze (v:=?_) 4 17 [14] rfl rfl (by kernel_rfl) (by kernel_rfl) (by kernel_rfl) (by kernel_rfl) (by kernel_rfl) (fun _ _ _ h=>h) (by rfl) ?_ (by assumption) ?_
   rotate_left
   ·(intro w hSw;(try dsimp only at hSw);obtain⟨hS1,hS2,hS3⟩:=hSw;go_simp;with_reducible rfl)
   try simp only [zA]
   refine ze (v:=?_) 5 18 [14] rfl rfl (by kernel_rfl) (by kernel_rfl) (by kernel_rfl) (by kernel_rfl) (by kernel_rfl) (fun _ _ _ h=>h) (by rfl) ?_ (by assumption) ?_
   rotate_left
   ·(intro w hSw;(try dsimp only at hSw);obtain⟨hS1,hS2,hS3⟩:=hSw;go_simp;with_reducible rfl)
   try simp only [zA]
   refine ze (v:=?_) 6 19 [14] rfl rfl (by kernel_rfl) (by kernel_rfl) (by kernel_rfl) (by kernel_rfl) (by kernel_rfl) (fun _ _ _ h=>h) (by rfl) ?_ (by assumption) ?_
   rotate_left
   ·(intro w hSw;(try dsimp only at hSw);obtain⟨hS1,hS2,hS3⟩:=hSw;go_simp;with_reducible rfl)
   try simp only [zA]
   refine ze (v:=?_) 7 20 [14] rfl rfl (by kernel_rfl) (by kernel_rfl) (by kernel_rfl) (by kernel_rfl) (by kernel_rfl) (fun _ _ _ h=>h) (by rfl) ?_ (by assumption) ?_
   rotate_left
   ·(intro w hSw;(try dsimp only at hSw);obtain⟨hS1,hS2,hS3⟩:=hSw;go_simp;with_reducible rfl)
   try simp only [zA]
   refine ze (v:=?_) 8 21 [14] rfl rfl (by kernel_rfl) (by kernel_rfl) (by kernel_rfl) (by kernel_rfl) (by kernel_rfl) (fun _ _ _ h=>h) (by rfl) ?_ (by assumption) ?_
   rotate_left
   ·(intro w hSw;(try dsimp only at hSw);obtain⟨hS1,hS2,hS3⟩:=hSw;go_simp;with_reducible rfl)
   try simp only [zA]
   refine ze (v:=?_) 9 22 [14] rfl rfl (by kernel_rfl) (by kernel_rfl) (by kernel_rfl) (by kernel_rfl) (by kernel_rfl) (fun _ _ _ h=>h) (by rfl) ?_ (by assumption) ?_
   rotate_left
   ·(intro w hSw;(try dsimp only at hSw);obtain⟨hS1,hS2,hS3⟩:=hSw;go_simp;with_reducible rfl)
   try simp only [zA]
   refine zf 10 (by kernel_rfl) rfl (fun K hK=>?_)
   go_simp
   refine HFI.out.mono ?_
   rintro e w1 ⟨rfl,hb1⟩
   have hb1':Below wr.heap.size wr w1:=(Below.refl _ _).drew.trans hb1
   have d1:=(hb1'.cell (p:=⟨rb,roff+k,none⟩) hrb).trans c1
   have d2:=(hb1'.cell (p:=⟨vb,voff+f * 2,none⟩) hvb).trans c2
   have d3:=(hb1'.cell (p:=⟨vb,voff+f * 2+1,none⟩) hvb).trans c3
   have HI2:=hide (HI.out.later hb1')
   have HN1:=hide (HNZ.out.below hb1' zL)
   clear hb1 hb1' HFI HI HNZ
   go_wp2_with fail
   refine hK.out _ _ (fun _=>⟨d1,d2,d3⟩) ?_
   clear hK K hHeld
   try simp only [zA]
   have hHeld1:(fun w'=>w'.cell? ⟨rb,roff+k,none⟩=some (.slice (some ⟨vb,voff,none⟩) n vcap)∧w'.cell? ⟨vb,voff+f * 2,none⟩=some (.bool neg)∧w'.cell? ⟨vb,voff+f * 2+1,none⟩=some (.slice lo ll lc)) w1:=⟨d1,d2,d3⟩
   refine ze (v:=?_) 11 24 [14] rfl rfl (by kernel_rfl) (by kernel_rfl) (by kernel_rfl) (by kernel_rfl) (by kernel_rfl) (fun _ _ _ h=>h) (by rfl) ?_ (by assumption) ?_
   rotate_left
   ·(intro w hSw;(try dsimp only at hSw);obtain⟨hS1,hS2,hS3⟩:=hSw;go_simp;with_reducible rfl)
   try simp only [zA]
   refine ze (v:=?_) 12 25 [14] rfl rfl (by kernel_rfl) (by kernel_rfl) (by kernel_rfl) (by kernel_rfl) (by kernel_rfl) (fun _ _ _ h=>h) (by rfl) ?_ (by assumption) ?_
   rotate_left
   ·(intro w hSw;(try dsimp only at hSw);obtain⟨hS1,hS2,hS3⟩:=hSw;go_simp;with_reducible rfl)
   try simp only [zA]
   refine ze (v:=?_) 13 26 [14] rfl rfl (by kernel_rfl) (by kernel_rfl) (by kernel_rfl) (by kernel_rfl) (by kernel_rfl) (fun _ _ _ h=>h) (by rfl) ?_ (by assumption) ?_
   rotate_left
   ·(intro w hSw;(try dsimp only at hSw);obtain⟨hS1,hS2,hS3⟩:=hSw;go_simp;with_reducible rfl)
   try simp only [zA]
   obtain⟨neg0,o0,l0,c0',k0,k1,-⟩:=HI2.out.at k (by omega)
   have f0:=HI2.out.thaw (k * 2)
   have f1:=HI2.out.thaw (k * 2+1)
   have hP:=HI2.out.lt
   have HN:=hide (HI2.out.set (k:=k) (by omega) HN1.out)
   rw [HFS.out] at HN
   refine zf 14 (by kernel_rfl) rfl (fun K hK=>?_)
   go_simp
   refine hK.out _ _ (fun h=>absurd h (by decide)) ?_
   clear hK K
   try simp only [zA]
   refine zl (by kernel_rfl) ?_
   clear c1 c2 c3 d1 d2 d3 k0 k1 f0 f1 hHeld1 HI2 HN1 HFS
   go_wp2
   go_roundw
   case rel=>exact⟨k+1,by omega,by go_num,HN⟩
   case measure=>simp [intOf];omega
  ·obtain rfl:k=hs.length:=by omega
   rw [← hpl] at HI
   have HFF:=hide HI.out.full
   rw [hpl] at HI
   clear HI
   go_wp2
   go_ret
   exact⟨_,by rw [hpl];rfl,HFF.out⟩
end Go.Proofs.YtnkcjkpkphjecaaGreatDoor
