import Derived.Test.YtdedolkgcdlmeaaGreatDoorKerT
import Derived.Deep.LoopGhost
namespace Go.Proofs.YtdedolkgcdlmeaaGreatDoor
open Go.RowKit Limbs
theorem zaU:∀(n:Nat) (M:Nat→Nat→Int) (c:Nat),c < n→(∀ a,a < n→M a c=0)→det n M=0
 | 0,_,c,hc,_=>absurd hc (Nat.not_lt_zero c)
 | n+1,M,c,hc,h=>by
  rw [det]
  refine(zg (g:=fun _=>0) fun j hj=>?_).trans (zX _)
  by_cases e:j=c
  ·rw [e,h n (by omega),Int.mul_zero,Int.zero_mul]
  ·have:det n (fun a b=>M a (sk j b))=0:=by
    by_cases hlt:c < j
    ·exact zaU n _ c (by omega) fun a ha=>by
      show M a (sk j c)=0
      rw [zR hlt];exact h a (by omega)
    ·refine zaU n _ (c - 1) (by omega) fun a ha=>?_
     show M a (sk j (c - 1))=0
     rw [zav (by omega),show c - 1+1=c by omega]
     exact h a (by omega)
   rw [this,Int.mul_zero]
theorem zid (n:Nat)(M:Nat→Nat→Int)(h:∀ a b,a < n→b < n→a < b→M a b=0):det n M=prodN n (fun i=>M i i):=by
 induction n with
 | zero=>rfl
 | succ n ih=>
  rw [det,zF (n+1) n (by omega) _ fun j hj hne=>by
   have:det n (fun a b=>M a (sk j b))=0:=by
    refine zaU n _ (n - 1) (by omega) fun a ha=>?_
    show M a (sk j (n - 1))=0
    rw [zav (by omega),show n - 1+1=n by omega]
    exact h a n (by omega) (by omega) (by omega)
   rw [this,Int.mul_zero]]
  have e:det n (fun a b=>M a (sk n b))=det n M:=zm fun a b _ hb=>by rw [zR hb]
  rw [e,ih fun a b ha hb hab=>h a b (by omega) (by omega) hab]
  have:sgnN (n+n)=1:=by unfold sgnN;rw [if_pos (by omega)]
  rw [this,Int.one_mul,prodN,Int.mul_comm]
structure Sq (r:Nat)(H:List (List Int)):Prop where
 form:FormL r H (fun k=>k)
 len:H.length=r
theorem zbB {r:Nat}{H:List (List Int)}{p:Nat→Nat}(F:FormL r H p)(hl:H.length=r):Sq r H:=by
 have h2:∀ d k,k+d < r→p k+d≤p (k+d):=fun d=>by
  induction d with
  | zero=>exact fun k _=>Nat.le_refl _
  | succ d ih=>intro k hk;have:=ih k (by omega);have:=F.form.inc (k+d) (k+(d+1)) (by omega) (by omega);omega
 have hp:∀ k,k < r→p k=k:=fun k hk=>by
  have h3:=h2 (r - 1 - k) k (by omega)
  have h4:=F.form.lt (k+(r - 1 - k)) (by omega)
  have h5:=h2 k 0 (by omega)
  rw [Nat.zero_add] at h5
  omega
 refine⟨⟨F.len,?_⟩,hl⟩
 refine⟨fun i k h _=>h,fun i h=>by omega,fun i b hi hb=>F.form.zero i b hi (by rw [hp i (by omega)];exact hb),fun i hi=>?_,fun i k hik hk=>?_⟩
 ·have:=F.form.pos i hi;rwa [hp i (by omega)] at this
 ·have:=F.form.red i k hik hk;rwa [hp k (by omega)] at this
theorem zkZ {r:Nat}{H:List (List Int)}{p:Nat→Nat}(F:FormL r H p)(hl:H.length=r):∀ k,k < r→p k=k:=fun k hk=>by
 have h2:∀ d k,k+d < r→p k+d≤p (k+d):=fun d=>by
  induction d with
  | zero=>exact fun k _=>Nat.le_refl _
  | succ d ih=>intro k hk;have:=ih k (by omega);have:=F.form.inc (k+d) (k+(d+1)) (by omega) (by omega);omega
 have h3:=h2 (r - 1 - k) k (by omega)
 have h4:=F.form.lt (k+(r - 1 - k)) (by omega)
 have h5:=h2 k 0 (by omega)
 rw [Nat.zero_add] at h5
 omega
theorem zh4 {n:Nat}{hs fs:List (List Int)}{p:Nat→Nat}(G:FormL n hs p)(a:Alikes hs.length (InL fs) (InL (colsL hs n)))(hle:fs.length≤hs.length):fs.length=hs.length:=by
 obtain⟨C,hC⟩:=zJ (r:=hs.length) (n:=hs.length) (mm:=fs.length) (H:=fun i b=>ent hs b (p (hs.length - 1 - i))) (M:=ent fs) fun i hi=>by
  have hj:p (hs.length - 1 - i) < n:=G.form.lt _ (by omega)
  have hm:(colsL hs n).getD (p (hs.length - 1 - i)) []∈colsL hs n:=zr (by rw [zQ];exact hj)
  obtain⟨d,hd⟩:=zx ((a _).2 (.base hm (zaS hs n _ hm)))
  refine⟨d,fun b hb=>?_⟩
  have e1:=hd b hb
  dsimp only at e1
  rw [zaR hs n _ hj,zbs _ _ _ hb] at e1
  exact e1
 have:=zbx hs.length fs.length hs.length (fun i b=>ent hs b (p (hs.length - 1 - i))) (ent fs) C (fun k=>hs.length - 1 - k) (fun k hk=>by omega)
  (fun i k hi hki=>G.form.zero (hs.length - 1 - k) (p (hs.length - 1 - i)) (by omega) (G.form.inc _ _ (by omega) (by omega)))
  (fun i hi=>G.form.pos (hs.length - 1 - i) (by omega)) hC
 omega
section
variable {r:Nat}{H H':List (List Int)}
theorem Sq.low (S:Sq r H){k b:Nat}(hk:k < r)(hb:b < k):ent H k b=0:=S.form.form.zero k b (by rw [S.len];exact hk) hb
theorem Sq.pos (S:Sq r H){k:Nat}(hk:k < r):0 < ent H k k:=S.form.form.pos k (by rw [S.len];exact hk)
theorem Sq.red (S:Sq r H){i k:Nat}(hik:i < k)(hk:k < r):0≤ent H i k∧ent H i k < ent H k k:=S.form.form.red i k hik (by rw [S.len];exact hk)
def diag (r:Nat)(H:List (List Int)):Int:=prodN r (fun k=>ent H k k)
theorem Sq.one_le (S:Sq r H):1≤diag r H:=zaE r _ fun _ hk=>S.pos hk
theorem Sq.diag_le (S:Sq r H){k:Nat}(hk:k < r):ent H k k≤diag r H:=zcL r (fun k=>ent H k k) (fun _ hk=>S.pos hk) k hk
theorem Sq.ent_le (S:Sq r H){k b:Nat}(hk:k < r)(hb:b < r):0≤ent H k b∧ent H k b≤diag r H:=by
 rcases Nat.lt_trichotomy k b with h | h | h
 ·have h1:=S.red h hb;have h2:=S.diag_le hb;omega
 ·subst h;have h1:=S.pos hk;have h2:=S.diag_le hk;omega
 ·have h1:=S.low hk h;have h2:=S.one_le;omega
theorem zar (S:Sq r H){j b:Nat}(hj:j < r)(hb:b < r):ent (colsL H r) j b=ent H b j:=by
 show((colsL H r).getD j []).getD b 0=_
 rw [zaR H r j hj,zbs _ _ _ (by rw [S.len];exact hb)]
 rfl
theorem zdd (S:Sq r H){j:Nat}(hj:j < r):Gens r (InL (colsL H r)) ((colsL H r).getD j []):=by
 have hm:(colsL H r).getD j []∈colsL H r:=zr (by rw [zQ];exact hj)
 exact .base hm (by rw [zaS H r _ hm,S.len])
theorem Sq.step (S:Sq r H){p:Nat→Nat}(F:FormL r H' p)(a:Alikes r (InL H') (InL (colsL H r))):Sq r H'∧diag r H'=diag r H:=by
 have h1:=zfd F a
 rw [zQ] at h1
 have hl:H'.length=r:=by
  obtain⟨C,hC⟩:=zJ (r:=r) (n:=r) (mm:=H'.length) (H:=fun i b=>ent (colsL H r) (r - 1 - i) b) (M:=ent H') fun i hi=>zx ((a _).2 (zdd S (j:=r - 1 - i) (by omega)))
  have:=zbx r H'.length r (fun i b=>ent (colsL H r) (r - 1 - i) b) (ent H') C (fun k=>r - 1 - k) (fun k hk=>by omega)
   (fun i k hi hki=>by
    show ent (colsL H r) (r - 1 - i) (r - 1 - k)=0
    rw [zar S (by omega) (by omega)]
    exact S.low (by omega) (by omega))
   (fun i hi=>by
    show 1≤ent (colsL H r) (r - 1 - i) (r - 1 - i)
    rw [zar S (by omega) (by omega)]
    exact S.pos (by omega)) hC
  omega
 have S':=zbB F hl
 refine⟨S',?_⟩
 obtain⟨C,hC⟩:=zJ (r:=r) (n:=r) (mm:=r) (H:=ent H') (M:=ent (colsL H r)) fun k hk=>by
  have hm:H'.getD k []∈H':=zr (by omega)
  have g:=zx ((a _).1 (.base hm (F.len _ hm)))
  rw [zQ] at g
  exact g
 obtain⟨T,hT⟩:=zJ (r:=r) (n:=r) (mm:=r) (H:=ent (colsL H r)) (M:=ent H') fun k hk=>by
  have g:=zx ((a _).2 (zdd S hk))
  rw [hl] at g
  exact g
 have d1:det r (ent H')=diag r H':=zaB r _ fun i b hi hb=>S'.low hi hb
 have d2:det r (ent (colsL H r))=diag r H:=by
  rw [zid r _ fun i b hi hb hib=>by rw [zar S hi hb];exact S.low hb hib]
  unfold diag
  have:∀ m,m≤r→prodN m (fun i=>ent (colsL H r) i i)=prodN m (fun k=>ent H k k):=fun m=>by
   induction m with
   | zero=>exact fun _=>rfl
   | succ m ih=>intro hm;rw [prodN,prodN,ih (by omega),zar S (by omega) (by omega)]
  exact this r zL
 have e1:diag r H'=det r C * diag r H:=by
  rw [← d1,← d2,← zaA]
  exact zm fun x y hx hy=>hC x y hx hy
 have e2:diag r H=det r T * diag r H':=by
  rw [← d1,← d2,← zaA]
  exact zm fun x y hx hy=>hT x y hx hy
 have o1:=S.one_le;have o2:=S'.one_le
 have up:∀ {x y c:Int},1≤x→1≤y→x=c * y→y≤x:=fun {x y c} hx hy h=>by
  rcases Int.lt_or_le 0 c with hc | hc
  ·have:=Int.mul_le_mul_of_nonneg_right (show 1≤c by omega) (show 0≤y by omega)
   omega
  ·have:=Int.mul_le_mul_of_nonneg_right hc (show 0≤y by omega)
   omega
 have:=up o2 o1 e1
 have:=up o1 o2 e2
 omega
theorem Sq.bound (S:Sq r H){ms:List (List Int)}(a:Alikes r (InL H) (InL ms))(hl:∀ us∈ms,us.length=r){B:Int}(hB:0≤B)(hb:∀ us∈ms,∀ j,j < r→absI (us.getD j 0)≤B):diag r H≤facP r B:=by
 obtain⟨C,hC⟩:=zJ (r:=r) (n:=r) (mm:=ms.length) (H:=ent H) (M:=ent ms) fun k hk=>by
  have hm:H.getD k []∈H:=zr (by rw [S.len];exact hk)
  exact zx ((a _).1 (.base hm (S.form.len _ hm)))
 obtain⟨T,hT⟩:=zJ (r:=ms.length) (n:=r) (mm:=r) (H:=ent ms) (M:=ent H) fun k hk=>by
  have hm:ms.getD k []∈ms:=zr hk
  have g:=zx ((a _).2 (.base hm (hl _ hm)))
  rw [S.len] at g
  exact g
 have d1:det r (ent H)=diag r H:=zaB r _ fun i b hi hb=>S.low hi hb
 have o1:=S.one_le
 obtain⟨φ,hφ,hne⟩:=zc8 r ms.length (ent H) (ent ms) C (fun a b ha hb=>hC a b ha hb) (by rw [d1];omega) r zL
 have hne':det r (fun a b=>ent ms (φ a) b)≠0:=by
  intro h
  apply hne
  have e:det r (fun a b=>if a < r then ent ms (φ a) b else ent H a b)=det r (fun a b=>ent ms (φ a) b):=zm fun a b ha _=>if_pos ha
  exact e.trans h
 have hmul:det r (fun a b=>ent ms (φ a) b)=det r (fun a k=>T (φ a) k) * det r (ent H):=by
  rw [← zaA]
  exact zm fun a b ha hb=>hT (φ a) b (hφ a ha) hb
 have h1:=zeV (n:=r) (fun a b=>ent ms (φ a) b) B hB fun a b ha hb'=>hb _ (zr (hφ a ha)) b hb'
 rw [hmul,zaj,d1] at h1
 have hT0:det r (fun a k=>T (φ a) k)≠0:=fun h=>hne' (by rw [hmul,h,Int.zero_mul])
 have h2:1≤absI (det r (fun a k=>T (φ a) k)):=by
  have:=zak (det r (fun a k=>T (φ a) k))
  have h3:absI (det r (fun a k=>T (φ a) k))≠0:=fun h=>hT0 (zcU.1 h)
  omega
 rw [zad (show 0≤diag r H by omega)] at h1
 have h3:=Int.mul_le_mul_of_nonneg_right h2 (show 0≤diag r H by omega)
 omega
def rowAl (r:Nat)(H:List (List Int))(k:Nat):Prop:=∀ b,k < b→b < r→ent H k b=0
theorem zd3 (n k b:Nat)(hkb:k < b)(hb:b < n)(f:Nat→Int)(h:∀ i,i < n→i≠k→i≠b→f i=0):sumN n f=f k+f b:=by
 have e:sumN n f=sumN n (fun j=>(if j=k then f k else 0)+(if j=b then f b else 0)):=zg fun j hj=>by
  by_cases h1:j=k
  ·rw [if_pos h1,if_neg (by omega),h1,Int.add_zero]
  ·by_cases h2:j=b
   ·rw [if_neg h1,if_pos h2,h2,Int.zero_add]
   ·rw [if_neg h1,if_neg h2,h j hj h1 h2];rfl
 rw [e,zai,zF n k (by omega) _ (fun i _ hi=>if_neg hi),zF n b hb _ (fun i _ hi=>if_neg hi),if_pos rfl,if_pos rfl]
theorem Sq.unit_row (S:Sq r H){v:List Int}(hv:Gens r (InL H) v){k:Nat}(hk:k < r){e:Int}(he:∀ b,b < r→v.getD b 0=if b=k then e else 0):
  (∃ t,e=t * ent H k k)∧(e=ent H k k→rowAl r H k):=by
 obtain⟨d,hd⟩:=zx hv
 rw [S.len] at hd
 have hd':∀ b,b < r→(if b=k then e else 0)=sumN r (fun j=>d j * ent H j b):=fun b hb=>(he b hb).symm.trans (hd b hb)
 have hpiv:∀ j,j < r→(∀ i,i < j→d i=0)→sumN r (fun i=>d i * ent H i j)=d j * ent H j j:=fun j hj h0=>by
  refine zF r j hj _ fun i hi hij=>?_
  rcases Nat.lt_or_gt_of_ne hij with h | h
  ·rw [h0 i h,Int.zero_mul]
  ·rw [S.low hi h,Int.mul_zero]
 have hz:∀ j,j < k→d j=0:=fun j=>by
  induction j using Nat.strongRecOn with
  | _ j ih=>
   intro hj
   have h1:=hd' j (by omega)
   rw [if_neg (by omega),hpiv j (by omega) fun i hi=>ih i hi (by omega)] at h1
   have hp:=S.pos (k:=j) (by omega)
   rcases Int.mul_eq_zero.1 h1.symm with h | h
   ·exact h
   ·omega
 have hke:=hd' k hk
 rw [if_pos rfl,hpiv k hk hz] at hke
 refine⟨⟨d k,hke⟩,fun hee=>?_⟩
 have hd1:d k=1:=by
  have hp:=S.pos hk
  rw [hee] at hke
  have:(d k - 1) * ent H k k=0:=by rw [Int.sub_mul];omega
  rcases Int.mul_eq_zero.1 this with h | h <;> omega
 have key:∀ b,k < b→b < r→d b=0∧ent H k b=0:=fun b=>by
  induction b using Nat.strongRecOn with
  | _ b ih=>
   intro hkb hb
   have h1:=hd' b hb
   rw [if_neg (by omega),zd3 r k b hkb hb _ fun i hi h2 h3=>by
    rcases Nat.lt_trichotomy i k with h | h | h
    ·rw [hz i h,Int.zero_mul]
    ·exact absurd h h2
    ·rcases Nat.lt_or_gt_of_ne h3 with h4 | h4
     ·rw [(ih i h4 h hi).1,Int.zero_mul]
     ·rw [S.low hi h4,Int.mul_zero],hd1,Int.one_mul] at h1
   have hr:=S.red hkb hb
   have hp:=S.pos hb
   have h0:d b=0:=by
    rcases Int.lt_trichotomy (d b) 0 with h | h | h
    ·have:=Int.mul_le_mul_of_nonneg_right (show d b≤-1 by omega) (show 0≤ent H b b by omega)
     omega
    ·exact h
    ·have:=Int.mul_le_mul_of_nonneg_right (show 1≤d b by omega) (show 0≤ent H b b by omega)
     omega
   rw [h0,Int.zero_mul] at h1
   exact⟨h0,by omega⟩
 exact fun b h1 h2=>(key b h1 h2).2
theorem Sq.first (S:Sq r H)(S':Sq r H')(a:Alikes r (InL H') (InL (colsL H r))){k0:Nat}(hk0:k0 < r)(hal:∀ k,k < k0→rowAl r H k):
  (∀ k,k < k0→ent H' k k=ent H k k∧rowAl r H' k)∧ent H' k0 k0≤ent H k0 k0∧(ent H' k0 k0=ent H k0 k0→rowAl r H' k0):=by
 have hcol:∀ k,k≤k0→∀ b,b < r→((colsL H r).getD k []).getD b 0=if b=k then ent H k k else 0:=fun k hk b hb=>by
  have e:((colsL H r).getD k []).getD b 0=ent H b k:=zar S (by omega) hb
  rw [e]
  rcases Nat.lt_trichotomy b k with h | h | h
  ·rw [if_neg (by omega)];exact hal b (by omega) k h (by omega)
  ·rw [if_pos h,h]
  ·rw [if_neg (by omega)];exact S.low hb h
 have hu:=fun k (hk:k≤k0)=>S'.unit_row ((a _).2 (zdd S (j:=k) (by omega))) (by omega) (hcol k hk)
 have hdv:∀ {x y t:Int},0 < x→0 < y→x=t * y→y≤x:=fun {x y t} hx hy h=>by
  rcases Int.lt_or_le 0 t with hc | hc
  ·have:=Int.mul_le_mul_of_nonneg_right (show 1≤t by omega) (show 0≤y by omega)
   omega
  ·have:=Int.mul_le_mul_of_nonneg_right hc (show 0≤y by omega)
   omega
 refine⟨fun k hk=>?_,?_,fun h=>(hu k0 zL).2 h.symm⟩
 ·obtain⟨⟨t,ht⟩,h2⟩:=hu k (by omega)
  have hp:=S.pos (k:=k) (by omega)
  have hp':=S'.pos (k:=k) (by omega)
  have g1:=hdv hp hp' ht
  have hm:H'.getD k []∈H':=zr (by rw [S'.len];omega)
  obtain⟨c,hc⟩:=zx ((a _).1 (.base hm (S'.form.len _ hm)))
  have hck:=hc k (by omega)
  rw [zQ] at hck
  have e1:sumN r (fun j=>c j *((colsL H r).getD j []).getD k 0)=c k * ent H k k:=by
   refine(zF r k (by omega) _ fun j hj hjk=>?_).trans ?_
   ·have e:((colsL H r).getD j []).getD k 0=ent H k j:=zar S hj (by omega)
    rw [e]
    rcases Nat.lt_or_gt_of_ne hjk with h | h
    ·rw [S.low (by omega) h,Int.mul_zero]
    ·rw [hal k hk j h hj,Int.mul_zero]
   ·have e:((colsL H r).getD k []).getD k 0=ent H k k:=zar S (by omega) (by omega)
    rw [e]
  have g2:=hdv hp' hp (show ent H' k k=c k * ent H k k from hck.trans e1)
  have e3:ent H' k k=ent H k k:=by omega
  exact⟨e3,h2 e3.symm⟩
 ·obtain⟨⟨t,ht⟩,-⟩:=hu k0 zL
  exact hdv (S.pos hk0) (S'.pos hk0) ht
end
def horn (W:Nat)(f:Nat→Nat):Nat→Nat
 | 0=>0
 | n+1=>horn W f n * W+f n
theorem zje {W:Nat}{f g:Nat→Nat}(n:Nat)(h:∀ i,i < n→f i=g i):horn W f n=horn W g n:=by
 induction n with
 | zero=>rfl
 | succ n ih=>rw [horn,horn,ih fun i hi=>h i (by omega),h n (by omega)]
theorem zjf {W:Nat}{f g:Nat→Nat}{k:Nat}(hk:f k < g k)(he:∀ i,i < k→f i=g i)(n:Nat)(hn:k < n)(hf:∀ i,i < n→f i < W):horn W f n < horn W g n:=by
 induction n with
 | zero=>omega
 | succ n ih=>
  rw [horn,horn]
  by_cases e:k=n
  ·subst e
   rw [zje k he]
   omega
  ·have h1:=ih (by omega) fun i hi=>hf i (by omega)
   have h2:=hf n (by omega)
   have h3:(horn W f n+1) * W≤horn W g n * W:=Nat.mul_le_mul_right _ h1
   rw [Nat.succ_mul] at h3
   omega
theorem zjg {W:Nat}{f:Nat→Nat}(n:Nat)(hf:∀ i,i < n→f i < W):horn W f n < W ^ n:=by
 induction n with
 | zero=>exact Nat.zero_lt_one
 | succ n ih=>
  have h1:=ih fun i hi=>hf i (by omega)
  have h2:=hf n (by omega)
  have h3:(horn W f n+1) * W≤W ^ n * W:=Nat.mul_le_mul_right _ h1
  rw [Nat.succ_mul] at h3
  rw [horn,Nat.pow_succ]
  omega
open Classical in
noncomputable def codeK (r:Nat) (H:List (List Int)) (k:Nat):Nat:=2 *(ent H k k).toNat+if rowAl r H k then 0 else 1
noncomputable def muS (W r:Nat) (H:List (List Int)):Nat:=horn W (codeK r H) r
theorem zeP {r W:Nat}{H:List (List Int)}(S:Sq r H)(hW:2 *(diag r H).toNat+1 < W):∀ i,i < r→codeK r H i < W:=fun i hi=>by
 have h1:=S.diag_le hi;have h2:=S.pos hi
 unfold codeK
 split <;> omega
theorem zjQ {r W:Nat}{H H':List (List Int)}(S:Sq r H)(S':Sq r H')(hd:diag r H'=diag r H)(a:Alikes r (InL H') (InL (colsL H r)))(hW:2 *(diag r H).toNat+1 < W)(hno:¬ ∀ k,k < r→rowAl r H k):muS W r H' < muS W r H:=by
 obtain⟨k0,⟨hk0,hn0⟩,hle⟩:=exists_least (p:=fun k=>k < r∧¬ rowAl r H k) (Classical.byContradiction fun h=>hno fun k hk=>Classical.byContradiction fun h'=>h ⟨k,hk,h'⟩)
 have hal:∀ k,k < k0→rowAl r H k:=fun k hk=>Classical.byContradiction fun h=>by
  have:=hle k ⟨by omega,h⟩
  omega
 obtain⟨h1,h2,h3⟩:=S.first S' a hk0 hal
 refine zjf (k:=k0) ?_ (fun i hi=>?_) r hk0 (zeP S' (by rw [hd];exact hW))
 ·unfold codeK
  rw [if_neg hn0]
  have hp:=S.pos hk0;have hp':=S'.pos hk0
  by_cases e:ent H' k0 k0=ent H k0 k0
  ·rw [if_pos (h3 e),e];omega
  ·split <;> omega
 ·obtain⟨e1,e2⟩:=h1 i hi
  unfold codeK
  rw [e1,if_pos e2,if_pos (hal i hi)]
def EqM (r:Nat)(A B:Nat→Nat→Int):Prop:=∀ i j,i < r→j < r→A i j=B i j
def scM (e:Int):Nat→Nat→Int:=fun i j=>if i=j then e else 0
def trM (A:Nat→Nat→Int):Nat→Nat→Int:=fun i j=>A j i
section
variable {r:Nat}{A A' B B' C T U U' V V':Nat→Nat→Int}{e:Int}
theorem EqM.refl (A:Nat→Nat→Int):EqM r A A:=fun _ _ _ _=>rfl
theorem EqM.symm (h:EqM r A B):EqM r B A:=fun i j hi hj=>(h i j hi hj).symm
theorem EqM.trans (h:EqM r A B)(k:EqM r B C):EqM r A C:=fun i j hi hj=>(h i j hi hj).trans (k i j hi hj)
theorem EqM.mul (h:EqM r A A')(k:EqM r B B'):EqM r (mulM r A B) (mulM r A' B'):=fun i j hi hj=>zg fun q hq=>by rw [h i q hi hq,k q j hq hj]
theorem EqM.tr (h:EqM r A B):EqM r (trM A) (trM B):=fun i j hi hj=>h j i hj hi
theorem zao (r:Nat)(A B C:Nat→Nat→Int):mulM r (mulM r A B) C=mulM r A (mulM r B C):=by
 funext i j
 show sumN r (fun k=>sumN r (fun l=>A i l * B l k) * C k j)=sumN r (fun l=>A i l * sumN r (fun k=>B l k * C k j))
 have e1:sumN r (fun k=>sumN r (fun l=>A i l * B l k) * C k j)=sumN r (fun k=>sumN r (fun l=>A i l *(B l k * C k j))):=zg fun k _=>by
  rw [Int.mul_comm,← zC]
  exact zg fun l _=>by rw [Int.mul_comm,Int.mul_assoc]
 rw [e1,zaG]
 exact zg fun l _=>by rw [zC]
theorem zjV (r:Nat)(A:Nat→Nat→Int)(e:Int):EqM r (mulM r A (scM e)) (fun i j=>A i j * e):=fun i j hi hj=>by
 show sumN r (fun k=>A i k * scM e k j)=_
 rw [zF r j hj _ fun k hk hne=>by rw [scM,if_neg hne,Int.mul_zero],scM,if_pos rfl]
theorem zgw (r:Nat)(A:Nat→Nat→Int)(e:Int):EqM r (mulM r (scM e) A) (fun i j=>A i j * e):=fun i j hi hj=>by
 show sumN r (fun k=>scM e i k * A k j)=_
 rw [zF r i hi _ fun k hk hne=>by rw [scM,if_neg (Ne.symm hne),Int.zero_mul],scM,if_pos rfl,Int.mul_comm]
theorem zcD (r:Nat)(A:Nat→Nat→Int):EqM r (mulM r A (scM 1)) A:=(zjV r A 1).trans fun _ _ _ _=>Int.mul_one _
theorem zbv (r:Nat)(A:Nat→Nat→Int):EqM r (mulM r (scM 1) A) A:=(zgw r A 1).trans fun _ _ _ _=>Int.mul_one _
theorem zcg (r:Nat)(A B:Nat→Nat→Int):trM (mulM r A B)=mulM r (trM B) (trM A):=by
 funext i j
 exact zg fun k _=>Int.mul_comm _ _
theorem zd6 (e:Int):trM (scM e)=scM e:=by
 funext i j
 show(if j=i then e else 0)=if i=j then e else 0
 by_cases h:i=j
 ·rw [if_pos h,if_pos h.symm]
 ·rw [if_neg h,if_neg (Ne.symm h)]
def InvM (r:Nat)(U U':Nat→Nat→Int):Prop:=EqM r (mulM r U U') (scM 1)∧EqM r (mulM r U' U) (scM 1)
theorem InvM.one (r:Nat):InvM r (scM 1) (scM 1):=⟨zcD r _,zcD r _⟩
theorem InvM.symm (h:InvM r U U'):InvM r U' U:=⟨h.2,h.1⟩
theorem InvM.tr (h:InvM r U U'):InvM r (trM U) (trM U'):=by
 refine⟨?_,?_⟩
 ·rw [← zcg,← zd6];exact h.2.tr
 ·rw [← zcg,← zd6];exact h.1.tr
theorem mid (h:EqM r (mulM r U' U) (scM 1)):EqM r (mulM r (mulM r V U') (mulM r U B)) (mulM r V B):=by
 have e1:mulM r (mulM r V U') (mulM r U B)=mulM r V (mulM r (mulM r U' U) B):=by rw [zao,zao]
 rw [e1]
 exact(EqM.refl V).mul ((h.mul (EqM.refl B)).trans (zbv r B))
theorem InvM.mul (h:InvM r U U')(k:InvM r V V'):InvM r (mulM r U V) (mulM r V' U'):=
 ⟨(mid k.1).trans h.1,(mid h.2).trans k.2⟩
def Equ (r:Nat)(A B:Nat→Nat→Int):Prop:=∃ U U' V V',InvM r U U'∧InvM r V V'∧EqM r B (mulM r (mulM r U A) V)
theorem Equ.rows (h:InvM r U U')(k:EqM r B (mulM r U A)):Equ r A B:=⟨U,U',scM 1,scM 1,h,.one r,k.trans (zcD r _).symm⟩
theorem Equ.cols (h:InvM r V V')(k:EqM r B (mulM r A V)):Equ r A B:=⟨scM 1,scM 1,V,V',.one r,h,k.trans ((zbv r A).symm.mul (EqM.refl V))⟩
theorem Equ.of (h:EqM r A B):Equ r A B:=.rows (.one r) (h.symm.trans (zbv r A).symm)
theorem Equ.refl (A:Nat→Nat→Int):Equ r A A:=.of (EqM.refl A)
theorem Equ.trans (h:Equ r A B)(k:Equ r B C):Equ r A C:=by
 obtain⟨U,U',V,V',hu,hv,e⟩:=h
 obtain⟨X,X',Y,Y',hx,hy,e2⟩:=k
 refine⟨mulM r X U,mulM r U' X',mulM r V Y,mulM r Y' V',hx.mul hu,hv.mul hy,e2.trans ?_⟩
 refine(((EqM.refl X).mul e).mul (EqM.refl Y)).trans ?_
 have:mulM r (mulM r X (mulM r (mulM r U A) V)) Y=mulM r (mulM r (mulM r X U) A) (mulM r V Y):=by simp only [zao]
 rw [this]
 exact EqM.refl _
theorem Equ.tr (h:Equ r A B):Equ r (trM A) (trM B):=by
 obtain⟨U,U',V,V',hu,hv,e⟩:=h
 refine⟨trM V,trM V',trM U,trM U',hv.tr,hu.tr,e.tr.trans ?_⟩
 rw [zcg,zcg,zao]
 exact EqM.refl _
theorem Equ.symm (h:Equ r A B):Equ r B A:=by
 obtain⟨U,U',V,V',hu,hv,e⟩:=h
 refine⟨U',U,V',V,hu.symm,hv.symm,?_⟩
 refine EqM.symm ((((EqM.refl U').mul e).mul (EqM.refl V')).trans ?_)
 have:mulM r (mulM r U' (mulM r (mulM r U A) V)) V'=mulM r (mulM r U' U) (mulM r A (mulM r V V')):=by simp only [zao]
 rw [this]
 exact(hu.2.mul (((EqM.refl A).mul hv.1).trans (zcD r A))).trans (zbv r A)
def FreeM (r:Nat)(A:Nat→Nat→Int):Prop:=∀ x:Nat→Int,(∀ j,j < r→sumN r (fun k=>x k * A k j)=0)→∀ k,k < r→x k=0
theorem FreeM.cancel (f:FreeM r A){X Y:Nat→Nat→Int}(h:EqM r (mulM r X A) (mulM r Y A)):EqM r X Y:=fun i k hi hk=>by
 have:=f (fun q=>X i q+- Y i q) (fun j hj=>by
  have e1:sumN r (fun q=>(X i q+- Y i q) * A q j)=sumN r (fun q=>X i q * A q j)+- sumN r (fun q=>Y i q * A q j):=by
   rw [← zap,← zai]
   exact zg fun q _=>by rw [Int.add_mul,Int.neg_mul]
  rw [e1]
  have e2:sumN r (fun q=>X i q * A q j)=sumN r (fun q=>Y i q * A q j):=h i j hi hj
  omega) k hk
 omega
theorem zjk (fA:FreeM r A)(fB:FreeM r B)(h:EqM r A (mulM r C B))(k:EqM r B (mulM r T A)):InvM r C T:=by
 refine⟨fA.cancel ?_,fB.cancel ?_⟩
 ·refine EqM.trans ?_ (zbv r A).symm
  rw [zao]
  exact((EqM.refl C).mul k.symm).trans h.symm
 ·refine EqM.trans ?_ (zbv r B).symm
  rw [zao]
  exact((EqM.refl T).mul h.symm).trans k.symm
theorem zfe (h:∀ i j,i < r→j < r→j < i→A i j=0)(p:∀ i,i < r→A i i≠0):FreeM r A:=fun x hx=>by
 have key:∀ m k,k < m→k < r→x k=0:=fun m=>by
  induction m with
  | zero=>intro k hk;omega
  | succ m ih=>
   intro k hk hr
   by_cases hm:k < m
   ·exact ih k hm hr
   ·have e:=hx k hr
    rw [zF r k hr _ fun i hi hne=>by
     by_cases hik:i < k
     ·rw [ih i (by omega) hi,Int.zero_mul]
     ·rw [h i k hi hr (by omega),Int.mul_zero]] at e
    rcases Int.mul_eq_zero.1 e with e | e
    ·exact e
    ·exact absurd e (p k hr)
 exact fun k hk=>key (k+1) k (by omega) hk
theorem ziQ (h:∀ i j,i < r→j < r→i < j→A i j=0)(p:∀ i,i < r→A i i≠0):FreeM r A:=fun x hx=>by
 have key:∀ m k,k < r→r - k≤m→x k=0:=fun m=>by
  induction m with
  | zero=>intro k hk h0;omega
  | succ m ih=>
   intro k hk h0
   have e:=hx k hk
   rw [zF r k hk _ fun i hi hne=>by
    by_cases hik:k < i
    ·rw [ih i hi (by omega),Int.zero_mul]
    ·rw [h i k hi hk (by omega),Int.mul_zero]] at e
   rcases Int.mul_eq_zero.1 e with e | e
   ·exact e
   ·exact absurd e (p k hk)
 exact fun k hk=>key r k hk (by omega)
def Kills (r:Nat)(A:Nat→Nat→Int)(e:Int):Prop:=∃ C,EqM r (mulM r C A) (scM e)∧EqM r (mulM r A C) (scM e)
theorem Kills.equ (k:Kills r A e)(h:Equ r A B):Kills r B e:=by
 obtain⟨U,U',V,V',hu,hv,q⟩:=h
 obtain⟨C,k1,k2⟩:=k
 have s1:∀ X Y:Nat→Nat→Int,EqM r (mulM r X Y) (scM 1)→EqM r (mulM r X (mulM r (scM e) Y)) (scM e):=fun X Y h=>by
  refine(((EqM.refl X).mul (zgw r Y e)).trans ?_)
  intro i j hi hj
  have e1:mulM r X (fun i j=>Y i j * e) i j=mulM r X Y i j * e:=by
   show sumN r (fun k=>X i k *(Y k j * e))=sumN r (fun k=>X i k * Y k j) * e
   rw [Int.mul_comm _ e,← zC]
   exact zg fun k _=>by rw [← Int.mul_assoc,Int.mul_comm]
  rw [e1,h i j hi hj]
  unfold scM
  split
  ·rw [Int.one_mul]
  ·rw [Int.zero_mul]
 refine⟨mulM r (mulM r V' C) U',?_,?_⟩
 ·refine((EqM.refl _).mul q).trans ?_
  have e1:mulM r (mulM r (mulM r V' C) U') (mulM r (mulM r U A) V)=mulM r (mulM r (mulM r V' C) U') (mulM r U (mulM r A V)):=by rw [zao r U A V]
  rw [e1]
  refine(mid hu.2).trans ?_
  have e2:mulM r (mulM r V' C) (mulM r A V)=mulM r V' (mulM r (mulM r C A) V):=by simp only [zao]
  rw [e2]
  exact((EqM.refl V').mul (k1.mul (EqM.refl V))).trans (s1 _ _ hv.2)
 ·refine(q.mul (EqM.refl _)).trans ?_
  have e1:mulM r (mulM r (mulM r U A) V) (mulM r (mulM r V' C) U')=mulM r (mulM r (mulM r U A) V) (mulM r V' (mulM r C U')):=by rw [zao r V' C U']
  rw [e1]
  refine(mid hv.1).trans ?_
  have e2:mulM r (mulM r U A) (mulM r C U')=mulM r U (mulM r (mulM r A C) U'):=by simp only [zao]
  rw [e2]
  exact((EqM.refl U).mul (k2.mul (EqM.refl U'))).trans (s1 _ _ hu.1)
def dgM (f:Nat→Int):Nat→Nat→Int:=fun i j=>if i=j then f i else 0
theorem zls (f:Nat→Int):trM (dgM f)=dgM f:=by
 funext i j
 show(if j=i then f j else 0)=if i=j then f i else 0
 by_cases h:i=j
 ·rw [if_pos h,if_pos h.symm,h]
 ·rw [if_neg h,if_neg (Ne.symm h)]
def twoM (k h:Nat)(a b c d:Int):Nat→Nat→Int:=fun i j=>if i=k then (if j=k then a else if j=h then b else 0) else if i=h then (if j=k then c else if j=h then d else 0) else if i=j then 1 else 0
def blkM (f:Nat→Int)(k h:Nat)(a b c d:Int):Nat→Nat→Int:=fun i j=>if i=k then (if j=k then a else if j=h then b else 0) else if i=h then (if j=k then c else if j=h then d else 0) else if i=j then f i else 0
theorem zch {f:Nat→Int}{k h:Nat}(hkh:k < h)(hh:h < r)(a b c d x y z u:Int):EqM r (mulM r (twoM k h a b c d) (blkM f k h x y z u)) (blkM f k h (a * x+b * z) (a * y+b * u) (c * x+d * z) (c * y+d * u)):=fun i j hi hj=>by
 show sumN r (fun q=>twoM k h a b c d i q * blkM f k h x y z u q j)=_
 by_cases e1:i=k
 ·subst e1
  rw [zd3 r i h hkh hh _ fun q hq n1 n2=>by rw [twoM,if_pos rfl,if_neg n1,if_neg n2,Int.zero_mul]]
  have n:¬ h=i:=by omega
  simp only [twoM,blkM,if_true,if_neg n]
  by_cases e2:j=i
  ·simp only [e2,if_true]
  ·simp only [if_neg e2]
   by_cases e3:j=h
   ·simp only [e3,if_true]
   ·simp only [if_neg e3,Int.mul_zero,Int.add_zero]
 ·by_cases e4:i=h
  ·subst e4
   rw [zd3 r k i hkh hh _ fun q hq n1 n2=>by rw [twoM,if_neg e1,if_pos rfl,if_neg n1,if_neg n2,Int.zero_mul]]
   simp only [twoM,blkM,if_true,if_neg e1]
   by_cases e2:j=k
   ·simp only [e2,if_true]
   ·simp only [if_neg e2]
    by_cases e3:j=i
    ·simp only [e3,if_true]
    ·simp only [if_neg e3,Int.mul_zero,Int.add_zero]
  ·rw [zF r i hi _ fun q hq hne=>by rw [twoM,if_neg e1,if_neg e4,if_neg (Ne.symm hne),Int.zero_mul]]
   simp only [twoM,blkM,if_neg e1,if_neg e4,if_true,Int.one_mul]
theorem zgW (k h:Nat)(hkh:k < h):twoM k h 1 0 0 1=scM 1:=by
 funext i j
 unfold twoM scM
 by_cases e1:i=k
 ·subst e1
  rw [if_pos rfl]
  by_cases e2:j=i
  ·rw [if_pos e2,if_pos e2.symm]
  ·rw [if_neg e2,if_neg (Ne.symm e2)]
   split <;> rfl
 ·rw [if_neg e1]
  by_cases e4:i=h
  ·subst e4
   rw [if_pos rfl]
   by_cases e2:j=i
   ·rw [if_pos e2,if_pos e2.symm,if_neg (by omega)]
   ·rw [if_neg e2,if_neg (Ne.symm e2)]
    split <;> rfl
  ·rw [if_neg e4]
theorem zcO (k h:Nat)(a b c d:Int):twoM k h a b c d=blkM (fun _=>1) k h a b c d:=rfl
theorem zd8 {k h:Nat}(hkh:k < h)(hh:h < r){a b c d x y z u:Int}(h1:a * x+b * z=1)(h2:a * y+b * u=0)(h3:c * x+d * z=0)(h4:c * y+d * u=1)(h5:x * a+y * c=1)(h6:x * b+y * d=0)(h7:z * a+u * c=0)(h8:z * b+u * d=1):InvM r (twoM k h a b c d) (twoM k h x y z u):=by
 refine⟨?_,?_⟩
 ·have e:=zch (f:=fun _=>1) hkh hh a b c d x y z u
  rw [h1,h2,h3,h4,← zcO,← zcO,zgW k h hkh] at e
  exact e
 ·have e:=zch (f:=fun _=>1) hkh hh x y z u a b c d
  rw [h5,h6,h7,h8,← zcO,← zcO,zgW k h hkh] at e
  exact e
theorem zgT (f:Nat→Int){k h:Nat}(hkh:k < h)(a b c d:Int):trM (blkM f k h a b c d)=blkM f k h a c b d:=by
 funext i j
 show blkM f k h a b c d j i=_
 unfold blkM
 repeat' split
 all_goals first | rfl | omega | exact congrArg f (by omega)
theorem zhJ {f:Nat→Int}{k h:Nat}(hkh:k < h)(hh:h < r){a b g l x y p q:Int}(hg:g=x * a+y * b)(hp:a=p * g)(hq:b=q * g)(hl:l=p * b):Equ r (blkM f k h a 0 0 b) (blkM f k h g 0 0 l):=by
 have s1:Equ r (blkM f k h a 0 0 b) (blkM f k h a (y * b) 0 b):=.rows (zd8 (a:=1) (b:=y) (c:=0) (d:=1) (x:=1) (y:=-y) (z:=0) (u:=1) hkh hh (by omega) (by omega) (by omega) (by omega) (by omega) (by omega) (by omega) (by omega)) (by
  have e:=zch (r:=r) (f:=f) hkh hh 1 y 0 1 a 0 0 b
  simp only [Int.one_mul,Int.mul_zero,Int.add_zero,Int.zero_mul,Int.zero_add] at e
  exact e.symm)
 have hxp:x * p=p * x:=Int.mul_comm x p
 have hxx:x *(p * x)=p * x * x:=Int.mul_comm x (p * x)
 have hpp:p * x * p=p *(p * x):=Int.mul_comm (p * x) p
 have s2:Equ r (blkM f k h a 0 (y * b) b) (blkM f k h g b 0 l):=.rows (zd8 (a:=x) (b:=1) (c:=p * x - 1) (d:=p) (x:=p) (y:=-1) (z:=1 - p * x) (u:=x) hkh hh
   (by omega) (by omega)
   (by rw [Int.sub_mul,Int.mul_sub];omega)
   (by omega)
   (by omega) (by omega)
   (by rw [Int.sub_mul,Int.mul_sub];omega)
   (by omega)) (by
  have e:=zch (r:=r) (f:=f) hkh hh x 1 (p * x - 1) p a 0 (y * b) b
  have e1:x * a+1 *(y * b)=g:=by rw [Int.one_mul,hg]
  have e2:x * 0+1 * b=b:=by omega
  have e3:(p * x - 1) * a+p *(y * b)=0:=by
   have:p *(x * a+y * b)=a:=by rw [← hg,← hp]
   rw [Int.mul_add] at this
   rw [Int.sub_mul,Int.one_mul,Int.mul_assoc]
   omega
  have e4:(p * x - 1) * 0+p * b=l:=by rw [hl];omega
  rw [e1,e2,e3,e4] at e
  exact e.symm)
 have s3:Equ r (blkM f k h g 0 b l) (blkM f k h g 0 0 l):=.rows (zd8 (a:=1) (b:=0) (c:=-q) (d:=1) (x:=1) (y:=0) (z:=q) (u:=1) hkh hh (by omega) (by omega) (by omega) (by omega) (by omega) (by omega) (by omega) (by omega)) (by
  have e:=zch (r:=r) (f:=f) hkh hh 1 0 (-q) 1 g 0 b l
  have e1:-q * g+1 * b=0:=by rw [hq,Int.neg_mul];omega
  rw [e1] at e
  simp only [Int.one_mul,Int.mul_zero,Int.add_zero,Int.zero_mul,Int.zero_add] at e
  exact e.symm)
 have t2:=s2.tr
 rw [zgT f hkh,zgT f hkh] at t2
 exact(s1.trans t2).trans s3
theorem zhA {f g:Nat→Int}{k h:Nat}{a b c d:Int}(e:∀ i,i≠k→i≠h→f i=g i):blkM f k h a b c d=blkM g k h a b c d:=by
 funext i j
 unfold blkM
 by_cases e1:i=k
 ·rw [if_pos e1,if_pos e1]
 ·by_cases e2:i=h
  ·rw [if_neg e1,if_neg e1,if_pos e2,if_pos e2]
  ·rw [if_neg e1,if_neg e1,if_neg e2,if_neg e2,e i e1 e2]
theorem zeX (zs:List Int){k h:Nat}(hkh:k < h):dgM (fun i=>zs.getD i 0)=blkM (fun i=>zs.getD i 0) k h (zs.getD k 0) 0 0 (zs.getD h 0):=by
 funext i j
 unfold dgM blkM
 by_cases e1:i=k
 ·subst e1
  rw [if_pos rfl]
  by_cases e2:j=i
  ·rw [if_pos e2,if_pos e2.symm]
  ·rw [if_neg e2,if_neg (Ne.symm e2)]
   split <;> rfl
 ·rw [if_neg e1]
  by_cases e4:i=h
  ·subst e4
   rw [if_pos rfl]
   by_cases e2:j=i
   ·rw [if_pos e2,if_pos e2.symm,if_neg (by omega)]
   ·rw [if_neg e2,if_neg (Ne.symm e2)]
    split <;> rfl
  ·rw [if_neg e4]
theorem ziC {F G:List (List Int)}(fF:FreeM r (ent F))(fG:FreeM r (ent G))(lF:F.length=r)(lG:G.length=r)(kF:∀ u∈F,u.length=r)(kG:∀ u∈G,u.length=r)(a:Alikes r (InL F) (InL G)):Equ r (ent G) (ent F):=by
 obtain⟨C,hC⟩:=zJ (r:=r) (n:=r) (mm:=r) (H:=ent F) (M:=ent G) fun k hk=>by
  have hm:F.getD k []∈F:=zr (by omega)
  have g:=zx ((a _).1 (.base hm (kF _ hm)))
  rw [lG] at g
  exact g
 obtain⟨T,hT⟩:=zJ (r:=r) (n:=r) (mm:=r) (H:=ent G) (M:=ent F) fun k hk=>by
  have hm:G.getD k []∈G:=zr (by omega)
  have g:=zx ((a _).2 (.base hm (kG _ hm)))
  rw [lF] at g
  exact g
 have hC':EqM r (ent F) (mulM r C (ent G)):=fun i j hi hj=>hC i j hi hj
 have hT':EqM r (ent G) (mulM r T (ent F)):=fun i j hi hj=>hT i j hi hj
 exact .rows (zjk fF fG hC' hT') hC'
theorem Sq.free {H:List (List Int)}(S:Sq r H):FreeM r (ent H):=zfe (fun i j hi hj h=>S.low hi h) fun i hi=>by have:=S.pos hi;omega
theorem Sq.free_cols {H:List (List Int)}(S:Sq r H):FreeM r (ent (colsL H r)):=ziQ (fun i j hi hj h=>by rw [zar S hi hj];exact S.low hj h) fun i hi=>by rw [zar S hi hi];have:=S.pos hi;omega
theorem Sq.cols_equ {H H':List (List Int)}(S:Sq r H)(S':Sq r H')(a:Alikes r (InL H') (InL (colsL H r))):Equ r (trM (ent H)) (ent H'):=by
 have e:EqM r (trM (ent H)) (ent (colsL H r)):=fun i j hi hj=>(zar S hi hj).symm
 exact(Equ.of e).trans (ziC S'.free S.free_cols S'.len (zQ H r) S'.form.len (fun u hu=>by rw [zaS H r u hu,S.len]) a)
end
end Go.Proofs.YtdedolkgcdlmeaaGreatDoor
