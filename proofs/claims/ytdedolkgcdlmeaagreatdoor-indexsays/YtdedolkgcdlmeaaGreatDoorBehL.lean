import Derived.Test.YtdedolkgcdlmeaaGreatDoorKerT
import Derived.Deep.LoopGhost
namespace Go.Proofs.YtdedolkgcdlmeaaGreatDoor
open Go.RowKit Limbs
variable {k W r b n j:Nat}{p f g:Nat→Nat}
theorem zdg:∀(n:Nat) (M:Nat→Nat→Int) (c:Nat),c<n→(∀ a,a<n→M a c=0)→det n M=0
 | 0,_,c,hc,_=>absurd hc (Nat.not_lt_zero c)
 | n+1,M,c,hc,h=>by
  rw [det]
  refine(zm (g:=fun _=>0) fun j hj=>?_).trans (zaQ _)
  by_cases e:j=c
  ·rw [e,h n (by omega),Int.mul_zero,Int.zero_mul]
  ·have:det n (fun a b=>M a (sk j b))=0:=by
    by_cases hlt:c<j
    ·exact zdg n _ c (by omega) fun a ha=>by
      show M a (sk j c)=0
      rw [zaG hlt];exact h a (by omega)
    ·refine zdg n _ (c-1) (by omega) fun a ha=>?_
     show M a (sk j (c-1))=0
     rw [zcf (by omega),show c-1+1=c by omega]
     exact h a (by omega)
   rw [this,Int.mul_zero]
theorem zhR (n:Nat)(M:Nat→Nat→Int)(h:∀ a b,a<n→b<n→a<b→M a b=0):det n M=prodN n (fun i=>M i i):=by
 induction n with
 | zero=>rfl
 | succ n ih=>
  rw [det,zQ (n+1) n (by omega) _ fun j hj hne=>by
   have:det n (fun a b=>M a (sk j b))=0:=by
    refine zdg n _ (n-1) (by omega) fun a ha=>?_
    show M a (sk j (n-1))=0
    rw [zcf (by omega),show n-1+1=n by omega]
    exact h a n (by omega) (by omega) (by omega)
   rw [this,Int.mul_zero]]
  have e:det n (fun a b=>M a (sk n b))=det n M:=zn fun a b _ hb=>by rw [zaG hb]
  rw [e,ih fun a b ha hb hab=>h a b (by omega) (by omega) hab]
  have:sgnN (n+n)=1:=by unfold sgnN;rw [if_pos (by omega)]
  rw [this,Int.one_mul,prodN,Int.mul_comm]
structure Sq (r:Nat)(H:List (List Int)):Prop where
 form:FormL r H (fun k=>k)
 len:H.length=r
theorem zcg{H:List (List Int)}(F:FormL r H p)(hl:H.length=r):Sq r H:=by
 have h2:∀ d k,k+d<r→p k+d≤p (k+d):=fun d=>by
  induction d with
  | zero=>exact fun k _=>Nat.le_refl _
  | succ d ih=>intro k hk;have:=ih k (by omega);have:=F.form.inc (k+d) (k+(d+1)) (by omega) (by omega);omega
 have hp:∀ k,k<r→p k=k:=fun k hk=>by
  have h3:=h2 (r-1-k) k (by omega)
  have h4:=F.form.lt (k+(r-1-k)) (by omega)
  have h5:=h2 k 0 (by omega)
  rw [Nat.zero_add] at h5
  omega
 refine⟨⟨F.len,?_⟩,hl⟩
 refine⟨fun i k h _=>h,fun i h=>by omega,fun i b hi hb=>F.form.zero i b hi (by rw [hp i (by omega)];exact hb),fun i hi=>?_,fun i k hik hk=>?_⟩
 ·have:=F.form.pos i hi;rwa [hp i (by omega)] at this
 ·have:=F.form.red i k hik hk;rwa [hp k (by omega)] at this
theorem zkW{H:List (List Int)}(F:FormL r H p)(hl:H.length=r):∀ k,k<r→p k=k:=fun k hk=>by
 have h2:∀ d k,k+d<r→p k+d≤p (k+d):=fun d=>by
  induction d with
  | zero=>exact fun k _=>Nat.le_refl _
  | succ d ih=>intro k hk;have:=ih k (by omega);have:=F.form.inc (k+d) (k+(d+1)) (by omega) (by omega);omega
 have h3:=h2 (r-1-k) k (by omega)
 have h4:=F.form.lt (k+(r-1-k)) (by omega)
 have h5:=h2 k 0 (by omega)
 rw [Nat.zero_add] at h5
 omega
theorem zhC{hs fs:List (List Int)}(G:FormL n hs p)(a:Alikes hs.length (InL fs) (InL (colsL hs n)))(hle:fs.length≤hs.length):fs.length=hs.length:=by
 obtain⟨C,hC⟩:=zX (r:=hs.length) (n:=hs.length) (mm:=fs.length) (H:=fun i b=>ent hs b (p (hs.length-1-i))) (M:=ent fs) fun i hi=>by
  have hj:p (hs.length-1-i)<n:=G.form.lt _ (by omega)
  have hm:(colsL hs n).getD (p (hs.length-1-i)) []∈colsL hs n:=zr (by rw [zZ];exact hj)
  obtain⟨d,hd⟩:=zE ((a _).2 (.base hm (zaW hs n _ hm)))
  refine⟨d,fun b hb=>?_⟩
  have e1:=hd b hb
  dsimp only at e1
  rw [zaV hs n _ hj,zby _ _ _ hb] at e1
  exact e1
 have:=zbD hs.length fs.length hs.length (fun i b=>ent hs b (p (hs.length-1-i))) (ent fs) C (fun k=>hs.length-1-k) (fun k hk=>by omega)
  (fun i k hi hki=>G.form.zero (hs.length-1-k) (p (hs.length-1-i)) (by omega) (G.form.inc _ _ (by omega) (by omega)))
  (fun i hi=>G.form.pos (hs.length-1-i) (by omega)) hC
 omega
section
variable {r:Nat}{H H':List (List Int)}
theorem Sq.low (S:Sq r H)(hk:k<r)(hb:b<k):ent H k b=0:=S.form.form.zero k b (by rw [S.len];exact hk) hb
theorem Sq.pos (S:Sq r H)(hk:k<r):0<ent H k k:=S.form.form.pos k (by rw [S.len];exact hk)
theorem Sq.red (S:Sq r H){i:Nat}(hik:i<k)(hk:k<r):0≤ent H i k∧ent H i k<ent H k k:=S.form.form.red i k hik (by rw [S.len];exact hk)
def diag (r:Nat)(H:List (List Int)):Int:=prodN r (fun k=>ent H k k)
theorem Sq.one_le (S:Sq r H):1≤diag r H:=zad r _ fun _ hk=>S.pos hk
theorem Sq.diag_le (S:Sq r H)(hk:k<r):ent H k k≤diag r H:=zdK r (fun k=>ent H k k) (fun _ hk=>S.pos hk) k hk
theorem Sq.ent_le (S:Sq r H)(hk:k<r)(hb:b<r):0≤ent H k b∧ent H k b≤diag r H:=by
 rcases Nat.lt_trichotomy k b with h | h | h
 ·have h1:=S.red h hb;have h2:=S.diag_le hb;omega
 ·subst h;have h1:=S.pos hk;have h2:=S.diag_le hk;omega
 ·have h1:=S.low hk h;have h2:=S.one_le;omega
theorem zaw (S:Sq r H)(hj:j<r)(hb:b<r):ent (colsL H r) j b=ent H b j:=by
 show((colsL H r).getD j []).getD b 0=_
 rw [zaV H r j hj,zby _ _ _ (by rw [S.len];exact hb)]
 rfl
theorem zde (S:Sq r H)(hj:j<r):Gens r (InL (colsL H r)) ((colsL H r).getD j []):=by
 have hm:(colsL H r).getD j []∈colsL H r:=zr (by rw [zZ];exact hj)
 exact .base hm (by rw [zaW H r _ hm,S.len])
theorem Sq.step (S:Sq r H)(F:FormL r H' p)(a:Alikes r (InL H') (InL (colsL H r))):Sq r H'∧diag r H'=diag r H:=by
 have h1:=ze1 F a
 rw [zZ] at h1
 have hl:H'.length=r:=by
  obtain⟨C,hC⟩:=zX (r:=r) (n:=r) (mm:=H'.length) (H:=fun i b=>ent (colsL H r) (r-1-i) b) (M:=ent H') fun i hi=>zE ((a _).2 (zde S (j:=r-1-i) (by omega)))
  have:=zbD r H'.length r (fun i b=>ent (colsL H r) (r-1-i) b) (ent H') C (fun k=>r-1-k) (fun k hk=>by omega)
   (fun i k hi hki=>by
    show ent (colsL H r) (r-1-i) (r-1-k)=0
    rw [zaw S (by omega) (by omega)]
    exact S.low (by omega) (by omega))
   (fun i hi=>by
    show 1≤ent (colsL H r) (r-1-i) (r-1-i)
    rw [zaw S (by omega) (by omega)]
    exact S.pos (by omega)) hC
  omega
 have S':=zcg F hl
 refine⟨S',?_⟩
 obtain⟨C,hC⟩:=zX (r:=r) (n:=r) (mm:=r) (H:=ent H') (M:=ent (colsL H r)) fun k hk=>by
  have hm:H'.getD k []∈H':=zr (by omega)
  have g:=zE ((a _).1 (.base hm (F.len _ hm)))
  rw [zZ] at g
  exact g
 obtain⟨T,hT⟩:=zX (r:=r) (n:=r) (mm:=r) (H:=ent (colsL H r)) (M:=ent H') fun k hk=>by
  have g:=zE ((a _).2 (zde S hk))
  rw [hl] at g
  exact g
 have d1:det r (ent H')=diag r H':=zaY r _ fun i b hi hb=>S'.low hi hb
 have d2:det r (ent (colsL H r))=diag r H:=by
  rw [zhR r _ fun i b hi hb hib=>by rw [zaw S hi hb];exact S.low hb hib]
  unfold diag
  have:∀ m,m≤r→prodN m (fun i=>ent (colsL H r) i i)=prodN m (fun k=>ent H k k):=fun m=>by
   induction m with
   | zero=>exact fun _=>rfl
   | succ m ih=>intro hm;rw [prodN,prodN,ih (by omega),zaw S (by omega) (by omega)]
  exact this r zL
 have e1:diag r H'=det r C*diag r H:=by
  rw [← d1,← d2,← zbn]
  exact zn fun x y hx hy=>hC x y hx hy
 have e2:diag r H=det r T*diag r H':=by
  rw [← d1,← d2,← zbn]
  exact zn fun x y hx hy=>hT x y hx hy
 have o1:=S.one_le;have o2:=S'.one_le
 have up:∀ {x y c:Int},1≤x→1≤y→x=c*y→y≤x:=fun {x y c} hx hy h=>by
  rcases Int.lt_or_le 0 c with hc | hc
  ·have:=Int.mul_le_mul_of_nonneg_right (show 1≤c by omega) (show 0≤y by omega)
   omega
  ·have:=Int.mul_le_mul_of_nonneg_right hc (show 0≤y by omega)
   omega
 have:=up o2 o1 e1
 have:=up o1 o2 e2
 omega
theorem Sq.bound (S:Sq r H){ms:List (List Int)}(a:Alikes r (InL H) (InL ms))(hl:∀ us∈ms,us.length=r){B:Int}(hB:0≤B)(hb:∀ us∈ms,∀ j,j<r→absI (us.getD j 0)≤B):diag r H≤facP r B:=by
 obtain⟨C,hC⟩:=zX (r:=r) (n:=r) (mm:=ms.length) (H:=ent H) (M:=ent ms) fun k hk=>by
  have hm:H.getD k []∈H:=zr (by rw [S.len];exact hk)
  exact zE ((a _).1 (.base hm (S.form.len _ hm)))
 obtain⟨T,hT⟩:=zX (r:=ms.length) (n:=r) (mm:=r) (H:=ent ms) (M:=ent H) fun k hk=>by
  have hm:ms.getD k []∈ms:=zr hk
  have g:=zE ((a _).2 (.base hm (hl _ hm)))
  rw [S.len] at g
  exact g
 have d1:det r (ent H)=diag r H:=zaY r _ fun i b hi hb=>S.low hi hb
 have o1:=S.one_le
 obtain⟨φ,hφ,hne⟩:=zda r ms.length (ent H) (ent ms) C (fun a b ha hb=>hC a b ha hb) (by rw [d1];omega) r zL
 have hne':det r (fun a b=>ent ms (φ a) b)≠0:=by
  intro h
  apply hne
  have e:det r (fun a b=>if a<r then ent ms (φ a) b else ent H a b)=det r (fun a b=>ent ms (φ a) b):=zn fun a b ha _=>if_pos ha
  exact e.trans h
 have hmul:det r (fun a b=>ent ms (φ a) b)=det r (fun a k=>T (φ a) k)*det r (ent H):=by
  rw [← zbn]
  exact zn fun a b ha hb=>hT (φ a) b (hφ a ha) hb
 have h1:=zeJ (n:=r) (fun a b=>ent ms (φ a) b) B hB fun a b ha hb'=>hb _ (zr (hφ a ha)) b hb'
 rw [hmul,zar,d1] at h1
 have hT0:det r (fun a k=>T (φ a) k)≠0:=fun h=>hne' (by rw [hmul,h,Int.zero_mul])
 have h2:1≤absI (det r (fun a k=>T (φ a) k)):=by
  have:=zas (det r (fun a k=>T (φ a) k))
  have h3:absI (det r (fun a k=>T (φ a) k))≠0:=fun h=>hT0 (zcX.1 h)
  omega
 rw [zak (show 0≤diag r H by omega)] at h1
 have h3:=Int.mul_le_mul_of_nonneg_right h2 (show 0≤diag r H by omega)
 omega
def rowAl (r:Nat)(H:List (List Int))(k:Nat):Prop:=∀ b,k<b→b<r→ent H k b=0
theorem zcR (n k b:Nat)(hkb:k<b)(hb:b<n)(f:Nat→Int)(h:∀ i,i<n→i≠k→i≠b→f i=0):sumN n f=f k+f b:=by
 have e:sumN n f=sumN n (fun j=>(if j=k then f k else 0)+(if j=b then f b else 0)):=zm fun j hj=>by
  by_cases h1:j=k
  ·rw [if_pos h1,if_neg (by omega),h1,Int.add_zero]
  ·by_cases h2:j=b
   ·rw [if_neg h1,if_pos h2,h2,Int.zero_add]
   ·rw [if_neg h1,if_neg h2,h j hj h1 h2];rfl
 rw [e,zbg,zQ n k (by omega) _ (fun i _ hi=>if_neg hi),zQ n b hb _ (fun i _ hi=>if_neg hi),if_pos rfl,if_pos rfl]
theorem Sq.unit_row (S:Sq r H){v:List Int}(hv:Gens r (InL H) v)(hk:k<r){e:Int}(he:∀ b,b<r→v.getD b 0=if b=k then e else 0):
  (∃ t,e=t*ent H k k)∧(e=ent H k k→rowAl r H k):=by
 obtain⟨d,hd⟩:=zE hv
 rw [S.len] at hd
 have hd':∀ b,b<r→(if b=k then e else 0)=sumN r (fun j=>d j*ent H j b):=fun b hb=>(he b hb).symm.trans (hd b hb)
 have hpiv:∀ j,j<r→(∀ i,i<j→d i=0)→sumN r (fun i=>d i*ent H i j)=d j*ent H j j:=fun j hj h0=>by
  refine zQ r j hj _ fun i hi hij=>?_
  rcases Nat.lt_or_gt_of_ne hij with h | h
  ·rw [h0 i h,Int.zero_mul]
  ·rw [S.low hi h,Int.mul_zero]
 have hz:∀ j,j<k→d j=0:=fun j=>by
  induction j using Nat.strongRecOn with
  | _ j ih=>
   intro hj
   have h1:=hd' j (by omega)
   rw [if_neg (by omega),hpiv j (by omega) fun i hi=>ih i hi (by omega)] at h1
   have hp:=S.pos (k:=j) (by omega)
   rcases Int.mul_eq_zero.1 h1.symm with h | h
   ·exact h
   ·omega
 have hke:=hd' k hk
 rw [if_pos rfl,hpiv k hk hz] at hke
 refine⟨⟨d k,hke⟩,fun hee=>?_⟩
 have hd1:d k=1:=by
  have hp:=S.pos hk
  rw [hee] at hke
  have:(d k-1)*ent H k k=0:=by rw [Int.sub_mul];omega
  rcases Int.mul_eq_zero.1 this with h | h <;> omega
 have key:∀ b,k<b→b<r→d b=0∧ent H k b=0:=fun b=>by
  induction b using Nat.strongRecOn with
  | _ b ih=>
   intro hkb hb
   have h1:=hd' b hb
   rw [if_neg (by omega),zcR r k b hkb hb _ fun i hi h2 h3=>by
    rcases Nat.lt_trichotomy i k with h | h | h
    ·rw [hz i h,Int.zero_mul]
    ·exact absurd h h2
    ·rcases Nat.lt_or_gt_of_ne h3 with h4 | h4
     ·rw [(ih i h4 h hi).1,Int.zero_mul]
     ·rw [S.low hi h4,Int.mul_zero],hd1,Int.one_mul] at h1
   have hr:=S.red hkb hb
   have hp:=S.pos hb
   have h0:d b=0:=by
    rcases Int.lt_trichotomy (d b) 0 with h | h | h
    ·have:=Int.mul_le_mul_of_nonneg_right (show d b≤-1 by omega) (show 0≤ent H b b by omega)
     omega
    ·exact h
    ·have:=Int.mul_le_mul_of_nonneg_right (show 1≤d b by omega) (show 0≤ent H b b by omega)
     omega
   rw [h0,Int.zero_mul] at h1
   exact⟨h0,by omega⟩
 exact fun b h1 h2=>(key b h1 h2).2
theorem Sq.first (S:Sq r H)(S':Sq r H')(a:Alikes r (InL H') (InL (colsL H r))){k0:Nat}(hk0:k0<r)(hal:∀ k,k<k0→rowAl r H k):
  (∀ k,k<k0→ent H' k k=ent H k k∧rowAl r H' k)∧ent H' k0 k0≤ent H k0 k0∧(ent H' k0 k0=ent H k0 k0→rowAl r H' k0):=by
 have hcol:∀ k,k≤k0→∀ b,b<r→((colsL H r).getD k []).getD b 0=if b=k then ent H k k else 0:=fun k hk b hb=>by
  have e:((colsL H r).getD k []).getD b 0=ent H b k:=zaw S (by omega) hb
  rw [e]
  rcases Nat.lt_trichotomy b k with h | h | h
  ·rw [if_neg (by omega)];exact hal b (by omega) k h (by omega)
  ·rw [if_pos h,h]
  ·rw [if_neg (by omega)];exact S.low hb h
 have hu:=fun k (hk:k≤k0)=>S'.unit_row ((a _).2 (zde S (j:=k) (by omega))) (by omega) (hcol k hk)
 have hdv:∀ {x y t:Int},0<x→0<y→x=t*y→y≤x:=fun {x y t} hx hy h=>by
  rcases Int.lt_or_le 0 t with hc | hc
  ·have:=Int.mul_le_mul_of_nonneg_right (show 1≤t by omega) (show 0≤y by omega)
   omega
  ·have:=Int.mul_le_mul_of_nonneg_right hc (show 0≤y by omega)
   omega
 refine⟨fun k hk=>?_,?_,fun h=>(hu k0 zL).2 h.symm⟩
 ·obtain⟨⟨t,ht⟩,h2⟩:=hu k (by omega)
  have hp:=S.pos (k:=k) (by omega)
  have hp':=S'.pos (k:=k) (by omega)
  have g1:=hdv hp hp' ht
  have hm:H'.getD k []∈H':=zr (by rw [S'.len];omega)
  obtain⟨c,hc⟩:=zE ((a _).1 (.base hm (S'.form.len _ hm)))
  have hck:=hc k (by omega)
  rw [zZ] at hck
  have e1:sumN r (fun j=>c j *((colsL H r).getD j []).getD k 0)=c k*ent H k k:=by
   refine(zQ r k (by omega) _ fun j hj hjk=>?_).trans ?_
   ·have e:((colsL H r).getD j []).getD k 0=ent H k j:=zaw S hj (by omega)
    rw [e]
    rcases Nat.lt_or_gt_of_ne hjk with h | h
    ·rw [S.low (by omega) h,Int.mul_zero]
    ·rw [hal k hk j h hj,Int.mul_zero]
   ·have e:((colsL H r).getD k []).getD k 0=ent H k k:=zaw S (by omega) (by omega)
    rw [e]
  have g2:=hdv hp' hp (show ent H' k k=c k*ent H k k from hck.trans e1)
  have e3:ent H' k k=ent H k k:=by omega
  exact⟨e3,h2 e3.symm⟩
 ·obtain⟨⟨t,ht⟩,-⟩:=hu k0 zL
  exact hdv (S.pos hk0) (S'.pos hk0) ht
end
def horn (W:Nat)(f:Nat→Nat):Nat→Nat
 | 0=>0
 | n+1=>horn W f n*W+f n
theorem ziT(n:Nat)(h:∀ i,i<n→f i=g i):horn W f n=horn W g n:=by
 induction n with
 | zero=>rfl
 | succ n ih=>rw [horn,horn,ih fun i hi=>h i (by omega),h n (by omega)]
theorem ziU(hk:f k<g k)(he:∀ i,i<k→f i=g i)(n:Nat)(hn:k<n)(hf:∀ i,i<n→f i<W):horn W f n<horn W g n:=by
 induction n with
 | zero=>omega
 | succ n ih=>
  rw [horn,horn]
  by_cases e:k=n
  ·subst e
   rw [ziT k he]
   omega
  ·have h1:=ih (by omega) fun i hi=>hf i (by omega)
   have h2:=hf n (by omega)
   have h3:(horn W f n+1)*W≤horn W g n*W:=Nat.mul_le_mul_right _ h1
   rw [Nat.succ_mul] at h3
   omega
theorem ziV(n:Nat)(hf:∀ i,i<n→f i<W):horn W f n<W ^ n:=by
 induction n with
 | zero=>exact Nat.zero_lt_one
 | succ n ih=>
  have h1:=ih fun i hi=>hf i (by omega)
  have h2:=hf n (by omega)
  have h3:(horn W f n+1)*W≤W ^ n*W:=Nat.mul_le_mul_right _ h1
  rw [Nat.succ_mul] at h3
  rw [horn,Nat.pow_succ]
  omega
open Classical in
noncomputable def codeK (r:Nat) (H:List (List Int)) (k:Nat):Nat:=2 *(ent H k k).toNat+if rowAl r H k then 0 else 1
noncomputable def muS (W r:Nat) (H:List (List Int)):Nat:=horn W (codeK r H) r
theorem zeB{H:List (List Int)}(S:Sq r H)(hW:2 *(diag r H).toNat+1<W):∀ i,i<r→codeK r H i<W:=fun i hi=>by
 have h1:=S.diag_le hi;have h2:=S.pos hi
 unfold codeK
 split <;> omega
theorem zjE{H H':List (List Int)}(S:Sq r H)(S':Sq r H')(hd:diag r H'=diag r H)(a:Alikes r (InL H') (InL (colsL H r)))(hW:2 *(diag r H).toNat+1<W)(hno:¬ ∀ k,k<r→rowAl r H k):muS W r H'<muS W r H:=by
 obtain⟨k0,⟨hk0,hn0⟩,hle⟩:=exists_least (p:=fun k=>k<r∧¬ rowAl r H k) (Classical.byContradiction fun h=>hno fun k hk=>Classical.byContradiction fun h'=>h ⟨k,hk,h'⟩)
 have hal:∀ k,k<k0→rowAl r H k:=fun k hk=>Classical.byContradiction fun h=>by
  have:=hle k ⟨by omega,h⟩
  omega
 obtain⟨h1,h2,h3⟩:=S.first S' a hk0 hal
 refine ziU (k:=k0) ?_ (fun i hi=>?_) r hk0 (zeB S' (by rw [hd];exact hW))
 ·unfold codeK
  rw [if_neg hn0]
  have hp:=S.pos hk0;have hp':=S'.pos hk0
  by_cases e:ent H' k0 k0=ent H k0 k0
  ·rw [if_pos (h3 e),e];omega
  ·split <;> omega
 ·obtain⟨e1,e2⟩:=h1 i hi
  unfold codeK
  rw [e1,if_pos e2,if_pos (hal i hi)]
theorem VecN.drop{W:World}{off cap:Nat}{us:List Int}{nv m:Nat}(h:VecN W (.slice (some ⟨b,off,none⟩) us.length cap) us nv)(hn:n+m=us.length)(hm:0<m):VecN W (.slice (some ⟨b,off+n*2,none⟩) m (cap-n)) (us.drop n) nv:=by
 have hc:us.length≤cap:=by
  obtain⟨_,_,e,h1,-⟩:=h
  simp only [Value.slice.injEq,true_and] at e
  rw [e.2];exact h1
 have hl:(us.drop n).length=m:=by rw [List.length_drop];omega
 refine⟨_,_,by rw [hl],by rw [hl];omega,fun _=>⟨b,off+n*2,rfl,(h.at 0 (by omega)).1,fun i hi=>?_⟩⟩
 rw [hl] at hi
 obtain⟨-,neg,o,l,c,h1,h2,h3⟩:=h.at (n+i) (by omega)
 refine⟨neg,o,l,c,?_,?_,?_⟩
 ·rw [show off+n*2+i*2=off+(n+i)*2 by omega];exact h1
 ·rw [show off+n*2+i*2+1=off+(n+i)*2+1 by omega];exact h2
 ·rw [zdq];exact h3
end Go.Proofs.YtdedolkgcdlmeaaGreatDoor
