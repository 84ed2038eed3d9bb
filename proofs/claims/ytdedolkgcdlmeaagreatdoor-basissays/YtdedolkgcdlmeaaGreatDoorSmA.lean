import Derived.Test.YtdedolkgcdlmeaaGreatDoorFilW
import Derived.Deep.LoopGhost
set_option maxRecDepth 100000
set_option maxHeartbeats 3200000
set_option linter.unusedSimpArgs false
namespace Go.Proofs.YtdedolkgcdlmeaaGreatDoor
open Go.RowKit Limbs
variable {k W r b n j:Nat}{p f g:Nat→Nat}{us:List Int}
theorem zdy:∀(n:Nat) (M:Nat→Nat→Int) (c:Nat),c<n→(∀ a,a<n→M a c=0)→det n M=0
 | 0,_,c,hc,_=>absurd hc (Nat.not_lt_zero c)
 | n+1,M,c,hc,h=>by
  rw [det];refine(zk (g:=fun _=>0) fun j hj=>?_).trans (zaA _);by_cases e:j=c
  ·rw [e,h n (by omega),Int.mul_zero,Int.zero_mul]
  ·have:det n (fun a b=>M a (sk j b))=0:=by
    by_cases hlt:c<j
    ·exact zdy n _ c (by omega) fun a ha=>by
      show M a (sk j c)=0;rw [zaW hlt];exact h a (by omega)
    ·refine zdy n _ (c-1) (by omega) fun a ha=>?_;show M a (sk j (c-1))=0;rw [zdf (by omega),show c-1+1=c by omega];exact h a (by omega)
   rw [this,Int.mul_zero]
theorem ziH (n:Nat)(M:Nat→Nat→Int)(h:∀ a b,a<n→b<n→a<b→M a b=0):det n M=prodN n (fun i=>M i i):=by
 induction n with
 | zero=>rfl
 | succ n ih=>
  rw [det,zW (n+1) n (by omega) _ fun j hj hne=>by
   have:det n (fun a b=>M a (sk j b))=0:=by
    refine zdy n _ (n-1) (by omega) fun a ha=>?_;show M a (sk j (n-1))=0;rw [zdf (by omega),show n-1+1=n by omega];exact h a n (by omega) (by omega) (by omega)
   rw [this,Int.mul_zero]]
  have e:det n (fun a b=>M a (sk n b))=det n M:=zy fun a b _ hb=>by rw [zaW hb]
  rw [e,ih fun a b ha hb hab=>h a b (by omega) (by omega) hab];have:sgnN (n+n)=1:=by unfold sgnN;rw [if_pos (by omega)]
  rw [this,Int.one_mul,prodN,Int.mul_comm]
structure Sq (r:Nat)(H:List (List Int)):Prop where
 form:FormL r H (fun k=>k)
 len:H.length=r
theorem zcn{H:List (List Int)}(F:FormL r H p)(hl:H.length=r):Sq r H:=by
 have h2:∀ d k,k+d<r→p k+d≤p (k+d):=fun d=>by
  induction d with
  | zero=>exact fun k _=>Nat.le_refl _
  | succ d ih=>intro k hk;have:=ih k (by omega);have:=F.form.inc (k+d) (k+(d+1)) (by omega) (by omega);omega
 have hp:∀ k,k<r→p k=k:=fun k hk=>by
  have h3:=h2 (r-1-k) k (by omega);have h4:=F.form.lt (k+(r-1-k)) (by omega);have h5:=h2 k 0 (by omega);rw [Nat.zero_add] at h5;omega
 refine⟨⟨F.len,?_⟩,hl⟩;refine⟨fun i k h _=>h,fun i h=>by omega,fun i b hi hb=>F.form.zero i b hi (by rw [hp i (by omega)];exact hb),fun i hi=>?_,fun i k hik hk=>?_⟩
 ·have:=F.form.pos i hi;rwa [hp i (by omega)] at this
 ·have:=F.form.red i k hik hk;rwa [hp k (by omega)] at this
theorem zlS{H:List (List Int)}(F:FormL r H p)(hl:H.length=r):∀ k,k<r→p k=k:=fun k hk=>by
 have h2:∀ d k,k+d<r→p k+d≤p (k+d):=fun d=>by
  induction d with
  | zero=>exact fun k _=>Nat.le_refl _
  | succ d ih=>intro k hk;have:=ih k (by omega);have:=F.form.inc (k+d) (k+(d+1)) (by omega) (by omega);omega
 have h3:=h2 (r-1-k) k (by omega);have h4:=F.form.lt (k+(r-1-k)) (by omega);have h5:=h2 k 0 (by omega);rw [Nat.zero_add] at h5;omega
theorem zix{hs fs:List (List Int)}(G:FormL n hs p)(a:Alikes hs.length (InL fs) (InL (colsL hs n)))(hle:fs.length≤hs.length):fs.length=hs.length:=by
 obtain⟨C,hC⟩:=zQ (r:=hs.length) (n:=hs.length) (mm:=fs.length) (H:=fun i b=>ent hs b (p (hs.length-1-i))) (M:=ent fs) fun i hi=>by
  have hj:p (hs.length-1-i)<n:=G.form.lt _ (by omega);have hm:(colsL hs n).getD (p (hs.length-1-i)) []∈colsL hs n:=zq (by rw [zad];exact hj);obtain⟨d,hd⟩:=zx ((a _).2 (.base hm (zbs hs n _ hm)));refine⟨d,fun b hb=>?_⟩;have e1:=hd b hb;dsimp only at e1;rw [zbr hs n _ hj,zaq _ _ _ hb] at e1;exact e1
 have:=zaV hs.length fs.length hs.length (fun i b=>ent hs b (p (hs.length-1-i))) (ent fs) C (fun k=>hs.length-1-k) (fun k hk=>by omega)
  (fun i k hi hki=>G.form.zero (hs.length-1-k) (p (hs.length-1-i)) (by omega) (G.form.inc _ _ (by omega) (by omega)))
  (fun i hi=>G.form.pos (hs.length-1-i) (by omega)) hC
 omega
section
variable {r:Nat}{H H':List (List Int)}
theorem Sq.low (S:Sq r H)(hk:k<r)(hb:b<k):ent H k b=0:=S.form.form.zero k b (by rw [S.len];exact hk) hb
theorem Sq.pos (S:Sq r H)(hk:k<r):0<ent H k k:=S.form.form.pos k (by rw [S.len];exact hk)
theorem Sq.red (S:Sq r H){i:Nat}(hik:i<k)(hk:k<r):0≤ent H i k∧ent H i k<ent H k k:=S.form.form.red i k hik (by rw [S.len];exact hk)
def diag (r:Nat)(H:List (List Int)):Int:=prodN r (fun k=>ent H k k)
theorem Sq.one_le (S:Sq r H):1≤diag r H:=zck r _ fun _ hk=>S.pos hk
theorem Sq.diag_le (S:Sq r H)(hk:k<r):ent H k k≤diag r H:=zea r (fun k=>ent H k k) (fun _ hk=>S.pos hk) k hk
theorem Sq.ent_le (S:Sq r H)(hk:k<r)(hb:b<r):0≤ent H k b∧ent H k b≤diag r H:=by
 rcases Nat.lt_trichotomy k b with h | h | h
 ·have h1:=S.red h hb;have h2:=S.diag_le hb;omega
 ·subst h;have h1:=S.pos hk;have h2:=S.diag_le hk;omega
 ·have h1:=S.low hk h;have h2:=S.one_le;omega
theorem zav (S:Sq r H)(hj:j<r)(hb:b<r):ent (colsL H r) j b=ent H b j:=by
 show((colsL H r).getD j []).getD b 0=_;rw [zbr H r j hj,zaq _ _ _ (by rw [S.len];exact hb)];rfl
theorem zdu (S:Sq r H)(hj:j<r):Gens r (InL (colsL H r)) ((colsL H r).getD j []):=by
 have hm:(colsL H r).getD j []∈colsL H r:=zq (by rw [zad];exact hj);exact .base hm (by rw [zbs H r _ hm,S.len])
theorem Sq.step (S:Sq r H)(F:FormL r H' p)(a:Alikes r (InL H') (InL (colsL H r))):Sq r H'∧diag r H'=diag r H:=by
 have h1:=zdG F a;rw [zad] at h1;have hl:H'.length=r:=by
  obtain⟨C,hC⟩:=zQ (r:=r) (n:=r) (mm:=H'.length) (H:=fun i b=>ent (colsL H r) (r-1-i) b) (M:=ent H') fun i hi=>zx ((a _).2 (zdu S (j:=r-1-i) (by omega)));have:=zaV r H'.length r (fun i b=>ent (colsL H r) (r-1-i) b) (ent H') C (fun k=>r-1-k) (fun k hk=>by omega)
   (fun i k hi hki=>by
    show ent (colsL H r) (r-1-i) (r-1-k)=0;rw [zav S (by omega) (by omega)];exact S.low (by omega) (by omega))
   (fun i hi=>by
    show 1≤ent (colsL H r) (r-1-i) (r-1-i);rw [zav S (by omega) (by omega)];exact S.pos (by omega)) hC
  omega
 have S':=zcn F hl;refine⟨S',?_⟩;obtain⟨C,hC⟩:=zQ (r:=r) (n:=r) (mm:=r) (H:=ent H') (M:=ent (colsL H r)) fun k hk=>by
  have hm:H'.getD k []∈H':=zq (by omega);have g:=zx ((a _).1 (.base hm (F.len _ hm)));rw [zad] at g;exact g
 obtain⟨T,hT⟩:=zQ (r:=r) (n:=r) (mm:=r) (H:=ent (colsL H r)) (M:=ent H') fun k hk=>by
  have g:=zx ((a _).2 (zdu S hk));rw [hl] at g;exact g
 have d1:det r (ent H')=diag r H':=zbU r _ fun i b hi hb=>S'.low hi hb;have d2:det r (ent (colsL H r))=diag r H:=by
  rw [ziH r _ fun i b hi hb hib=>by rw [zav S hi hb];exact S.low hb hib];unfold diag;have:∀ m,m≤r→prodN m (fun i=>ent (colsL H r) i i)=prodN m (fun k=>ent H k k):=fun m=>by
   induction m with
   | zero=>exact fun _=>rfl
   | succ m ih=>intro hm;rw [prodN,prodN,ih (by omega),zav S (by omega) (by omega)]
  exact this r zL
 have e1:diag r H'=det r C*diag r H:=by
  rw [← d1,← d2,← zbu];exact zy fun x y hx hy=>hC x y hx hy
 have e2:diag r H=det r T*diag r H':=by
  rw [← d1,← d2,← zbu];exact zy fun x y hx hy=>hT x y hx hy
 have o1:=S.one_le;have o2:=S'.one_le;have up:∀ {x y c:Int},1≤x→1≤y→x=c*y→y≤x:=fun {x y c} hx hy h=>by
  rcases Int.lt_or_le 0 c with hc | hc
  ·have:=Int.mul_le_mul_of_nonneg_right (show 1≤c by omega) (show 0≤y by omega);omega
  ·have:=Int.mul_le_mul_of_nonneg_right hc (show 0≤y by omega);omega
 have:=up o2 o1 e1;have:=up o1 o2 e2;omega
theorem Sq.bound (S:Sq r H){ms:List (List Int)}(a:Alikes r (InL H) (InL ms))(hl:∀ us∈ms,us.length=r){B:Int}(hB:0≤B)(hb:∀ us∈ms,∀ j,j<r→absI (us.getD j 0)≤B):diag r H≤facP r B:=by
 obtain⟨C,hC⟩:=zQ (r:=r) (n:=r) (mm:=ms.length) (H:=ent H) (M:=ent ms) fun k hk=>by
  have hm:H.getD k []∈H:=zq (by rw [S.len];exact hk);exact zx ((a _).1 (.base hm (S.form.len _ hm)))
 obtain⟨T,hT⟩:=zQ (r:=ms.length) (n:=r) (mm:=r) (H:=ent ms) (M:=ent H) fun k hk=>by
  have hm:ms.getD k []∈ms:=zq hk;have g:=zx ((a _).2 (.base hm (hl _ hm)));rw [S.len] at g;exact g
 have d1:det r (ent H)=diag r H:=zbU r _ fun i b hi hb=>S.low hi hb;have o1:=S.one_le;obtain⟨φ,hφ,hne⟩:=zdq r ms.length (ent H) (ent ms) C (fun a b ha hb=>hC a b ha hb) (by rw [d1];omega) r zL;have hne':det r (fun a b=>ent ms (φ a) b)≠0:=by
  intro h;apply hne;have e:det r (fun a b=>if a<r then ent ms (φ a) b else ent H a b)=det r (fun a b=>ent ms (φ a) b):=zy fun a b ha _=>if_pos ha;exact e.trans h
 have hmul:det r (fun a b=>ent ms (φ a) b)=det r (fun a k=>T (φ a) k)*det r (ent H):=by
  rw [← zbu];exact zy fun a b ha hb=>hT (φ a) b (hφ a ha) hb
 have h1:=zfg (n:=r) (fun a b=>ent ms (φ a) b) B hB fun a b ha hb'=>hb _ (zq (hφ a ha)) b hb';rw [hmul,zan,d1] at h1;have hT0:det r (fun a k=>T (φ a) k)≠0:=fun h=>hne' (by rw [hmul,h,Int.zero_mul]);have h2:1≤absI (det r (fun a k=>T (φ a) k)):=by
  have:=zao (det r (fun a k=>T (φ a) k));have h3:absI (det r (fun a k=>T (φ a) k))≠0:=fun h=>hT0 (zdl.1 h);omega
 rw [zai (show 0≤diag r H by omega)] at h1;have h3:=Int.mul_le_mul_of_nonneg_right h2 (show 0≤diag r H by omega);omega
def rowAl (r:Nat)(H:List (List Int))(k:Nat):Prop:=∀ b,k<b→b<r→ent H k b=0
theorem zen (n k b:Nat)(hkb:k<b)(hb:b<n)(f:Nat→Int)(h:∀ i,i<n→i≠k→i≠b→f i=0):sumN n f=f k+f b:=by
 have e:sumN n f=sumN n (fun j=>(if j=k then f k else 0)+(if j=b then f b else 0)):=zk fun j hj=>by
  by_cases h1:j=k
  ·rw [if_pos h1,if_neg (by omega),h1,Int.add_zero]
  ·by_cases h2:j=b
   ·rw [if_neg h1,if_pos h2,h2,Int.zero_add]
   ·rw [if_neg h1,if_neg h2,h j hj h1 h2];rfl
 rw [e,zbh,zW n k (by omega) _ (fun i _ hi=>if_neg hi),zW n b hb _ (fun i _ hi=>if_neg hi),if_pos rfl,if_pos rfl]
theorem Sq.unit_row (S:Sq r H){v:List Int}(hv:Gens r (InL H) v)(hk:k<r){e:Int}(he:∀ b,b<r→v.getD b 0=if b=k then e else 0):
  (∃ t,e=t*ent H k k)∧(e=ent H k k→rowAl r H k):=by
 obtain⟨d,hd⟩:=zx hv;rw [S.len] at hd;have hd':∀ b,b<r→(if b=k then e else 0)=sumN r (fun j=>d j*ent H j b):=fun b hb=>(he b hb).symm.trans (hd b hb);have hpiv:∀ j,j<r→(∀ i,i<j→d i=0)→sumN r (fun i=>d i*ent H i j)=d j*ent H j j:=fun j hj h0=>by
  refine zW r j hj _ fun i hi hij=>?_;rcases Nat.lt_or_gt_of_ne hij with h | h
  ·rw [h0 i h,Int.zero_mul]
  ·rw [S.low hi h,Int.mul_zero]
 have hz:∀ j,j<k→d j=0:=fun j=>by
  induction j using Nat.strongRecOn with
  | _ j ih=>
   intro hj;have h1:=hd' j (by omega);rw [if_neg (by omega),hpiv j (by omega) fun i hi=>ih i hi (by omega)] at h1;have hp:=S.pos (k:=j) (by omega);rcases Int.mul_eq_zero.1 h1.symm with h | h
   ·exact h
   ·omega
 have hke:=hd' k hk;rw [if_pos rfl,hpiv k hk hz] at hke;refine⟨⟨d k,hke⟩,fun hee=>?_⟩;have hd1:d k=1:=by
  have hp:=S.pos hk;rw [hee] at hke;have:(d k-1)*ent H k k=0:=by rw [Int.sub_mul];omega
  rcases Int.mul_eq_zero.1 this with h | h <;> omega
 have key:∀ b,k<b→b<r→d b=0∧ent H k b=0:=fun b=>by
  induction b using Nat.strongRecOn with
  | _ b ih=>
   intro hkb hb;have h1:=hd' b hb;rw [if_neg (by omega),zen r k b hkb hb _ fun i hi h2 h3=>by
    rcases Nat.lt_trichotomy i k with h | h | h
    ·rw [hz i h,Int.zero_mul]
    ·exact absurd h h2
    ·rcases Nat.lt_or_gt_of_ne h3 with h4 | h4
     ·rw [(ih i h4 h hi).1,Int.zero_mul]
     ·rw [S.low hi h4,Int.mul_zero],hd1,Int.one_mul] at h1
   have hr:=S.red hkb hb;have hp:=S.pos hb;have h0:d b=0:=by
    rcases Int.lt_trichotomy (d b) 0 with h | h | h
    ·have:=Int.mul_le_mul_of_nonneg_right (show d b≤-1 by omega) (show 0≤ent H b b by omega);omega
    ·exact h
    ·have:=Int.mul_le_mul_of_nonneg_right (show 1≤d b by omega) (show 0≤ent H b b by omega);omega
   rw [h0,Int.zero_mul] at h1;exact⟨h0,by omega⟩
 exact fun b h1 h2=>(key b h1 h2).2
theorem Sq.first (S:Sq r H)(S':Sq r H')(a:Alikes r (InL H') (InL (colsL H r))){k0:Nat}(hk0:k0<r)(hal:∀ k,k<k0→rowAl r H k):
  (∀ k,k<k0→ent H' k k=ent H k k∧rowAl r H' k)∧ent H' k0 k0≤ent H k0 k0∧(ent H' k0 k0=ent H k0 k0→rowAl r H' k0):=by
 have hcol:∀ k,k≤k0→∀ b,b<r→((colsL H r).getD k []).getD b 0=if b=k then ent H k k else 0:=fun k hk b hb=>by
  have e:((colsL H r).getD k []).getD b 0=ent H b k:=zav S (by omega) hb;rw [e];rcases Nat.lt_trichotomy b k with h | h | h
  ·rw [if_neg (by omega)];exact hal b (by omega) k h (by omega)
  ·rw [if_pos h,h]
  ·rw [if_neg (by omega)];exact S.low hb h
 have hu:=fun k (hk:k≤k0)=>S'.unit_row ((a _).2 (zdu S (j:=k) (by omega))) (by omega) (hcol k hk);have hdv:∀ {x y t:Int},0<x→0<y→x=t*y→y≤x:=fun {x y t} hx hy h=>by
  rcases Int.lt_or_le 0 t with hc | hc
  ·have:=Int.mul_le_mul_of_nonneg_right (show 1≤t by omega) (show 0≤y by omega);omega
  ·have:=Int.mul_le_mul_of_nonneg_right hc (show 0≤y by omega);omega
 refine⟨fun k hk=>?_,?_,fun h=>(hu k0 zL).2 h.symm⟩
 ·obtain⟨⟨t,ht⟩,h2⟩:=hu k (by omega);have hp:=S.pos (k:=k) (by omega);have hp':=S'.pos (k:=k) (by omega);have g1:=hdv hp hp' ht;have hm:H'.getD k []∈H':=zq (by rw [S'.len];omega);obtain⟨c,hc⟩:=zx ((a _).1 (.base hm (S'.form.len _ hm)));have hck:=hc k (by omega);rw [zad] at hck;have e1:sumN r (fun j=>c j *((colsL H r).getD j []).getD k 0)=c k*ent H k k:=by
   refine(zW r k (by omega) _ fun j hj hjk=>?_).trans ?_
   ·have e:((colsL H r).getD j []).getD k 0=ent H k j:=zav S hj (by omega);rw [e];rcases Nat.lt_or_gt_of_ne hjk with h | h
    ·rw [S.low (by omega) h,Int.mul_zero]
    ·rw [hal k hk j h hj,Int.mul_zero]
   ·have e:((colsL H r).getD k []).getD k 0=ent H k k:=zav S (by omega) (by omega);rw [e]
  have g2:=hdv hp' hp (show ent H' k k=c k*ent H k k from hck.trans e1);have e3:ent H' k k=ent H k k:=by omega
  exact⟨e3,h2 e3.symm⟩
 ·obtain⟨⟨t,ht⟩,-⟩:=hu k0 zL;exact hdv (S.pos hk0) (S'.pos hk0) ht
end
def horn (W:Nat)(f:Nat→Nat):Nat→Nat
 | 0=>0
 | n+1=>horn W f n*W+f n
theorem zjI(n:Nat)(h:∀ i,i<n→f i=g i):horn W f n=horn W g n:=by
 induction n with
 | zero=>rfl
 | succ n ih=>rw [horn,horn,ih fun i hi=>h i (by omega),h n (by omega)]
theorem zjJ(hk:f k<g k)(he:∀ i,i<k→f i=g i)(n:Nat)(hn:k<n)(hf:∀ i,i<n→f i<W):horn W f n<horn W g n:=by
 induction n with
 | zero=>omega
 | succ n ih=>
  rw [horn,horn];by_cases e:k=n
  ·subst e;rw [zjI k he];omega
  ·have h1:=ih (by omega) fun i hi=>hf i (by omega);have h2:=hf n (by omega);have h3:(horn W f n+1)*W≤horn W g n*W:=Nat.mul_le_mul_right _ h1;rw [Nat.succ_mul] at h3;omega
theorem zjK(n:Nat)(hf:∀ i,i<n→f i<W):horn W f n<W ^ n:=by
 induction n with
 | zero=>exact Nat.zero_lt_one
 | succ n ih=>
  have h1:=ih fun i hi=>hf i (by omega);have h2:=hf n (by omega);have h3:(horn W f n+1)*W≤W ^ n*W:=Nat.mul_le_mul_right _ h1;rw [Nat.succ_mul] at h3;rw [horn,Nat.pow_succ];omega
open Classical in
noncomputable def codeK (r:Nat) (H:List (List Int)) (k:Nat):Nat:=2 *(ent H k k).toNat+if rowAl r H k then 0 else 1
noncomputable def muS (W r:Nat) (H:List (List Int)):Nat:=horn W (codeK r H) r
theorem zfc{H:List (List Int)}(S:Sq r H)(hW:2 *(diag r H).toNat+1<W):∀ i,i<r→codeK r H i<W:=fun i hi=>by
 have h1:=S.diag_le hi;have h2:=S.pos hi;unfold codeK;split <;> omega
theorem zkz{H H':List (List Int)}(S:Sq r H)(S':Sq r H')(hd:diag r H'=diag r H)(a:Alikes r (InL H') (InL (colsL H r)))(hW:2 *(diag r H).toNat+1<W)(hno:¬ ∀ k,k<r→rowAl r H k):muS W r H'<muS W r H:=by
 obtain⟨k0,⟨hk0,hn0⟩,hle⟩:=exists_least (p:=fun k=>k<r∧¬ rowAl r H k) (Classical.byContradiction fun h=>hno fun k hk=>Classical.byContradiction fun h'=>h ⟨k,hk,h'⟩);have hal:∀ k,k<k0→rowAl r H k:=fun k hk=>Classical.byContradiction fun h=>by
  have:=hle k ⟨by omega,h⟩;omega
 obtain⟨h1,h2,h3⟩:=S.first S' a hk0 hal;refine zjJ (k:=k0) ?_ (fun i hi=>?_) r hk0 (zfc S' (by rw [hd];exact hW))
 ·unfold codeK;rw [if_neg hn0];have hp:=S.pos hk0;have hp':=S'.pos hk0;by_cases e:ent H' k0 k0=ent H k0 k0
  ·rw [if_pos (h3 e),e];omega
  ·split <;> omega
 ·obtain⟨e1,e2⟩:=h1 i hi;unfold codeK;rw [e1,if_pos e2,if_pos (hal i hi)]
theorem VecN.drop0{W:World}{off cap:Nat}{nv m:Nat}(h:VecN W (.slice (some ⟨b,off,none⟩) us.length cap) us nv)(hn:n+m=us.length):VecN W (.slice (some ⟨b,off+n*2,none⟩) m (cap-n)) (us.drop n) nv:=by
 by_cases hm:0<m
 ·exact h.drop hn hm
 ·have hl:(us.drop n).length=m:=by rw [List.length_drop];omega
  exact⟨_,_,by rw [hl],by rw [hl];omega,fun h0=>absurd h0 (by rw [hl];exact hm)⟩
def aloneTo (hs:List (List Int))(p:Nat→Nat)(n k:Nat):Prop:=∀ i,i<k→∀ b,p i<b→b<n→ent hs i b=0
theorem zhQ{f:Nat}(hl:us.length=n):first (us.drop (f+1))<0↔∀ b,f<b→b<n→us.getD b 0=0:=by
 rw [zcM];constructor
 ·intro h b h1 h2;have:=h (b-(f+1)) (by rw [List.length_drop];omega);rw [zbX,show f+1+(b-(f+1))=b by omega] at this;exact this
 ·intro h b hb;rw [List.length_drop] at hb;rw [zbX];exact h _ (by omega) (by omega)
theorem zgC (w:World)(va:Value)(n nv:Nat)(hs:List (List Int))(p:Nat→Nat)(ha:MatN w va hs nv)(F:FormL n hs p)(hn:n≤100)(hm:hs.length≤100):
  Calls Tryz.prog 64 #[va] w fun e w'=>∃ r:Bool,e=.returned (.bool r)∧(r=true↔aloneTo hs p n hs.length)∧Below w.heap.size w w':=by
 have HA:=hide ha;have HF:=hide F;obtain⟨ao,acap,rfl,-,-⟩:=ha;clear F;go_enter Tryz.func64,Tryz.ntmps64;go_wp2;go_loopw [6] (fun x wr=>∃ k:Nat,k≤hs.length∧x=.int .i64 k∧Hid (aloneTo hs p n k)∧Hid (Below w.heap.size w wr)) (fun x _=>hs.length-(intOf x).toNat)
 case atStart=>exact⟨0,Nat.zero_le _,rfl,hide (fun i hi=>absurd hi (Nat.not_lt_zero i)),hide (zB _ _)⟩
 case round=>
  obtain⟨k,hk,rfl,HAL,HBE⟩:=hrel;by_cases hkl:k<hs.length
  ·obtain⟨rb,roff,_,e,lr,ru,cu,hru⟩:=HA.out.at k hkl;simp only [zV,true_and] at e;obtain⟨rfl,rfl⟩:=e;have hul:hs[k].length=n:=HF.out.len _ (List.getElem_mem hkl);obtain⟨hf1,hf2,hf3⟩:=HF.out.first hkl;have HE:Hid (∀ b,ent hs k b=hs[k].getD b 0):=fun b=>by unfold ent;rw [zm hkl]
   have hpn:p k<n:=hf2;generalize hs[k]=us at *;obtain⟨vb,voff,vcap,rfl⟩:=hru.form (by omega);have hcap:n≤vcap:=by
    obtain⟨_,_,e,h1,-⟩:=hru;simp only [zV,true_and] at e;omega
   have HU:=hide ((hru.below HBE.out zL).below (zB wr.heap.size wr).drew zL);have HD:Hid (VecN wr.drew (.slice (if vcap=p k+1 then some ⟨vb,voff,none⟩ else some ⟨vb,voff+(p k+1)*2,none⟩) (n-(p k+1)) (vcap-(p k+1))) (us.drop (p k+1)) nv):=by
    by_cases hvc:vcap=p k+1
    ·rw [if_pos hvc];have hl:(us.drop (p k+1)).length=n-(p k+1):=by rw [List.length_drop];omega
     exact⟨_,_,by rw [hl],by rw [hl];omega,fun h0=>absurd h0 (by rw [hl];omega)⟩
    ·rw [if_neg hvc];exact HU.out.drop0 (n:=p k+1) (m:=n-(p k+1)) (by omega)
   have HDL:Hid ((us.drop (p k+1)).length≤100):=by
    show _≤_;rw [List.length_drop];omega
   have HAD:=hide (zhQ (us:=us) (f:=p k) hul);have c1:=(HBE.out.cell (p:=⟨rb,roff+k,none⟩) lr).trans cu;have HFI:=hide (zaR wr.drew _ us nv HU.out (by omega));rw [hf1,hul] at HFI;have hrb:rb<wr.heap.size:=zT lr HBE.out.size;rw [hul] at c1;clear hru cu hf1 hf2 hf3 hul HU;generalize hpk:p k=f at *;obtain⟨f1,hf1⟩:∃ f1:Nat,f1=f+1:=⟨_,rfl⟩;have g1:f1≤n:=by omega
   have g2:IntKind.i64.wrap ((f:Int)+1)=(f1:Int):=by rw [IntKind.wrap_i64];omega
   rw [← hf1] at HD HAD HDL;have HF1:=hide hf1;have HPK:=hide hpk;clear hf1 hpk;go_wp2_with fail;refine zr (S:=(fun w'=>w'.cell? ⟨rb,roff+k,none⟩=some (.slice (some ⟨vb,voff,none⟩) n vcap))) (k:=13) (by kernel_rfl) (by exact c1) (fun hHeld=>?_);refine zc 0 9 [] ?_;try simp only [zA]
   refine zc 1 10 [] ?_;try simp only [zA]
   refine zc 2 11 [] ?_;try simp only [zA]
   refine zc 3 12 [] ?_;try simp only [zA]
   refine zc 4 13 [] ?_;try simp only [zA]
   refine zc 5 14 [] ?_;try simp only [zA]
   refine zc 6 15 [] ?_;try simp only [zA]
   refine zc 7 16 [] ?_;try simp only [zA]
   refine zf 8 (by kernel_rfl) rfl (fun K hK=>?_);go_simp;refine HFI.out.mono ?_;rintro e w1 ⟨rfl,hb1⟩;have hb1':Below wr.heap.size wr w1:=(zB _ _).drew.trans hb1;have c2:=(hb1'.cell (p:=⟨rb,roff+k,none⟩) hrb).trans c1;have HD1:=hide (HD.out.below hb1 zL);have HB1:=hide (HBE.out.trans (hb1'.mono HBE.out.size));clear hb1 hb1' HFI HD;go_wp2_with fail;refine hK.out _ _ (fun _=>c2) ?_;clear hK K hHeld;try simp only [zA]
   have hHeld1:(fun w'=>w'.cell? ⟨rb,roff+k,none⟩=some (.slice (some ⟨vb,voff,none⟩) n vcap)) w1:=c2;refine zc 9 18 [] ?_;try simp only [zA]
   refine zc 10 19 [] ?_;try simp only [zA]
   generalize (if vcap=f1 then some (⟨vb,voff,none⟩:Addr) else some ⟨vb,voff+f1*2,none⟩)=ad at *;refine zf 11 (by kernel_rfl) rfl (fun K hK=>?_);go_simp;refine(zhz w1 _ _ nv (by exact HD1.out) (by have:=HDL.out;omega)).mono ?_;rintro e w2 ⟨rfl,hb2⟩;have c3:=(hb2.cell (p:=⟨rb,roff+k,none⟩) (zT lr HB1.out.size)).trans c2;have HB2:=hide (HB1.out.trans (hb2.mono HB1.out.size));clear hb2;go_wp2_with fail;refine hK.out _ _ (fun _=>c3) ?_;clear hK K hHeld1;try simp only [zA]
   have hHeld2:(fun w'=>w'.cell? ⟨rb,roff+k,none⟩=some (.slice (some ⟨vb,voff,none⟩) n vcap)) w2:=c3;refine zc 12 21 [] ?_;try simp only [zA]
   refine zp (by kernel_rfl) ?_;clear c1 c2 c3 hHeld2 HB1 HD1;generalize hbz:decide (first (us.drop f1)<0)=bz;cases bz with
   | true=>
    have HAL':Hid (aloneTo hs p n (k+1)):=fun i hi b h1 h2=>by
     by_cases e:i=k
     ·subst e;rw [HE.out b];exact HAD.out.1 (of_decide_eq_true hbz) b (by have:=HPK.out;omega) h2
     ·exact HAL.out i (by omega) b h1 h2
    clear hbz;go_wp2;go_roundw
    case rel=>exact⟨k+1,by omega,by go_num,HAL',HB2⟩
    case measure=>simp [intOf];omega
   | false=>
    have HNO:Hid (¬ aloneTo hs p n hs.length):=fun h=>of_decide_eq_false hbz (HAD.out.2 fun b h1 h2=>by
     have:=h k hkl b (by have:=HPK.out;omega) h2
     rwa [HE.out b] at this)
    clear hbz;go_wp2;go_ret;exact⟨false,rfl,⟨fun h=>(by cases h),fun h=>absurd h HNO.out⟩,HB2.out⟩
  ·obtain rfl:k=hs.length:=by omega
   go_wp2;go_ret;exact⟨true,rfl,⟨fun _=>HAL.out,fun _=>rfl⟩,HBE.out⟩
def pivL (hs:List (List Int))(p:Nat→Nat):List Int:=(List.range hs.length).map fun k=>ent hs k (p k)
theorem zda (hs:List (List Int))(p:Nat→Nat):(pivL hs p).length=hs.length:=by simp [pivL]
theorem zcj (hs:List (List Int))(p:Nat→Nat)(k:Nat)(hk:k<hs.length):(pivL hs p).getD k 0=ent hs k (p k):=zaI _ _ k hk
theorem zlq (m:Nat)(hm:m≤1000)(W:World):(Instr.makeSlice 46 (.int .i64 (m:Int)) (.int .i64 (m:Int))).run Tryz.prog W=.ok (.slice (some ⟨W.heap.size,0,none⟩) m m) (W.alloc (.cells (madeCells #[.bool false,.slice none 0 0] (m*2)) 29)):=by
 obtain⟨i0,hi,hz0,hz1,hz2⟩:=info_parts Tryz.infoNum;have h:=run_make (P:=Tryz.prog) W 46 29 i0 (.agg #[.bool false,.slice none 0 0]) (by kernel_rfl) hi hz0 .i64 .i64 m m (by omega) (by omega) (by rw [hz2];omega) (by omega);rw [hz1,Int.toNat_natCast] at h;exact h
theorem zgD (w:World)(va:Value)(n nv:Nat)(hs:List (List Int))(p:Nat→Nat)(ha:MatN w va hs nv)(F:FormL n hs p)(hn:n≤100)(hm:hs.length≤100):
  Calls Tryz.prog 67 #[va] w fun e w'=>VecPost w (pivL hs p) nv e w':=by
 have HA:=hide ha;have HF:=hide F;obtain⟨ao,acap,rfl,-,-⟩:=ha;have hpl:=zda hs p;have hmk:=zlq hs.length (by omega);have HI:=hide (VecO.made w w (zB _ _) (pivL hs p).length nv);rw [hpl] at HI;clear F;go_enter Tryz.func67,Tryz.ntmps67;go_wp2;clear hmk;go_loopw [10] (fun x wr=>∃ k:Nat,k≤hs.length∧x=.int .i64 k∧Hid (VecO w wr w.heap.size ((pivL hs p).take k++List.replicate ((pivL hs p).length-k) 0) nv)) (fun x _=>hs.length-(intOf x).toNat)
 case atStart=>exact⟨0,Nat.zero_le _,rfl,hide (by rw [hpl];exact HI.out)⟩
 case round=>
  clear HI;obtain⟨k,hk,rfl,HI⟩:=hrel;by_cases hkl:k<hs.length
  ·obtain⟨rb,roff,_,e,lr,ru,cu,hru⟩:=HA.out.at k hkl;simp only [zV,true_and] at e;obtain⟨rfl,rfl⟩:=e;have hul:hs[k].length=n:=HF.out.len _ (List.getElem_mem hkl);obtain⟨hf1,hf2,hf3⟩:=HF.out.first hkl;have hz:(pivL hs p).getD k 0=hs[k].getD (p k) 0:=by rw [zcj hs p k hkl];unfold ent;rw [zm hkl]
   have HFS:=hide (zba (pivL hs p) k (by omega));rw [hz] at HFS;have hfl:=zaQ (pivL hs p) k (by omega);clear hz;generalize hs[k]=us at *;obtain⟨vb,voff,vcap,rfl⟩:=hru.form (by omega);obtain⟨lv,neg,lo,ll,lc,z0,z1,nz⟩:=hru.at (p k) (by omega);have hb0:=HI.out.below;have HU:=hide ((hru.below hb0 zL).below (zB wr.heap.size wr).drew zL);have c1:=(hb0.cell (p:=⟨rb,roff+k,none⟩) lr).trans cu;have c2:=(hb0.cell (p:=⟨vb,voff+p k*2,none⟩) lv).trans z0;have c3:=(hb0.cell (p:=⟨vb,voff+p k*2+1,none⟩) lv).trans z1;have HNZ:=hide (nz.below hb0 zL);have HFI:=hide (zaR wr.drew _ us nv HU.out (by omega));rw [hf1,hul] at HFI;have hrb:rb<wr.heap.size:=zT lr hb0.size;have hvb:vb<wr.heap.size:=zT lv hb0.size;rw [hul] at c1;have hpn:p k<n:=hf2;clear hru cu z0 z1 nz hf1 hf2 hf3 hul HU hb0;generalize us.getD (p k) 0=z at *;generalize hpk:p k=f at *;go_wp2_with fail;refine zr (S:=(fun w'=>w'.cell? ⟨rb,roff+k,none⟩=some (.slice (some ⟨vb,voff,none⟩) n vcap)∧w'.cell? ⟨vb,voff+f*2,none⟩=some (.bool neg)∧w'.cell? ⟨vb,voff+f*2+1,none⟩=some (.slice lo ll lc))) (k:=14) (by kernel_rfl) (by exact⟨c1,c2,c3⟩) (fun hHeld=>?_);refine zc 0 13 [14] ?_;try simp only [zA]
   refine zc 1 14 [14] ?_;try simp only [zA]
   refine zc 2 15 [14] ?_;try simp only [zA]
   refine zc 3 16 [14] ?_;try simp only [zA]
   refine zc 4 17 [14] ?_;try simp only [zA]
   refine zc 5 18 [14] ?_;try simp only [zA]
   refine zc 6 19 [14] ?_;try simp only [zA]
   refine zc 7 20 [14] ?_;try simp only [zA]
   refine zc 8 21 [14] ?_;try simp only [zA]
   refine zc 9 22 [14] ?_;try simp only [zA]
   refine zf 10 (by kernel_rfl) rfl (fun K hK=>?_);go_simp;refine HFI.out.mono ?_;rintro e w1 ⟨rfl,hb1⟩;have hb1':Below wr.heap.size wr w1:=(zB _ _).drew.trans hb1;have d1:=(hb1'.cell (p:=⟨rb,roff+k,none⟩) hrb).trans c1;have d2:=(hb1'.cell (p:=⟨vb,voff+f*2,none⟩) hvb).trans c2;have d3:=(hb1'.cell (p:=⟨vb,voff+f*2+1,none⟩) hvb).trans c3;have HI2:=hide (HI.out.later hb1');have HN1:=hide (HNZ.out.below hb1' zL);clear hb1 hb1' HFI HI HNZ;go_wp2_with fail;refine hK.out _ _ (fun _=>⟨d1,d2,d3⟩) ?_;clear hK K hHeld;try simp only [zA]
   have hHeld1:(fun w'=>w'.cell? ⟨rb,roff+k,none⟩=some (.slice (some ⟨vb,voff,none⟩) n vcap)∧w'.cell? ⟨vb,voff+f*2,none⟩=some (.bool neg)∧w'.cell? ⟨vb,voff+f*2+1,none⟩=some (.slice lo ll lc)) w1:=⟨d1,d2,d3⟩;refine zc 11 24 [14] ?_;try simp only [zA]
   refine zc 12 25 [14] ?_;try simp only [zA]
   refine zc 13 26 [14] ?_;try simp only [zA]
   obtain⟨neg0,o0,l0,c0',k0,k1,-⟩:=HI2.out.at k (by omega);have f0:=HI2.out.thaw (k*2);have f1:=HI2.out.thaw (k*2+1);have hP:=HI2.out.lt;have HN:=hide (HI2.out.set (k:=k) (by omega) HN1.out);rw [HFS.out] at HN;refine zf 14 (by kernel_rfl) rfl (fun K hK=>?_);go_simp;refine hK.out _ _ (fun h=>absurd h (by decide)) ?_;clear hK K;try simp only [zA]
   refine zp (by kernel_rfl) ?_;clear c1 c2 c3 d1 d2 d3 k0 k1 f0 f1 hHeld1 HI2 HN1 HFS;go_wp2;go_roundw
   case rel=>exact⟨k+1,by omega,by go_num,HN⟩
   case measure=>simp [intOf];omega
  ·obtain rfl:k=hs.length:=by omega
   rw [← hpl] at HI;have HFF:=hide HI.out.full;rw [hpl] at HI;clear HI;go_wp2;go_ret;exact⟨_,by rw [hpl];rfl,HFF.out⟩
end Go.Proofs.YtdedolkgcdlmeaaGreatDoor
