import Derived.Test.YtdedolkgcdlmeaaGreatDoorSmU
import Derived.Test.YtdedolkgcdlmeaaGreatDoorSmD
import Derived.Test.YtdedolkgcdlmeaaGreatDoorSmV
import Derived.Test.YtdedolkgcdlmeaaGreatDoorVecX
import Derived.Test.YtdedolkgcdlmeaaGreatDoorGcdA
namespace Go.Proofs.YtdedolkgcdlmeaaGreatDoor
open Go.RowKit Limbs
def adjM (k:Nat)(A:Nat→Nat→Int):Nat→Nat→Int:=fun j i=>det k (setRow A i (unitR j))
theorem zeo (k:Nat)(A:Nat→Nat→Int)(l i:Nat)(hl:l < k)(hi:i < k):sumN k (fun j=>A l j * adjM k A j i)=if l=i then det k A else 0:=by
 have e1:sumN k (fun j=>A l j * adjM k A j i)=det k (setRow A i (fun b=>sumN k (fun j=>A l j * unitR j b))):=(zbO k A i hi k (fun j=>A l j) unitR).symm
 have e2:det k (setRow A i (fun b=>sumN k (fun j=>A l j * unitR j b)))=det k (setRow A i (A l)):=zm fun a b _ hb=>by
  unfold setRow
  split
  ·exact zgP k (A l) b hb
  ·rfl
 rw [e1,e2]
 by_cases h:l=i
 ·rw [if_pos h,h,zgB]
 ·rw [if_neg h]
  rcases Nat.lt_or_gt_of_ne h with hlt | hlt
  ·exact zam k _ l i hlt hi fun b=>by rw [zO,zS A i (A l) h]
  ·exact zam k _ i l hlt hl fun b=>by rw [zO,zS A i (A l) h]
def clr (k:Nat)(M:Nat→Nat→Int)(p r:Nat):Int:=M p r * det k M - sumN k (fun l=>M p l * sumN k (fun j=>adjM k M l j * M j r))
theorem zc9 (k:Nat)(M:Nat→Nat→Int)(p r:Nat)(hp:p < k):clr k M p r=0:=by
 have e1:sumN k (fun l=>M p l * sumN k (fun j=>adjM k M l j * M j r))=sumN k (fun j=>sumN k (fun l=>M p l * adjM k M l j) * M j r):=by
  have e2:sumN k (fun l=>M p l * sumN k (fun j=>adjM k M l j * M j r))=sumN k (fun l=>sumN k (fun j=>M p l * adjM k M l j * M j r)):=zg fun l _=>by
   rw [← zC]
   exact zg fun j _=>by rw [Int.mul_assoc]
  rw [e2,zaG]
  exact zg fun j _=>by
   rw [Int.mul_comm (sumN _ _),← zC]
   exact zg fun l _=>by rw [Int.mul_comm]
 unfold clr
 rw [e1,zF k p hp _ fun j hj hne=>by rw [zeo k M p j hp hj,if_neg (Ne.symm hne),Int.zero_mul],zeo k M p p hp hp,if_pos rfl,Int.mul_comm]
 omega
def clrV (k:Nat)(M:Nat→Nat→Int):Nat→Nat→Int:=fun a b=>if b < k then (if a=b then 1 else 0) else if a < k then -(sumN k (fun j=>adjM k M a j * M j b)) else if a=b then det k M else 0
theorem zeJ (k m:Nat)(M:Nat→Nat→Int)(hm:k≤m)(a b:Nat)(hb:b < k):mulM m M (clrV k M) a b=M a b:=by
 show sumN m (fun l=>M a l * clrV k M l b)=_
 rw [zF m b (by omega) _ fun l _ hne=>by unfold clrV;rw [if_pos hb,if_neg hne,Int.mul_zero]]
 unfold clrV
 rw [if_pos hb,if_pos rfl,Int.mul_one]
theorem zeL (k:Nat)(M:Nat→Nat→Int)(a b:Nat)(hb:¬ b < k):sumN k (fun l=>M a l * clrV k M l b)=- sumN k (fun l=>M a l * sumN k (fun j=>adjM k M l j * M j b)):=by
 rw [← zap]
 refine zg fun l hl=>?_
 unfold clrV
 rw [if_neg hb,if_pos hl,Int.mul_neg]
theorem zeK (k:Nat)(M:Nat→Nat→Int)(a:Nat):mulM (k+1) M (clrV k M) a k=clr k M a k:=by
 show sumN k (fun l=>M a l * clrV k M l k)+M a k * clrV k M k k=_
 rw [zeL k M a k (Nat.lt_irrefl k)]
 unfold clr clrV
 rw [if_neg (Nat.lt_irrefl k),if_neg (Nat.lt_irrefl k),if_pos rfl]
 omega
theorem zbL (k:Nat)(M:Nat→Nat→Int)(a b:Nat)(hb:b=k∨b=k+1):mulM (k+2) M (clrV k M) a b=clr k M a b:=by
 show sumN k (fun l=>M a l * clrV k M l b)+M a k * clrV k M k b+M a (k+1) * clrV k M (k+1) b=_
 rw [zeL k M a b (by omega)]
 unfold clr clrV
 rcases hb with rfl | rfl
 ·rw [if_neg (Nat.lt_irrefl b),if_neg (Nat.lt_irrefl b),if_pos rfl,if_neg (Nat.lt_irrefl b),if_neg (by omega),if_neg (by omega),Int.mul_zero]
  omega
 ·rw [if_neg (by omega),if_neg (by omega),if_neg (by omega),if_neg (by omega),if_neg (by omega),if_pos rfl,Int.mul_zero]
  omega
theorem zeI (k:Nat)(M:Nat→Nat→Int):det (k+1) (clrV k M)=det k M∧det (k+2) (clrV k M)=det k M * det k M:=by
 have tri:∀ a b,b < a→clrV k M a b=0:=fun a b h=>by
  unfold clrV
  by_cases hb:b < k
  ·rw [if_pos hb,if_neg (by omega)]
  ·rw [if_neg hb,if_neg (by omega),if_neg (by omega)]
 have one:∀ q,q≤k→prodN q (fun i=>clrV k M i i)=1:=fun q=>by
  induction q with
  | zero=>exact fun _=>rfl
  | succ q ih=>
   intro hq
   rw [prodN,ih (by omega)]
   unfold clrV
   rw [if_pos (by omega),if_pos rfl]
   rfl
 have d1:clrV k M k k=det k M:=by unfold clrV;rw [if_neg (by omega),if_neg (by omega),if_pos rfl]
 have d2:clrV k M (k+1) (k+1)=det k M:=by unfold clrV;rw [if_neg (by omega),if_neg (by omega),if_pos rfl]
 refine⟨?_,?_⟩
 ·rw [zaB (k+1) _ fun a b _ h=>tri a b h,prodN,one k (Nat.le_refl k),d1,Int.one_mul]
 ·rw [zaB (k+2) _ fun a b _ h=>tri a b h,prodN,prodN,one k (Nat.le_refl k),d1,d2,Int.one_mul]
theorem zcq (k:Nat)(W:Nat→Nat→Int)(h:∀ a,a < k→W a k=0):det (k+1) W=W k k * det k W:=by
 rw [det,zF (k+1) k (by omega) _ fun j hj hne=>by
  have:det k (fun a b=>W a (sk j b))=0:=zaU k _ (k - 1) (by omega) fun a ha=>by
   show W a (sk j (k - 1))=0
   rw [zav (by omega),show k - 1+1=k by omega]
   exact h a ha
  rw [this,Int.mul_zero]]
 have e:det k (fun a b=>W a (sk k b))=det k W:=zm fun a b _ hb=>by rw [zR hb]
 have s:sgnN (k+k)=1:=by unfold sgnN;rw [if_pos (by omega)]
 rw [e,s,Int.one_mul]
theorem zie (k:Nat)(W:Nat→Nat→Int)(h:∀ a b,a < k→(b=k∨b=k+1)→W a b=0):det (k+2) W=(W k k * W (k+1) (k+1) - W k (k+1) * W (k+1) k) * det k W:=by
 have minor:∀ j,j < k→det (k+1) (fun a b=>W a (sk j b))=0:=fun j hj=>by
  rw [zcq k _ fun a ha=>by
   show W a (sk j k)=0
   rw [zav (by omega)];exact h a (k+1) ha (.inr rfl)]
  have:det k (fun a b=>W a (sk j b))=0:=zaU k _ (k - 1) (by omega) fun a ha=>by
   show W a (sk j (k - 1))=0
   rw [zav (by omega),show k - 1+1=k by omega]
   exact h a k ha (.inl rfl)
  rw [this,Int.mul_zero]
 have m0:det (k+1) (fun a b=>W a (sk k b))=W k (k+1) * det k W:=by
  rw [zcq k _ fun a ha=>by
   show W a (sk k k)=0
   rw [zav (by omega)];exact h a (k+1) ha (.inr rfl)]
  have e:det k (fun a b=>W a (sk k b))=det k W:=zm fun a b _ hb=>by rw [zR hb]
  rw [e,zav (by omega)]
 have m1:det (k+1) (fun a b=>W a (sk (k+1) b))=W k k * det k W:=by
  rw [zcq k _ fun a ha=>by
   show W a (sk (k+1) k)=0
   rw [zR (by omega)];exact h a k ha (.inl rfl)]
  have e:det k (fun a b=>W a (sk (k+1) b))=det k W:=zm fun a b _ hb=>by rw [zR (by omega)]
  rw [e,zR (by omega)]
 rw [det]
 show sumN k (fun j=>sgnN (k+1+j) * W (k+1) j * det (k+1) (fun a b=>W a (sk j b)))+sgnN (k+1+k) * W (k+1) k * det (k+1) (fun a b=>W a (sk k b))+sgnN (k+1+(k+1)) * W (k+1) (k+1) * det (k+1) (fun a b=>W a (sk (k+1) b))=_
 have z:sumN k (fun j=>sgnN (k+1+j) * W (k+1) j * det (k+1) (fun a b=>W a (sk j b)))=0:=(zg (g:=fun _=>0) fun j hj=>by rw [minor j hj,Int.mul_zero]).trans (zX k)
 have s0:sgnN (k+1+k)=-1:=by unfold sgnN;rw [if_neg (by omega)]
 have s1:sgnN (k+1+(k+1))=1:=by unfold sgnN;rw [if_pos (by omega)]
 rw [z,m0,m1,s0,s1,Int.one_mul,Int.sub_mul]
 have e1:-1 * W (k+1) k *(W k (k+1) * det k W)=-(W k (k+1) * W (k+1) k * det k W):=by
  rw [Int.neg_mul,Int.one_mul,Int.neg_mul,← Int.mul_assoc,Int.mul_comm (W (k+1) k)]
 have e2:W (k+1) (k+1) *(W k k * det k W)=W k k * W (k+1) (k+1) * det k W:=by
  rw [← Int.mul_assoc,Int.mul_comm (W (k+1) (k+1))]
 rw [e1,e2]
 omega
def ix (k p a:Nat):Nat:=if a < k then a else p
def ix2 (k p q a:Nat):Nat:=if a < k then a else if a=k then p else q
def bord (k:Nat)(M:Nat→Nat→Int)(p r:Nat):Int:=det (k+1) (fun a b=>M (ix k p a) (ix k r b))
def bord2 (k:Nat)(M:Nat→Nat→Int)(p q r s:Nat):Int:=det (k+2) (fun a b=>M (ix2 k p q a) (ix2 k r s b))
theorem zeM (k:Nat)(M:Nat→Nat→Int)(f g:Nat→Nat)(hf:∀ a,a < k→f a=a)(hg:∀ a,a < k→g a=a)(p r:Nat):clr k (fun a b=>M (f a) (g b)) p r=clr k M (f p) (g r):=by
 have e0:det k (fun a b=>M (f a) (g b))=det k M:=zm fun a b ha hb=>by rw [hf a ha,hg b hb]
 have e1:∀ l j,l < k→j < k→adjM k (fun a b=>M (f a) (g b)) l j=adjM k M l j:=fun l j _ hj=>zm fun a b ha hb=>by
  unfold setRow
  split
  ·rfl
  ·show M (f a) (g b)=M a b
   rw [hf a ha,hg b hb]
 unfold clr
 rw [e0]
 have e2:sumN k (fun l=>M (f p) (g l) * sumN k (fun j=>adjM k (fun a b=>M (f a) (g b)) l j * M (f j) (g r)))=sumN k (fun l=>M (f p) l * sumN k (fun j=>adjM k M l j * M j (g r))):=zg fun l hl=>by
  rw [hg l hl]
  congr 1
  exact zg fun j hj=>by rw [e1 l j hl hj,hf j hj]
 rw [e2]
theorem zbK {k:Nat}{M:Nat→Nat→Int}(h0:det k M≠0)(p r:Nat):bord k M p r=clr k M p r:=by
 have hix:∀ q a,a < k→ix k q a=a:=fun q a ha=>if_pos ha
 have e0:det k (fun a b=>M (ix k p a) (ix k r b))=det k M:=zm fun a b ha hb=>by rw [hix p a ha,hix r b hb]
 have d:=zaA (k+1) (fun a b=>M (ix k p a) (ix k r b)) (clrV k (fun a b=>M (ix k p a) (ix k r b)))
 rw [(zeI k _).1,zcq k _ fun a ha=>by rw [zeK,zc9 k _ a k ha],zeK,zeM k M (ix k p) (ix k r) (hix p) (hix r)] at d
 have e1:det k (mulM (k+1) (fun a b=>M (ix k p a) (ix k r b)) (clrV k (fun a b=>M (ix k p a) (ix k r b))))=det k M:=by
  rw [← e0]
  exact zm fun a b _ hb=>zeJ k (k+1) _ (by omega) a b hb
 rw [e1,e0,show ix k p k=p from if_neg (by omega),show ix k r k=r from if_neg (by omega)] at d
 exact(Int.eq_of_mul_eq_mul_right h0 d).symm
theorem sylvester {k:Nat}{M:Nat→Nat→Int}(h0:det k M≠0)(p q r s:Nat):bord2 k M p q r s * det k M=bord k M p r * bord k M q s - bord k M p s * bord k M q r:=by
 have hix:∀ q q' a,a < k→ix2 k q q' a=a:=fun q q' a ha=>if_pos ha
 have e0:det k (fun a b=>M (ix2 k p q a) (ix2 k r s b))=det k M:=zm fun a b ha hb=>by rw [hix p q a ha,hix r s b hb]
 have d:=zaA (k+2) (fun a b=>M (ix2 k p q a) (ix2 k r s b)) (clrV k (fun a b=>M (ix2 k p q a) (ix2 k r s b)))
 rw [(zeI k _).2,zie k _ fun a b ha hb=>by rw [zbL _ _ _ _ hb,zc9 k _ a b ha],zbL _ _ _ _ (.inl rfl),zbL _ _ _ _ (.inr rfl),zbL _ _ _ _ (.inr rfl),zbL _ _ _ _ (.inl rfl)] at d
 simp only [zeM k M (ix2 k p q) (ix2 k r s) (hix p q) (hix r s)] at d
 have e1:det k (mulM (k+2) (fun a b=>M (ix2 k p q a) (ix2 k r s b)) (clrV k (fun a b=>M (ix2 k p q a) (ix2 k r s b))))=det k M:=by
  rw [← e0]
  exact zm fun a b _ hb=>zeJ k (k+2) _ (by omega) a b hb
 have i0:∀ x y,ix2 k x y k=x:=fun x y=>by unfold ix2;rw [if_neg (by omega),if_pos rfl]
 have i1:∀ x y,ix2 k x y (k+1)=y:=fun x y=>by unfold ix2;rw [if_neg (by omega),if_neg (by omega)]
 rw [e1,e0,i0,i0,i1,i1] at d
 rw [zbK h0,zbK h0,zbK h0,zbK h0]
 rw [← Int.mul_assoc] at d
 exact(Int.eq_of_mul_eq_mul_right h0 d).symm
theorem bareiss {k:Nat}{M:Nat→Nat→Int}(h0:det k M≠0)(i j:Nat):bord k M k k * bord k M i j - bord k M i k * bord k M k j=bord (k+1) M i j * det k M:=by
 have e:bord2 k M k i k j=bord (k+1) M i j:=zm fun a b _ _=>by
  have:∀ x c,ix2 k k x c=ix (k+1) x c:=fun x c=>by
   unfold ix2 ix
   by_cases h1:c < k
   ·rw [if_pos h1,if_pos (by omega)]
   ·rw [if_neg h1]
    by_cases h2:c=k
    ·rw [if_pos h2,if_pos (by omega),h2]
    ·rw [if_neg h2,if_neg (by omega)]
  rw [this,this]
 rw [← e,sylvester h0 k i k j,Int.mul_comm (bord k M i k)]
theorem zhE (k:Nat)(M:Nat→Nat→Int):bord k M k k=det (k+1) M:=zm fun a b ha hb=>by
 have:∀ c,c < k+1→ix k k c=c:=fun c hc=>by
  unfold ix
  by_cases h:c < k
  ·rw [if_pos h]
  ·rw [if_neg h];omega
 rw [this a ha,this b hb]
theorem zhF (M:Nat→Nat→Int)(i j:Nat):bord 0 M i j=M i j:=by
 unfold bord
 rw [det]
 show 0+sgnN (0+0) * M (ix 0 i 0) (ix 0 j 0) * 1=_
 have:sgnN (0+0)=1:=rfl
 rw [this]
 show 0+1 * M i j * 1=_
 omega
theorem zhD {k n:Nat}{M:Nat→Nat→Int}(h0:det k M≠0)(hkn:k < n)(h:∀ i,k≤i→i < n→bord k M i k=0):det n M=0:=by
 -- the first k+1 places of all rows: each row times the determinant of the first ones is made of the first k rows there
 have hc:∀ i,i < n→clr k M i k=0:=fun i hi=>by
  by_cases hk:i < k
  ·exact zc9 k M i k hk
  ·rw [← zbK h0];exact h i (by omega) hi
 -- so place k,times that determinant,is made of the places ahead
 have hcol:∀ i,i < n→M i k * det k M=sumN k (fun l=>M i l * sumN k (fun j=>adjM k M l j * M j k)):=fun i hi=>by
  have:=hc i hi
  unfold clr at this
  omega
 have d:=zaA n M (fun a b=>if b=k then (if a=k then det k M else if a < k then -(sumN k (fun j=>adjM k M a j * M j k)) else 0) else if a=b then 1 else 0)
 have z:det n (mulM n M (fun a b=>if b=k then (if a=k then det k M else if a < k then -(sumN k (fun j=>adjM k M a j * M j k)) else 0) else if a=b then 1 else 0))=0:=zaU n _ k hkn fun a ha=>by
  show sumN n (fun l=>M a l *(if k=k then (if l=k then det k M else if l < k then -(sumN k (fun j=>adjM k M l j * M j k)) else 0) else if l=k then 1 else 0))=0
  rw [show n=(k+1)+(n - (k+1)) by omega,zgO (k+1) _ _ fun l h1 _=>by rw [if_pos rfl,if_neg (by omega),if_neg (by omega),Int.mul_zero]]
  show sumN k (fun l=>M a l *(if k=k then (if l=k then det k M else if l < k then -(sumN k (fun j=>adjM k M l j * M j k)) else 0) else if l=k then 1 else 0))+M a k *(if k=k then (if k=k then det k M else if k < k then -(sumN k (fun j=>adjM k M k j * M j k)) else 0) else if k=k then 1 else 0)=0
  have e:sumN k (fun l=>M a l *(if k=k then (if l=k then det k M else if l < k then -(sumN k (fun j=>adjM k M l j * M j k)) else 0) else if l=k then 1 else 0))=- sumN k (fun l=>M a l * sumN k (fun j=>adjM k M l j * M j k)):=by
   rw [← zap]
   exact zg fun l hl=>by rw [if_pos rfl,if_neg (by omega),if_pos hl,Int.mul_neg]
  rw [e,← hcol a ha,if_pos rfl,if_pos rfl]
  omega
 have t:det n (fun a b=>if b=k then (if a=k then det k M else if a < k then -(sumN k (fun j=>adjM k M a j * M j k)) else 0) else if a=b then 1 else 0)=det k M:=by
  rw [zaB n _ fun a b _ hb=>by
   by_cases e:b=k
   ·rw [if_pos e,if_neg (by omega),if_neg (by omega)]
   ·rw [if_neg e,if_neg (by omega)]]
  have one:∀ q,prodN q (fun i=>if i=k then (if i=k then det k M else if i < k then -(sumN k (fun j=>adjM k M i j * M j k)) else 0) else if i=i then (1:Int) else 0)=if k < q then det k M else 1:=fun q=>by
   induction q with
   | zero=>rfl
   | succ q ih=>
    rw [prodN,ih]
    by_cases e:q=k
    ·rw [if_pos e,if_pos e,if_neg (by omega),if_pos (by omega),Int.one_mul]
    ·rw [if_neg e,if_pos rfl,Int.mul_one]
     by_cases h2:k < q
     ·rw [if_pos h2,if_pos (by omega)]
     ·rw [if_neg h2,if_neg (by omega)]
  rw [one n,if_pos hkn]
 rw [z,t] at d
 rcases Int.mul_eq_zero.1 d.symm with h | h
 ·exact h
 ·exact absurd h h0
structure BarI (n k:Nat)(M:Nat→Nat→Int)(B:Int)(t last:Int)(R P:Nat→Nat→Int):Prop where
 sgn:t * t=1
 dets:det n P=t * det n M
 piv:last=det k P
 ne:last≠0
 ents:∀ i j,k≤i→i < n→k≤j→j < n→R i j=bord k P i j
 small:∀ i j,i < n→j < n→absI (P i j)≤B
section
variable {n k:Nat}{M R P:Nat→Nat→Int}{B t last:Int}
theorem BarI.start (h:∀ i j,i < n→j < n→absI (M i j)≤B):BarI n 0 M B 1 1 M M:=
 ⟨rfl,(Int.one_mul _).symm,rfl,by decide,fun i j _ _ _ _=>(zhF M i j).symm,h⟩
theorem BarI.none (C:BarI n k M B t last R P)(hk:k < n)(h:∀ i,k≤i→i < n→R i k=0):det n M=0:=by
 have h0:det k P≠0:=by rw [← C.piv];exact C.ne
 have h1:=zhD h0 hk fun i h1 h2=>by rw [← C.ents i k h1 h2 (Nat.le_refl k) hk];exact h i h1 h2
 rw [C.dets] at h1
 rcases Int.mul_eq_zero.1 h1 with h2 | h2
 ·have:=C.sgn;rw [h2] at this;cases this
 ·exact h2
def sw (i k a:Nat):Nat:=if a=i then k else if a=k then i else a
theorem zgQ (M:Nat→Nat→Int)(i k a b:Nat):swapRows M i k a b=M (sw i k a) b:=by
 unfold swapRows sw
 split
 ·rfl
 ·split <;> rfl
theorem BarI.step (C:BarI n k M B t last R P)(hk:k < n)(h0:R k k≠0){R':Nat→Nat→Int}(h:∀ i j,k < i→i < n→k < j→j < n→R' i j * last=R k k * R i j - R i k * R k j):BarI n (k+1) M B t (R k k) R' P:=by
 have hd:det k P≠0:=by rw [← C.piv];exact C.ne
 refine⟨C.sgn,C.dets,?_,h0,fun i j h1 h2 h3 h4=>?_,C.small⟩
 ·rw [C.ents k k (Nat.le_refl k) hk (Nat.le_refl k) hk,zhE]
 ·have e:=h i j h1 h2 h3 h4
  rw [C.ents k k (Nat.le_refl k) hk (Nat.le_refl k) hk,C.ents i j (by omega) h2 (by omega) h4,C.ents i k (by omega) h2 (Nat.le_refl k) hk,C.ents k j (Nat.le_refl k) hk (by omega) h4,bareiss hd i j,← C.piv] at e
  exact Int.eq_of_mul_eq_mul_right C.ne e
theorem BarI.goes (C:BarI n k M B t last R P)(hk:k < n){i j:Nat}(h1:k < i)(h2:i < n)(h3:k≤j)(h4:j < n):R k k * R i j - R i k * R k j=bord (k+1) P i j * last:=by
 have hd:det k P≠0:=by rw [← C.piv];exact C.ne
 rw [C.ents k k (Nat.le_refl k) hk (Nat.le_refl k) hk,C.ents i j (by omega) h2 h3 h4,C.ents i k (by omega) h2 (Nat.le_refl k) hk,C.ents k j (Nat.le_refl k) hk h3 h4,bareiss hd i j,← C.piv]
theorem BarI.congr (C:BarI n k M B t last R P){R':Nat→Nat→Int}(h:∀ i j,i < n→j < n→R' i j=R i j):BarI n k M B t last R' P:=
 ⟨C.sgn,C.dets,C.piv,C.ne,fun i j h1 h2 h3 h4=>(h i j h2 h4).trans (C.ents i j h1 h2 h3 h4),C.small⟩
theorem BarI.fin (C:BarI n n M B t last R P):t * last=det n M:=by
 rw [C.piv,C.dets,← Int.mul_assoc,C.sgn,Int.one_mul]
end
theorem zkn {s t u v x y d:Int}(h:s * t=u * v):s * x *(t * y * d)=u * y *(v * x * d):=by
 have e1:s * x *(t * y * d)=(s * t) *(x * y * d):=by ac_rfl
 have e2:u * y *(v * x * d)=(u * v) *(x * y * d):=by ac_rfl
 rw [e1,e2,h]
theorem zeS (m:Nat)(M:Nat→Nat→Int)(h0:∀ X,det m (trM X)=det m X)(h1:∀ X,det (m+1) (trM X)=det (m+1) X):
  det (m+2) M=sumN (m+1) (fun j=>sumN (m+1) (fun i=>sgnN (m+1+j) * M (m+1) j *(sgnN (m+i) * M i (m+1) * det m (fun a b=>M (sk i a) (sk j b)))))+M (m+1) (m+1) * det (m+1) M:=by
 rw [det,sumN]
 have e1:sgnN (m+1+(m+1)) * M (m+1) (m+1) * det (m+1) (fun a b=>M a (sk (m+1) b))=M (m+1) (m+1) * det (m+1) M:=by
  rw [show sgnN (m+1+(m+1))=1 by unfold sgnN;rw [if_pos (by omega)],Int.one_mul]
  congr 1
  exact zm fun a b _ hb=>by rw [zR hb]
 rw [e1]
 congr 1
 refine zg fun j hj=>?_
 rw [zC]
 congr 1
 rw [← h1,det]
 refine zg fun i hi=>?_
 have e2:trM (fun a b=>M a (sk j b)) m i=M i (m+1):=by
  show M i (sk j m)=_
  rw [zav (by omega)]
 rw [e2]
 congr 1
 exact h0 (fun a b=>M (sk i a) (sk j b))
theorem zih:∀(n:Nat) (M:Nat→Nat→Int),det n (trM M)=det n M:=by
 have key:∀ n,(∀ M,det n (trM M)=det n M)∧∀ M,det (n+1) (trM M)=det (n+1) M:=fun n=>by
  induction n with
  | zero=>exact⟨fun _=>rfl,fun _=>rfl⟩
  | succ m ih=>
   refine⟨ih.2,fun M=>?_⟩
   rw [zeS m (trM M) ih.1 ih.2,zeS m M ih.1 ih.2,zaG,ih.2 M]
   congr 1
   refine zg fun j hj=>zg fun i hi=>?_
   have e:det m (fun a b=>trM M (sk j a) (sk i b))=det m (fun a b=>M (sk i a) (sk j b)):=ih.1 (fun a b=>M (sk i a) (sk j b))
   rw [e]
   exact zkn (by rw [zgC,zgC];congr 1;omega)
 exact fun n=>(key n).1
def Dv (k m n:Nat)(A:Nat→Nat→Int)(g:Int):Prop:=∀ f c:Nat→Nat,(∀ i,i < k→f i < m)→(∀ i,i < k→c i < n)→g ∣ det k (fun a b=>A (f a) (c b))
theorem zdm {g:Int}(n:Nat)(f:Nat→Int)(h:∀ i,i < n→g ∣ f i):g ∣ sumN n f:=by
 induction n with
 | zero=>exact Int.dvd_zero g
 | succ n ih=>exact Int.dvd_add (ih fun i hi=>h i (by omega)) (h n (by omega))
section
variable {k m m' n n':Nat}{A B T V:Nat→Nat→Int}{g:Int}
theorem Dv.congr (h:Dv k m n A g)(e:∀ i j,i < m→j < n→B i j=A i j):Dv k m n B g:=fun f c hf hc=>by
 rw [zm fun a b ha hb=>e (f a) (c b) (hf a ha) (hc b hb)]
 exact h f c hf hc
theorem Dv.tr (h:Dv k m n A g):Dv k n m (trM A) g:=fun f c hf hc=>by
 have e:det k (fun a b=>trM A (f a) (c b))=det k (fun a b=>A (c a) (f b)):=zih k (fun a b=>A (c a) (f b))
 rw [e]
 exact h c f hc hf
theorem Dv.left (h:Dv k m n A g)(e:∀ a b,a < m'→b < n→B a b=sumN m (fun l=>T a l * A l b)):Dv k m' n B g:=fun f c hf hc=>by
 have key:∀ q,q≤k→∀ φ:Nat→Nat,(∀ i,q≤i→i < k→φ i < m)→g ∣ det k (fun a b=>if a < q then sumN m (fun l=>T (f a) l * A l (c b)) else A (φ a) (c b)):=fun q=>by
  induction q with
  | zero=>
   intro _ φ hφ
   rw [zm (M':=fun a b=>A (φ a) (c b)) fun a b _ _=>if_neg (Nat.not_lt_zero a)]
   exact h φ c (fun i hi=>hφ i (Nat.zero_le i) hi) hc
  | succ q ih=>
   intro hq φ hφ
   have e1:det k (fun a b=>if a < q+1 then sumN m (fun l=>T (f a) l * A l (c b)) else A (φ a) (c b))=det k (setRow (fun a b=>if a < q then sumN m (fun l=>T (f a) l * A l (c b)) else A (φ a) (c b)) q (fun b=>sumN m (fun l=>T (f q) l * A l (c b)))):=zm fun a b _ _=>by
    by_cases ha:a=q
    ·subst ha
     rw [zO,if_pos (by omega)]
    ·rw [zS _ _ _ ha]
     by_cases hl:a < q
     ·rw [if_pos (by omega),if_pos hl]
     ·rw [if_neg (by omega),if_neg hl]
   rw [e1,zbO k _ q (by omega) m (fun l=>T (f q) l) (fun l b=>A l (c b))]
   refine zdm m _ fun l hl=>?_
   have e2:det k (setRow (fun a b=>if a < q then sumN m (fun l=>T (f a) l * A l (c b)) else A (φ a) (c b)) q (fun b=>A l (c b)))=det k (fun a b=>if a < q then sumN m (fun l=>T (f a) l * A l (c b)) else A (if a=q then l else φ a) (c b)):=zm fun a b _ _=>by
    by_cases ha:a=q
    ·subst ha
     rw [zO,if_neg (by omega),if_pos rfl]
    ·rw [zS _ _ _ ha,if_neg ha]
   obtain⟨x,hx⟩:=ih (by omega) (fun a=>if a=q then l else φ a) fun i h1 h2=>by
    show(if i=q then l else φ i) < m
    by_cases hi:i=q
    ·rw [if_pos hi];exact hl
    ·rw [if_neg hi];exact hφ i (by omega) h2
   exact⟨T (f q) l * x,by rw [e2,hx];ac_rfl⟩
 have h1:=key k (Nat.le_refl k) (fun _=>0) fun i h1 h2=>absurd h1 (by omega)
 rw [zm (M':=fun a b=>B (f a) (c b)) fun a b ha hb=>by rw [if_pos ha,e (f a) (c b) (hf a ha) (hc b hb)]] at h1
 exact h1
theorem Dv.right (h:Dv k m n A g)(e:∀ a b,a < m→b < n'→B a b=sumN n (fun l=>A a l * V l b)):Dv k m n' B g:=
 (h.tr.left (B:=trM B) (T:=trM V) (m':=n') fun a b ha hb=>by
  show B b a=_
  rw [e b a hb ha]
  exact zg fun l _=>Int.mul_comm _ _).tr
theorem Dv.equ {r:Nat}(h:Dv k r r A g)(q:Equ r A B):Dv k r r B g:=by
 obtain⟨U,U',V,V',-,-,e⟩:=q
 exact(h.left (B:=mulM r U A) (T:=U) fun a b _ _=>rfl).right (V:=V) fun a b ha hb=>e a b ha hb
theorem zdh (k:Nat)(z:Nat→Int):det k (dgM z)=prodN k z:=by
 rw [zaB k _ fun a b _ hb=>by unfold dgM;rw [if_neg (by omega)]]
 exact zcc fun i _=>by unfold dgM;rw [if_pos rfl]
theorem ze3 {r:Nat}{z:Nat→Int}(hc:∀ i j,i < j→j < r→∃ p,z j=p * z i):∀ k,k≤r→Dv k r r (dgM z) (prodN k z):=fun k=>by
 induction k with
 | zero=>intro _ f c _ _;exact⟨1,rfl⟩
 | succ k ih=>
  intro hk f c hf hcc
  by_cases hex:∃ a,a≤k∧k≤f a
  ·obtain⟨a,ha,hfa⟩:=hex
   have main:∀ f':Nat→Nat,(∀ i,i < k+1→f' i < r)→k≤f' k→prodN (k+1) z ∣ det (k+1) (fun a b=>dgM z (f' a) (c b)):=fun f' hf' hk'=>by
    rw [det]
    refine zdm (k+1) _ fun j hj=>?_
    obtain⟨x,hx⟩:=ih (by omega) f' (fun b=>c (sk j b)) (fun i hi=>hf' i (by omega)) fun i hi=>hcc _ (by unfold sk;split <;> omega)
    obtain⟨y,hy⟩:∃ y,dgM z (f' k) (c j)=z k * y:=by
     unfold dgM
     split
     ·by_cases e:k=f' k
      ·exact⟨1,by rw [← e,Int.mul_one]⟩
      ·obtain⟨p,hp⟩:=hc k (f' k) (by omega) (hf' k (by omega))
       exact⟨p,by rw [hp,Int.mul_comm]⟩
     ·exact⟨0,by rw [Int.mul_zero]⟩
    rw [hx,hy]
    exact⟨sgnN (k+j) * y * x,by show _=prodN k z * z k * _;ac_rfl⟩
   by_cases e:a=k
   ·subst e
    exact main f hf hfa
   ·have h1:=main (fun i=>f (sw a k i)) (fun i hi=>hf _ (by unfold sw;split <;>(try split) <;> omega)) (by show k≤f (sw a k k);unfold sw;rw [if_neg (Ne.symm e),if_pos rfl];exact hfa)
    have h2:det (k+1) (fun i b=>dgM z (f (sw a k i)) (c b))=- det (k+1) (fun i b=>dgM z (f i) (c b)):=by
     rw [← zcr (k+1) _ a k (by omega) (by omega)]
     exact zm fun i b _ _=>by rw [zgQ]
    rw [h2] at h1
    exact Int.dvd_neg.1 h1
  ·obtain⟨i,l,h1,h2,h3⟩:=pigeon k f fun i hi=>by
    rcases Nat.lt_or_ge (f i) k with h | h
    ·exact h
    ·exact absurd ⟨i,hi,h⟩ hex
   rw [zam (k+1) _ i l h1 (by omega) fun b=>by rw [h3]]
   exact Int.dvd_zero _
end
theorem zct {k n:Nat}{g:Int}{F G:List (List Int)}(hF:∀ u∈F,u.length=n)(a:Alikes n (InL F) (InL G))(h:Dv k G.length n (ent G) g):Dv k F.length n (ent F) g:=by
 obtain⟨C,hC⟩:=zJ (r:=F.length) (n:=n) (mm:=G.length) (H:=ent F) (M:=ent G) fun i hi=>by
  have hm:F.getD i []∈F:=zr hi
  exact zx ((a _).1 (.base hm (hF _ hm)))
 exact h.left (T:=C) fun x y hx hy=>hC x y hx hy
theorem ze8 {ms:List (List Int)}{n j b:Nat}(hj:j < n)(hb:b < ms.length):ent (colsL ms n) j b=ent ms b j:=by
 unfold ent
 rw [zaR ms n j hj,zbs ms (fun r=>r.getD j 0) b hb]
theorem ze2 {k n:Nat}{g:Int}{ms:List (List Int)}:Dv k ms.length n (ent ms) g↔Dv k n ms.length (ent (colsL ms n)) g:=
 ⟨fun h=>h.tr.congr fun _ _ hi hj=>ze8 hi hj,fun h=>h.tr.congr fun _ _ hi hj=>(ze8 hj hi).symm⟩
theorem zgI {n:Nat}{ms hs fs:List (List Int)}{p:Nat→Nat}{ys:List Int}{D:Int}(F:FormL n hs p)(a:Alikes n (InL hs) (InL ms))(hm:∀ u∈ms,u.length=n)(T:TurnF n hs fs)(C:ChI hs.length ys D (ent fs) hs.length (hs.length+1))(k:Nat)(g:Int):
  Dv k ms.length n (ent ms) g↔Dv k ys.length ys.length (dgM fun i=>ys.getD i 0) g:=by
 rw [C.len]
 constructor
 ·intro h
  have h1:=ze2.1 (zct F.len a h)
  have h2:Dv k (colsL hs n).length hs.length (ent (colsL hs n)) g:=by rw [zQ];exact h1
  have h3:=zct T.lens T.alike h2
  rw [T.len] at h3
  exact h3.equ C.rel
 ·intro h
  have h1:=h.equ C.rel.symm
  have h2:Dv k fs.length hs.length (ent fs) g:=by rw [T.len];exact h1
  have h3:=zct (zaS hs n) T.alike.symm h2
  rw [zQ] at h3
  exact zct hm a.symm (ze2.2 h3)
def apart (og:Option Nat)(s:Value):Prop:=∀ a l c,s=.slice (some a) l c→0 < l→some a.block≠og
theorem Lim.grown {W W':World}{row:Option Nat}{s:Value}{zs:List Int}(h:Lim W s zs)(hg:W.grownBy W' row)(hne:apart row s):Lim W' s zs:=by
 obtain⟨ao,cap,rfl,h1,h2,h3,h4⟩:=h
 refine⟨ao,cap,rfl,h1,h2,h3,fun h0=>?_⟩
 obtain⟨b,off,rfl,hlt,hc⟩:=h4 h0
 have hb:=hne _ _ _ rfl h0
 exact⟨b,off,rfl,zT hlt hg.size,fun i hi=>hg.cell (hc i hi) hb⟩
def Nm.val (r:Nm):Value:=.agg #[.bool r.neg,.slice r.o r.l r.c]
def Nm.sl (r:Nm):Value:=.slice r.o r.l r.c
def ncells (p:Nm × Int):List Value:=[.bool p.1.neg,.slice p.1.o p.1.l p.1.c]
theorem NumL.grown {W W':World}{row:Option Nat}{r:Nm}{z:Int}{n:Nat}(h:NumL W r.val z n)(hg:W.grownBy W' row)(hne:apart row r.sl):NumL W' r.val z n:=by
 obtain⟨neg,s,zs,e,hl,h3⟩:=h
 simp only [Nm.val,Value.agg.injEq,Array.mk.injEq,List.cons.injEq,Value.bool.injEq,and_true] at e
 obtain⟨rfl,rfl⟩:=e
 exact⟨_,_,zs,rfl,hl.grown hg hne,h3⟩
theorem NumL.inside {W:World}{r:Nm}{z:Int}{n:Nat}(h:NumL W r.val z n):∀ a l c,r.sl=.slice (some a) l c→0 < l→a.block < W.heap.size:=fun a l c e h0=>by
 obtain⟨neg,s,zs,e1,hl,-⟩:=h
 simp only [Nm.val,Value.agg.injEq,Array.mk.injEq,List.cons.injEq,Value.bool.injEq,and_true] at e1
 obtain⟨rfl,rfl⟩:=e1
 obtain⟨ao,cap,e2,-,-,-,h4⟩:=hl
 unfold Nm.sl at e
 rw [e] at e2
 simp only [Value.slice.injEq] at e2
 obtain⟨rfl,rfl,rfl⟩:=e2
 obtain⟨b,off,e3,hlt,-⟩:=h4 h0
 simp only [Option.some.injEq] at e3
 rw [e3]
 exact hlt
def Grow (W:World)(base:Nat)(v:Value)(ps:List (Nm × Int))(n:Nat):Prop:=
 W.ownsRow base 29 2 v ps.length (ps.flatMap ncells)∧∀ p∈ps,NumL W p.1.val p.2 n∧apart v.ownBlock p.1.sl
theorem Grow.nil (W:World)(base n:Nat):Grow W base (.slice none 0 0) [] n:=⟨World.ownsRow_nil _ _ _ _,fun _ h=>by cases h⟩
theorem Grow.later {W W':World}{base:Nat}{v:Value}{ps:List (Nm × Int)}{n:Nat}(h:Grow W base v ps n)(hb:Below W.heap.size W W'):Grow W' base v ps n:=by
 refine⟨?_,fun p hp=>⟨(h.2 p hp).1.below hb zL,(h.2 p hp).2⟩⟩
 refine⟨h.1.1,?_⟩
 rcases h.1.2 with hn |⟨g,cap,cur,e,hbg,hh,rest⟩
 ·exact .inl hn
 ·exact .inr ⟨g,cap,cur,e,hbg,(hb.block _ (zw hh)).trans hh,rest⟩
theorem zi4 {base:Nat}{wr w3:World}{v:Value}{ps:List (Nm × Int)}{n:Nat}{r:Nm}{z:Int}{g cap:Nat}{ob:Obj}(h:Grow wr base v ps n)(hz:NumL wr r.val z n)(ha:apart v.ownBlock r.sl)
  (hown:w3.ownsRow base 29 2 (.slice (some ⟨g,0,none⟩) (ps.length+1) cap) (ps.length+1) (ps.flatMap ncells ++ ncells (r,z)))
  (hg:(wr.alloc ob).grownBy w3 v.ownBlock) (hat:v.ownBlock=some g∨g=wr.heap.size+1):Grow w3 base (.slice (some ⟨g,0,none⟩) (ps.length+1) cap) (ps ++ [(r,z)]) n:=by
 refine⟨by rw [List.length_append,List.length_singleton,List.flatMap_append,List.flatMap_singleton];exact hown,fun p hp=>?_⟩
 have key:∀ p:Nm × Int,NumL wr p.1.val p.2 n→apart v.ownBlock p.1.sl→NumL w3 p.1.val p.2 n∧apart (some g) p.1.sl:=fun p h1 h2=>by
  refine⟨(h1.below ((Below.refl _ _).alloc zL ob) zL).grown hg h2,fun a l c e h0 hb=>?_⟩
  rcases hat with h | h
  ·exact h2 a l c e h0 (hb.trans h.symm)
  ·have:=h1.inside a l c e h0
   simp only [Option.some.injEq] at hb
   omega
 rcases List.mem_append.1 hp with h' | h'
 ·exact key p (h.2 p h').1 (h.2 p h').2
 ·rw [List.mem_singleton] at h'
  rw [h']
  exact key (r,z) hz ha
theorem zi2 {base:Nat}{wr w3:World}{v:Value}{ps:List (Nm × Int)}{n:Nat}{ob:Obj}(h:Grow wr base v ps n)(hB:base≤wr.heap.size)(hg:(wr.alloc ob).grownBy w3 v.ownBlock):Below base wr w3:=
 ((Below.refl _ _).alloc hB _).grown hg (by simp;omega) (fun k hk=>(h.1.lt k hk).1)
theorem zjY (ps:List (Nm × Int)):∀ i (h:i < ps.length),(ps.flatMap ncells)[i * 2]?=some (.bool ps[i].1.neg)∧(ps.flatMap ncells)[i * 2+1]?=some (.slice ps[i].1.o ps[i].1.l ps[i].1.c):=by
 induction ps with
 | nil=>intro i h;exact absurd h (by simp)
 | cons p ps ih=>
  intro i h
  rw [List.flatMap_cons]
  cases i with
  | zero=>exact⟨rfl,rfl⟩
  | succ i=>
   obtain⟨h1,h2⟩:=ih i (by simpa using h)
   have e1:(i+1) * 2=i * 2+2:=by omega
   rw [e1,show i * 2+2+1=i * 2+1+2 by omega,List.getElem?_append_right (by simp [ncells]),List.getElem?_append_right (by simp [ncells])]
   exact⟨h1,h2⟩
theorem Grow.vec {W:World}{base:Nat}{v:Value}{ps:List (Nm × Int)}{n:Nat}(h:Grow W base v ps n):VecN W v (ps.map (·.2)) n:=by
 obtain⟨⟨-,h1⟩,h2⟩:=h
 have hlen:(ps.map (·.2)).length=ps.length:=List.length_map ..
 rcases h1 with⟨rfl,hn⟩ |⟨g,cap,cur,rfl,hb,hh,hc1,hc2,hc3,hc4⟩
 ·exact⟨none,0,by rw [hlen,hn],by rw [hlen];omega,fun h0=>absurd h0 (by rw [hlen];omega)⟩
 ·refine⟨_,cap,by rw [hlen],by rw [hlen];exact hc1,fun h0=>⟨g,0,rfl,zw hh,fun i hi=>?_⟩⟩
  rw [hlen] at hi
  obtain⟨e1,e2⟩:=zjY ps i hi
  have hcell:∀ k u,k < ps.length * 2→(ps.flatMap ncells)[k]?=some u→W.cell? ⟨g,0+k,none⟩=some u:=fun k u hk hu=>by
   have:=World.news_of_block hh k u (by rw [← hc4,List.getElem?_take,if_pos hk] at hu;exact hu)
   have e:(⟨g,0,none⟩:Addr).add k=⟨g,0+k,none⟩:=by unfold Addr.add;split <;> simp_all
   rwa [e] at this
  refine⟨ps[i].1.neg,ps[i].1.o,ps[i].1.l,ps[i].1.c,hcell _ _ (by omega) e1,hcell _ _ (by omega) e2,?_⟩
  have e3:(ps.map (·.2)).getD i 0=ps[i].2:=by
   rw [List.getD_eq_getElem?_getD,List.getElem?_map,List.getElem?_eq_getElem hi];rfl
  rw [e3]
  exact(h2 _ (List.getElem_mem hi)).1
end Go.Proofs.YtdedolkgcdlmeaaGreatDoor
