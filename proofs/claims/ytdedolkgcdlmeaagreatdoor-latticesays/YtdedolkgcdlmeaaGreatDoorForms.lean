import Derived.Test.YtdedolkgcdlmeaaGreatDoorDetA
namespace Go.Proofs.YtdedolkgcdlmeaaGreatDoor
def unitR (k:Nat):Nat→Int:=fun b=>if b=k then 1 else 0
def mulM (n:Nat)(T H:Nat→Nat→Int):Nat→Nat→Int:=fun a b=>sumN n (fun k=>T a k*H k b)
theorem zbe (n k:Nat)(hk:k<n)(f:Nat→Int)(h:∀ i,i<n→i≠k→f i=0):sumN n f=f k:=by
 induction n with
 | zero=>omega
 | succ n ih=>
  by_cases hkn:k=n
  ·subst hkn;rw [sumN,zp (g:=fun _=>0) fun i hi=>h i (by omega) (by omega),zay];omega
  ·rw [sumN,ih (by omega) fun i hi hne=>h i (by omega) hne,h n (by omega) (by omega)];omega
theorem zhJ (n:Nat)(M:Nat→Nat→Int)(i:Nat)(hi:i<n):det n (setRow M i (fun _=>0))=0:=by
 have h:=zcw M i (fun _=>0) (fun _=>0) 0 0 hi;have e:(fun b:Nat=>(0:Int) *(fun _=>(0:Int)) b+0 *(fun _=>(0:Int)) b)=fun _=>0:=by funext b;simp
 rw [e] at h;simpa using h
theorem zdw (n:Nat)(M:Nat→Nat→Int)(i:Nat)(hi:i<n)(m:Nat)(c:Nat→Int)(v:Nat→Nat→Int):
  det n (setRow M i (fun b=>sumN m (fun k=>c k*v k b)))=sumN m (fun k=>c k*det n (setRow M i (v k))):=by
 induction m with
 | zero=>rw [sumN];exact zhJ n M i hi
 | succ m ih=>
  have e:(fun b=>sumN (m+1) (fun k=>c k*v k b))=fun b=>1 *(fun b=>sumN m (fun k=>c k*v k b)) b+c m *(v m) b:=by
   funext b;rw [sumN];simp
  rw [e,zcw M i _ (v m) 1 (c m) hi,ih,sumN];omega
theorem zhK (n:Nat):det n (fun a b=>unitR a b)=1:=by
 induction n with
 | zero=>rfl
 | succ n ih=>
  rw [det,zbe (n+1) n (by omega) _ fun j hj hne=>by
   show sgnN (n+j) *(if j=n then 1 else 0)*_=0;rw [if_neg hne,Int.mul_zero,Int.zero_mul]]
  have e:det n (fun a b=>unitR a (sk n b))=det n (fun a b=>unitR a b):=zX fun a b _ hb=>by rw [zbF hb]
  rw [e,ih];show sgnN (n+n) *(if n=n then 1 else 0)*1=1;rw [if_pos rfl];have:sgnN (n+n)=1:=by unfold sgnN;rw [if_pos (by omega)]
  rw [this];rfl
theorem pigeon:∀(m:Nat) (f:Nat→Nat),(∀ i,i≤m→f i<m)→∃ i k,i<k∧k≤m∧f i=f k:=by
 intro m
 induction m with
 | zero=>intro f h;exact absurd (h 0 (by omega)) (by omega)
 | succ m ih=>
  intro f h;by_cases hex:∃ i,i≤m∧f i=f (m+1)
  ·obtain⟨i,hi,e⟩:=hex;exact⟨i,m+1,by omega,by omega,e⟩
  ·have hne:∀ i,i≤m→f i≠f (m+1):=fun i hi e=>hex ⟨i,hi,e⟩;have hlast:=h (m+1) (by omega);obtain⟨i,k,hik,hk,e⟩:=ih (fun i=>if f i<f (m+1) then f i else f i-1) fun i hi=>by
    have h1:=h i (by omega);have h2:=hne i hi;show(if f i<f (m+1) then f i else f i-1)<m;split <;> omega
   refine⟨i,k,hik,by omega,?_⟩;have h1:=hne i (by omega);have h2:=hne k (by omega);split at e <;> split at e <;> omega
theorem zhF (n:Nat)(H:Nat→Nat→Int):∀(m:Nat),m≤n→∀ φ:Nat→Nat,(∀ i,i<n→φ i<n)→(∀ i,m≤i→i<n→φ i=i)→det n (fun a b=>H (φ a) b)=det n (fun a b=>unitR (φ a) b)*det n H:=by
 intro m
 induction m with
 | zero=>
  intro _ φ _ h;have e1:det n (fun a b=>H (φ a) b)=det n H:=zX fun a b ha _=>by rw [h a (by omega) ha]
  have e2:det n (fun a b=>unitR (φ a) b)=det n (fun a b=>unitR a b):=zX fun a b ha _=>by rw [h a (by omega) ha]
  rw [e1,e2,zhK];omega
 | succ m ih=>
  intro hm φ hlt h;have zero:∀ i k,i<k→k<n→φ i=φ k→det n (fun a b=>H (φ a) b)=det n (fun a b=>unitR (φ a) b)*det n H:=fun i k hik hk e=>by
   rw [zbR n (fun a b=>H (φ a) b) i k hik hk fun b=>by rw [e],zbR n (fun a b=>unitR (φ a) b) i k hik hk fun b=>by rw [e],Int.zero_mul]
  by_cases hmm:φ m=m
  ·exact ih (by omega) φ hlt fun i h1 h2=>by
    by_cases hi:i=m
    ·rw [hi];exact hmm
    ·exact h i (by omega) h2
  ·by_cases hbig:m<φ m
   ·exact zero m (φ m) hbig (hlt m (by omega)) (h (φ m) (by omega) (hlt m (by omega))).symm
   ·by_cases hex:∃ i,i<m∧φ i=m
    ·obtain⟨i,him,hi⟩:=hex;have hsw:=ih (by omega) (fun a=>if a=i then φ m else if a=m then φ i else φ a) (fun a ha=>by
      show(if a=i then φ m else if a=m then φ i else φ a)<n;split
      ·exact hlt m (by omega)
      ·split
       ·exact hlt i (by omega)
       ·exact hlt a ha) (fun a h1 h2=>by
      show(if a=i then φ m else if a=m then φ i else φ a)=a;rw [if_neg (by omega)];split
      ·rename_i e;rw [e];exact hi
      ·exact h a (by omega) h2)
     have e:∀ G:Nat→Nat→Int,(fun a b=>G (if a=i then φ m else if a=m then φ i else φ a) b)=swapRows (fun a b=>G (φ a) b) i m:=fun G=>by
      funext a b;unfold swapRows;split
      ·rfl
      ·split <;> rfl
     rw [e H,e (fun a b=>unitR a b),zeX n _ i m him (by omega),zeX n _ i m him (by omega),Int.neg_mul] at hsw;have e2:det n (fun a b=>(fun a b=>unitR a b) (φ a) b)=det n (fun a b=>unitR (φ a) b):=rfl;rw [e2] at hsw;omega
    ·have hsmall:(∀ i,i≤m→φ i<m)∨∃ i,i≤m∧m<φ i:=by
      by_cases hx:∃ i,i≤m∧m<φ i
      ·exact .inr hx
      ·refine .inl fun i hi=>?_;have h1:¬ m<φ i:=fun hx'=>hx ⟨i,hi,hx'⟩;have h2:φ i≠m:=fun e=>by
        by_cases hi':i=m
        ·exact hmm (hi' ▸ e)
        ·exact hex ⟨i,by omega,e⟩
       omega
     rcases hsmall with hs |⟨i,hi,hx⟩
     ·obtain⟨i,k,hik,hk,e⟩:=pigeon m φ hs;exact zero i k hik (by omega) e
     ·exact zero i (φ i) (by omega) (hlt i (by omega)) (h (φ i) (by omega) (hlt i (by omega))).symm
theorem zek (n k:Nat)(hk:k<n)(H:Nat→Nat→Int)(b:Nat):sumN n (fun q=>unitR k q*H q b)=H k b:=by
 rw [zbe n k hk _ fun i _ hne=>by show(if i=k then 1 else 0)*_=0;rw [if_neg hne,Int.zero_mul]];show(if k=k then 1 else 0)*_=_;rw [if_pos rfl,Int.one_mul]
theorem zeg (n:Nat)(c:Nat→Int)(b:Nat)(hb:b<n):sumN n (fun k=>c k*unitR k b)=c b:=by
 rw [zbe n b hb _ fun i _ hne=>by show c i *(if b=i then 1 else 0)=0;rw [if_neg (by omega),Int.mul_zero]];show c b *(if b=b then 1 else 0)=c b;rw [if_pos rfl,Int.mul_one]
theorem zhI (n:Nat)(H:Nat→Nat→Int):∀ q,q≤n→∀(T:Nat→Nat→Int) (φ:Nat→Nat),(∀ i,i<n→φ i<n)→(∀ i,q≤i→i<n→∀ b,T i b=unitR (φ i) b)→det n (mulM n T H)=det n T*det n H:=by
 intro q
 induction q with
 | zero=>
  intro _ T φ hφ h;have e1:det n (mulM n T H)=det n (fun a b=>H (φ a) b):=zX fun a b ha _=>by
   show sumN n (fun k=>T a k*H k b)=_;rw [zp (g:=fun k=>unitR (φ a) k*H k b) fun k _=>by rw [h a (by omega) ha]];exact zek n (φ a) (hφ a ha) H b
  have e2:det n T=det n (fun a b=>unitR (φ a) b):=zX fun a b ha _=>h a (by omega) ha b;rw [e1,e2];exact zhF n H n zL φ hφ fun i h1 h2=>by omega
 | succ q ih=>
  intro hq T φ hφ h;have hqn:q<n:=by omega
  have e1:det n (mulM n T H)=sumN n (fun k=>T q k*det n (mulM n (setRow T q (unitR k)) H)):=by
   have e:mulM n T H=setRow (mulM n T H) q (fun b=>sumN n (fun k=>T q k*H k b)):=(zkp (mulM n T H) q).symm;rw [e,zdw n _ q hqn];apply zp;intro k hk;congr 1;apply zX;intro a b ha hb;by_cases haq:a=q
   ·rw [haq,zaf];show H k b=sumN n (fun j=>setRow T q (unitR k) q j*H j b);rw [zp (g:=fun j=>unitR k j*H j b) fun j _=>by rw [zaf],zek n k hk]
   ·rw [zaq _ _ _ haq];show sumN n (fun j=>T a j*H j b)=sumN n (fun j=>setRow T q (unitR k) a j*H j b);exact zp fun j _=>by rw [zaq _ _ _ haq]
  have e2:det n T=sumN n (fun k=>T q k*det n (setRow T q (unitR k))):=by
   have e:det n T=det n (setRow T q (fun b=>sumN n (fun k=>T q k*unitR k b))):=zX fun a b ha hb=>by
    by_cases haq:a=q
    ·rw [haq,zaf,zeg n _ b hb]
    ·rw [zaq _ _ _ haq]
   rw [e,zdw n _ q hqn]
  rw [e1,e2,Int.mul_comm,← zaL];apply zp;intro k hk;rw [ih (by omega) (setRow T q (unitR k)) (fun i=>if i=q then k else φ i) (fun i hi=>by
   show(if i=q then k else φ i)<n;split
   ·exact hk
   ·exact hφ i hi) (fun i h1 h2 b=>by
   by_cases hiq:i=q
   ·rw [hiq,zaf,if_pos rfl]
   ·rw [zaq _ _ _ hiq,if_neg hiq];exact h i (by omega) h2 b)]
  rw [← Int.mul_assoc,Int.mul_comm (det n H)]
theorem zhH (n:Nat)(T H:Nat→Nat→Int):det n (mulM n T H)=det n T*det n H:=
 zhI n H n zL T (fun _=>0) (fun i hi=>by omega) (fun i h1 h2=>by omega)
end Go.Proofs.YtdedolkgcdlmeaaGreatDoor
namespace Go.Proofs.YtdedolkgcdlmeaaGreatDoor
variable{x:Int}
def absI (z:Int):Int:=if z<0 then -z else z
theorem zbK (z:Int):0≤absI z:=by unfold absI;split <;> omega
theorem zgR (x y:Int):absI (x+y)≤absI x+absI y:=by unfold absI;repeat' split;all_goals omega
theorem zaP (x:Int):absI (-x)=absI x:=by unfold absI;repeat' split;all_goals omega
theorem zaQ(h:0≤x):absI x=x:=by unfold absI;rw [if_neg (by omega)]
theorem zev:absI x=0↔x=0:=by unfold absI;split <;> omega
theorem zaO (x y:Int):absI (x*y)=absI x*absI y:=by
 have key:∀ a b:Int,0≤a→0≤b→absI (a*b)=absI a*absI b:=fun a b ha hb=>by
  rw [zaQ ha,zaQ hb,zaQ (Int.mul_nonneg ha hb)]
 rcases(by omega:0≤x∨0≤-x) with hx | hx <;> rcases(by omega:0≤y∨0≤-y) with hy | hy
 ·exact key x y hx hy
 ·have:=key x (-y) hx hy;rwa [Int.mul_neg,zaP,zaP] at this
 ·have:=key (-x) y hx hy;rwa [Int.neg_mul,zaP,zaP] at this
 ·have:=key (-x) (-y) hx hy;rwa [Int.neg_mul_neg,zaP,zaP] at this
theorem zet (k:Nat):absI (sgnN k)=1:=by unfold sgnN absI;split <;> rfl
theorem zeu (n:Nat)(f:Nat→Int)(C:Int)(h:∀ i,i<n→absI (f i)≤C):absI (sumN n f)≤n*C:=by
 induction n with
 | zero=>simp [sumN,absI]
 | succ n ih=>
  have h1:=ih fun i hi=>h i (by omega);have h2:=h n (by omega);have h3:=zgR (sumN n f) (f n);have e:((n+1:Nat):Int)*C=n*C+C:=by rw [Int.natCast_add,Int.add_mul];simp
  rw [sumN,e];omega
def facP:Nat→Int→Int
 | 0,_=>1
 | n+1,B=>(n+1:Nat) *(B*facP n B)
theorem zhG{n:Nat}:∀(M:Nat→Nat→Int) (B:Int),0≤B→(∀ a b,a<n→b<n→absI (M a b)≤B)→absI (det n M)≤facP n B:=by
 induction n with
 | zero=>intro M B _ _;exact(by decide:absI (1:Int)≤1)
 | succ n ih=>
  intro M B hB h;rw [det];refine zeu (n+1) _ (B*facP n B) fun j hj=>?_;rw [zaO,zaO,zet,Int.one_mul];have h1:=h n j (by omega) hj;have h2:=ih (fun a b=>M a (sk j b)) B hB fun a b ha hb=>h a _ (by omega) (by unfold sk;split <;> omega);exact Int.mul_le_mul h1 h2 (zbK _) hB
def prodN:Nat→(Nat→Int)→Int
 | 0,_=>1
 | n+1,d=>prodN n d*d n
theorem zd0 (n:Nat)(d:Nat→Int)(h:∀ i,i<n→1≤d i):1≤prodN n d:=by
 induction n with
 | zero=>exact(by decide:(1:Int)≤1)
 | succ n ih=>
  have h1:=ih fun i hi=>h i (by omega);have h2:=h n (by omega);have:=Int.mul_le_mul h1 h2 (by decide) (by omega);simpa [prodN] using this
theorem zj0 (n:Nat)(d:Nat→Int)(h:∀ i,i<n→1≤d i)(k:Nat)(hk:k<n):d k≤prodN n d:=by
 induction n with
 | zero=>omega
 | succ n ih=>
  have h0:=zd0 n d fun i hi=>h i (by omega);have h2:=h n (by omega);by_cases hkn:k=n
  ·subst hkn;have:=Int.mul_le_mul h0 (Int.le_refl (d k)) (by omega) (by omega);simpa [prodN] using this
  ·have h1:=ih (fun i hi=>h i (by omega)) (by omega);have:=Int.mul_le_mul h1 h2 (by decide) (by omega);simp only [Int.mul_one] at this;exact this
theorem zeY (n:Nat)(M:Nat→Nat→Int)(h:∀ a b,a<n→b<a→M a b=0):det n M=prodN n (fun i=>M i i):=by
 induction n with
 | zero=>rfl
 | succ n ih=>
  rw [det,zbe (n+1) n (by omega) _ fun j hj hne=>by rw [h n j (by omega) (by omega),Int.mul_zero,Int.zero_mul]];have e:det n (fun a b=>M a (sk n b))=det n M:=zX fun a b _ hb=>by rw [zbF hb]
  rw [e,ih fun a b ha hb=>h a b (by omega) hb];have:sgnN (n+n)=1:=by unfold sgnN;rw [if_pos (by omega)]
  rw [this,Int.one_mul,prodN,Int.mul_comm]
theorem zkG (n:Nat)(f:Nat→Int)(h:sumN n f≠0):∃ k,k<n∧f k≠0:=by
 induction n with
 | zero=>exact absurd rfl h
 | succ n ih=>
  by_cases hf:f n=0
  ·rw [sumN,hf,Int.add_zero] at h;obtain⟨k,hk,hne⟩:=ih h;exact⟨k,by omega,hne⟩
  ·exact⟨n,by omega,hf⟩
theorem zeQ (r m:Nat)(H M C:Nat→Nat→Int)(hH:∀ a b,a<r→b<r→H a b=sumN m (fun k=>C a k*M k b))(h0:det r H≠0):
  ∀ q,q≤r→∃ φ:Nat→Nat,(∀ a,a<q→φ a<m)∧det r (fun a b=>if a<q then M (φ a) b else H a b)≠0:=by
 intro q
 induction q with
 | zero=>
  intro _;refine⟨fun _=>0,fun a h=>by omega,?_⟩;have e:det r (fun a b=>if a<0 then M 0 b else H a b)=det r H:=zX fun a b _ _=>if_neg (by omega);rw [e];exact h0
 | succ q ih=>
  intro hq;obtain⟨φ,h1,h2⟩:=ih (by omega)
  let X:Nat→Nat→Int:=fun a b=>if a<q then M (φ a) b else H a b
  have e:det r X=det r (setRow X q (fun b=>sumN m (fun k=>C q k*M k b))):=zX fun a b ha hb=>by
   by_cases haq:a=q
   ·rw [haq,zaf];show(if q<q then _ else H q b)=_;rw [if_neg (by omega)];exact hH q b (by omega) hb
   ·rw [zaq _ _ _ haq]
  have h3:det r (setRow X q (fun b=>sumN m (fun k=>C q k*M k b)))≠0:=by rw [← e];exact h2
  rw [zdw r X q (by omega)] at h3;obtain⟨k,hk,hne⟩:=zkG m _ h3;refine⟨fun a=>if a=q then k else φ a,fun a ha=>?_,fun hz=>hne ?_⟩
  ·show(if a=q then k else φ a)<m;split
   ·exact hk
   ·exact h1 a (by omega)
  ·have e2:det r (setRow X q (M k))=det r (fun a b=>if a<q+1 then M (if a=q then k else φ a) b else H a b):=zX fun a b ha hb=>by
    by_cases haq:a=q
    ·rw [haq,zaf,if_pos (by omega),if_pos rfl]
    ·rw [zaq _ _ _ haq];show(if a<q then M (φ a) b else H a b)=_;by_cases hlt:a<q
     ·rw [if_pos hlt,if_pos (by omega),if_neg haq]
     ·rw [if_neg hlt,if_neg (by omega)]
   rw [e2,hz,Int.mul_zero]
theorem zcY (r m n:Nat)(H M C:Nat→Nat→Int)(p:Nat→Nat)(hp:∀ k,k<r→p k<n)(hzero:∀ i k,i<r→k<i→H i (p k)=0)(hpos:∀ i,i<r→1≤H i (p i))
  (hHM:∀ a b,a<r→b<n→H a b=sumN m (fun k=>C a k*M k b)):r≤m:=by
 by_cases hrm:r≤m
 ·exact hrm
 have hD:det r (fun a b=>H a (p b))=prodN r (fun k=>H k (p k)):=zeY r _ fun a b ha hb=>hzero a b ha hb;have hD1:=zd0 r (fun k=>H k (p k)) hpos;obtain⟨φ,hφ,hne⟩:=zeQ r m (fun a b=>H a (p b)) (fun k b=>M k (p b)) C (fun a b ha hb=>hHM a (p b) ha (hp b hb)) (by rw [hD];omega) r zL;obtain⟨i,k,hik,hk,e⟩:=pigeon m φ fun i hi=>hφ i (by omega);refine absurd (zbR r _ i k hik (by omega) fun b=>?_) hne;show(if i<r then M (φ i) (p b) else H i (p b))=if k<r then M (φ k) (p b) else H k (p b);rw [if_pos (by omega),if_pos (by omega),e]
theorem ze8 (r m n:Nat)(H M C T:Nat→Nat→Int)(p:Nat→Nat)(B:Int)(hB:0≤B)
  (hp:∀ k,k<r→p k<n) (hzero:∀ i k,i<r→k<i→H i (p k)=0) (hpos:∀ i,i<r→1≤H i (p i)) (hred:∀ i k,i<r→k<r→i<k→0≤H i (p k)∧H i (p k)≤H k (p k))
  (hHM:∀ a b,a<r→b<n→H a b=sumN m (fun k=>C a k*M k b)) (hMH:∀ a b,a<m→b<n→M a b=sumN r (fun k=>T a k*H k b))
  (hM:∀ a b,a<m→b<n→absI (M a b)≤B) (i j:Nat) (hi:i<r) (hj:j<n):absI (H i j)≤r*facP r B:=by
 have hD:det r (fun a b=>H a (p b))=prodN r (fun k=>H k (p k)):=zeY r _ fun a b ha hb=>hzero a b ha hb;have hD1:=zd0 r (fun k=>H k (p k)) hpos;obtain⟨φ,hφ,hne⟩:=zeQ r m (fun a b=>H a (p b)) (fun k b=>M k (p b)) C (fun a b ha hb=>hHM a (p b) ha (hp b hb)) (by rw [hD];omega) r zL;have hne':det r (fun a b=>M (φ a) (p b))≠0:=by
  intro h;apply hne;have e:det r (fun a b=>if a<r then M (φ a) (p b) else H a (p b))=det r (fun a b=>M (φ a) (p b)):=zX fun a b ha _=>if_pos ha;exact e.trans h
 have hmul:∀ J:Nat→Nat,(∀ b,b<r→J b<n)→det r (fun a b=>M (φ a) (J b))=det r (fun a k=>T (φ a) k)*det r (fun a b=>H a (J b)):=fun J hJ=>by
  rw [← zhH];exact zX fun a b ha hb=>hMH (φ a) (J b) (hφ a ha) (hJ b hb)
 have hT:det r (fun a k=>T (φ a) k)≠0:=fun h=>hne' (by rw [hmul p hp,h,Int.zero_mul]);have hmin:∀ J:Nat→Nat,(∀ b,b<r→J b<n)→absI (det r (fun a b=>H a (J b)))≤facP r B:=fun J hJ=>by
  have h1:=zhG (n:=r) (fun a b=>M (φ a) (J b)) B hB fun a b ha hb=>hM (φ a) (J b) (hφ a ha) (hJ b hb);rw [hmul J hJ,zaO] at h1;have h2:1≤absI (det r (fun a k=>T (φ a) k)):=by
   have:=zbK (det r (fun a k=>T (φ a) k));have h3:absI (det r (fun a k=>T (φ a) k))≠0:=fun h=>hT (zev.1 h);omega
  have h3:=Int.mul_le_mul h2 (Int.le_refl (absI (det r (fun a b=>H a (J b))))) (zbK _) (by omega);omega
 -- the last row is one of the others
 let X:Nat→Nat→Int:=fun a b=>H (if a<r then a else i) (if b<r then p b else j)
 have hX:det (r+1) X=0:=zbR (r+1) X i r hi (by omega) fun b=>by
  show H (if i<r then i else i) _=H (if r<r then r else i) _;rw [if_pos hi,if_neg (Nat.lt_irrefl r)]
 rw [det,sumN] at hX;have hlast:X r r=H i j:=by
  show H (if r<r then r else i) (if r<r then p r else j)=H i j;rw [if_neg (Nat.lt_irrefl r),if_neg (Nat.lt_irrefl r)]
 have hm:det r (fun a b=>X a (sk r b))=prodN r (fun k=>H k (p k)):=by
  rw [← hD];exact zX fun a b ha hb=>by
   show H (if a<r then a else i) (if sk r b<r then p (sk r b) else j)=_;rw [zbF hb,if_pos ha,if_pos hb]
 have hs:sgnN (r+r)=1:=by unfold sgnN;rw [if_pos (by omega)]
 rw [hlast,hm,hs,Int.one_mul] at hX;have hsum:absI (sumN r (fun k=>sgnN (r+k)*X r k*det r (fun a b=>X a (sk k b))))≤r *(prodN r (fun k=>H k (p k))*facP r B):=by
  refine zeu r _ _ fun k hk=>?_;rw [zaO,zaO,zet,Int.one_mul];have hXk:X r k=H i (p k):=by
   show H (if r<r then r else i) (if k<r then p k else j)=_;rw [if_neg (by omega),if_pos hk]
  have h1:absI (X r k)≤prodN r (fun k=>H k (p k)):=by
   rw [hXk];have hg:=zj0 r (fun k=>H k (p k)) hpos k hk;rcases Nat.lt_trichotomy i k with h | h | h
   ·obtain⟨h1,h2⟩:=hred i k hi hk h;have hg':H k (p k)≤prodN r (fun k=>H k (p k)):=hg;rw [zaQ h1];omega
   ·subst h;have:=hpos i hi;rw [zaQ (by omega)];exact hg
   ·rw [hzero i k hi h];show(if (0:Int)<0 then -0 else 0)≤_;rw [if_neg (by decide)];omega
  have h2:absI (det r (fun a b=>X a (sk k b)))≤facP r B:=by
   have e:det r (fun a b=>X a (sk k b))=det r (fun a b=>H a (if sk k b<r then p (sk k b) else j)):=zX fun a b ha _=>by
    show H (if a<r then a else i) _=_;rw [if_pos ha]
   rw [e];exact hmin _ fun b _=>by
    show(if sk k b<r then p (sk k b) else j)<n;split
    ·rename_i h;exact hp _ h
    ·exact hj
  exact Int.mul_le_mul h1 h2 (zbK _) (by omega)
 generalize sumN r (fun k=>sgnN (r+k)*X r k*det r (fun a b=>X a (sk k b)))=S at *;generalize prodN r (fun k=>H k (p k))=D at *;have h5:absI (H i j*D)≤r *(D*facP r B):=by
  have:H i j*D=- S:=by omega
  rw [this,zaP];exact hsum
 rw [zaO,zaQ (by omega:0≤D),← Int.mul_assoc,Int.mul_comm (r:Int) D,Int.mul_assoc,Int.mul_comm _ D] at h5;exact Int.le_of_mul_le_mul_left h5 (by omega)
end Go.Proofs.YtdedolkgcdlmeaaGreatDoor
namespace Go.Proofs.YtdedolkgcdlmeaaGreatDoor
variable{n r r':Nat}{p p':Nat→Nat}
structure Form (r n:Nat)(H:Nat→Nat→Int)(p:Nat→Nat):Prop where
 inc:∀ i k,i<k→k<r→p i<p k
 lt:∀ i,i<r→p i<n
 zero:∀ i b,i<r→b<p i→H i b=0
 pos:∀ i,i<r→0<H i (p i)
 red:∀ i k,i<k→k<r→0≤H i (p k)∧H i (p k)<H k (p k)
def Lat (m n:Nat)(M:Nat→Nat→Int)(v:Nat→Int):Prop:=∃ c:Nat→Int,∀ b,b<n→v b=sumN m (fun k=>c k*M k b)
theorem Lat.row (m n:Nat)(M:Nat→Nat→Int)(i:Nat)(hi:i<m):Lat m n M (M i):=⟨unitR i,fun b _=>(zek m i hi M b).symm⟩
theorem Lat.comb{m:Nat}{M:Nat→Nat→Int}{u v:Nat→Int}(hu:Lat m n M u)(hv:Lat m n M v)(x y:Int):Lat m n M (fun b=>x*u b+y*v b):=by
 obtain⟨c,hc⟩:=hu;obtain⟨d,hd⟩:=hv;refine⟨fun k=>x*c k+y*d k,fun b hb=>?_⟩;show x*u b+y*v b=sumN m (fun k=>(x*c k+y*d k)*M k b);rw [hc b hb,hd b hb,← zaL,← zaL,← zci];apply zp;intro k _;rw [Int.add_mul,Int.mul_assoc,Int.mul_assoc]
namespace Form
variable {r n:Nat}{H:Nat→Nat→Int}{p:Nat→Nat}
theorem le_pivot (F:Form r n H p){i k:Nat}(h:i≤k)(hk:k<r):p i≤p k:=by
 rcases Nat.lt_or_eq_of_le h with h | h
 ·exact Nat.le_of_lt (F.inc i k h hk)
 ·rw [h];exact Nat.le_refl _
theorem at_pivot (F:Form r n H p)(c:Nat→Int)(i:Nat)(hi:i<r)(h0:∀ k,k<i→c k=0):sumN r (fun k=>c k*H k (p i))=c i*H i (p i):=
 zbe r i hi _ fun k hk hne=>by
  rcases(by omega:k<i∨i<k) with h | h
  ·rw [h0 k h,Int.zero_mul]
  ·rw [F.zero k (p i) hk (F.inc i k h hk),Int.mul_zero]
theorem leads (F:Form r n H p){v:Nat→Int}(hv:Lat r n H v){t:Nat}(ht:t<n)(h0:∀ b,b<t→v b=0)(hne:v t≠0):∃ i c,i<r∧p i=t∧v t=c*H i t:=by
 obtain⟨c,hc⟩:=hv
 -- the first row of which something is in it
 have hex:∃ i,i<r∧(∀ k,k<i→c k=0)∧c i≠0:=by
  have key:∀ q,q≤r→(∀ k,k<q→c k=0)∨∃ i,i<r∧(∀ k,k<i→c k=0)∧c i≠0:=by
   intro q
   induction q with
   | zero=>intro _;exact .inl fun k hk=>by omega
   | succ q ih=>
    intro hq;rcases ih (by omega) with h | h
    ·by_cases hcq:c q=0
     ·exact .inl fun k hk=>by
       by_cases hkq:k=q
       ·rw [hkq];exact hcq
       ·exact h k (by omega)
     ·exact .inr ⟨q,by omega,h,hcq⟩
    ·exact .inr h
  rcases key r zL with h | h
  ·exfalso;apply hne;rw [hc t ht,zp (g:=fun _=>0) fun k hk=>by rw [h k hk,Int.zero_mul],zay]
  ·exact h
 obtain⟨i,hi,hk,hci⟩:=hex;have hpi:v (p i)=c i*H i (p i):=by rw [hc _ (F.lt i hi)];exact F.at_pivot c i hi hk
 have hb:∀ b,b<p i→v b=0:=fun b hbp=>by
  by_cases hbn:b<n
  ·rw [hc b hbn,zp (g:=fun _=>0) fun k hkr=>?_,zay];by_cases h:k<i
   ·rw [hk k h,Int.zero_mul]
   ·rw [F.zero k b hkr (zT hbp (F.le_pivot (by omega) hkr)),Int.mul_zero]
  ·have:=F.lt i hi;omega
 have hpt:p i=t:=by
  rcases Nat.lt_trichotomy (p i) t with h | h | h
  ·exfalso;have h1:=h0 _ h;rw [hpi] at h1;rcases Int.mul_eq_zero.1 h1 with h2 | h2
   ·exact hci h2
   ·have:=F.pos i hi;omega
  ·exact h
  ·exact absurd (hb t h) hne
 exact⟨i,c i,hi,hpt,by rw [← hpt];exact hpi⟩
end Form
theorem zgh{H H':Nat→Nat→Int}(F:Form r n H p)(F':Form r' n H' p')(hin:∀ i,i<r→Lat r' n H' (H i))(hin':∀ i,i<r'→Lat r n H (H' i)):∀ i,i<r→i<r'∧p i=p' i:=by
 have to:∀ i,i<r→∃ j,j<r'∧p' j=p i:=fun i hi=>by
  obtain⟨j,_,hj,e,-⟩:=F'.leads (hin i hi) (F.lt i hi) (fun b hb=>F.zero i b hi hb) (by have:=F.pos i hi;omega);exact⟨j,hj,e⟩
 have from':∀ i,i<r'→∃ j,j<r∧p j=p' i:=fun i hi=>by
  obtain⟨j,_,hj,e,-⟩:=F.leads (hin' i hi) (F'.lt i hi) (fun b hb=>F'.zero i b hi hb) (by have:=F'.pos i hi;omega);exact⟨j,hj,e⟩
 intro i
 induction i using Nat.strongRecOn with
 | _ i ih=>
  intro hi;obtain⟨j,hj,ej⟩:=to i hi;have hji:i≤j:=by
   rcases Nat.lt_or_ge j i with h | h
   ·have h1:=(ih j h (by omega)).2;have h2:=F.inc j i h hi;omega
   ·exact h
  have hi':i<r':=by omega
  obtain⟨k,hk,ek⟩:=from' i hi';have hki:i≤k:=by
   rcases Nat.lt_or_ge k i with h | h
   ·have h1:=(ih k h (by omega)).2;have h2:=F'.inc k i h hi';omega
   ·exact h
  have h1:=F.le_pivot hki hk;have h2:=F'.le_pivot hji hj;exact⟨hi',by omega⟩
theorem zib{H H':Nat→Nat→Int}(F:Form r n H p)(F':Form r' n H' p')(hin:∀ i,i<r→Lat r' n H' (H i))(hin':∀ i,i<r'→Lat r n H (H' i)):
  r=r'∧∀ i,i<r→p i=p' i∧∀ b,b<n→H i b=H' i b:=by
 have hp:=zgh F F' hin hin';have hp':=zgh F' F hin' hin;have hr:r=r':=by
  rcases Nat.lt_trichotomy r r' with h | h | h
  ·have:=(hp' r h).1;omega
  ·exact h
  ·have:=(hp r' h).1;omega
 subst hr
 -- the pivots
 have hd:∀ i,i<r→H i (p i)=H' i (p i):=fun i hi=>by
  have e:=(hp i hi).2;have h1:=F.pos i hi;have h2:=F'.pos i hi;rw [← e] at h2;obtain⟨j,c,hj,ej,hc⟩:=F'.leads (hin i hi) (F.lt i hi) (fun b hb=>F.zero i b hi hb) (by omega);obtain⟨k,d,hk,ek,hd⟩:=F.leads (hin' i hi) (t:=p i) (F.lt i hi) (fun b hb=>F'.zero i b hi (by omega)) (by omega);have ji:j=i:=by
   rcases Nat.lt_trichotomy j i with h | h | h
   ·have:=F'.inc j i h hi;omega
   ·exact h
   ·have:=F'.inc i j h hj;omega
  have ki:k=i:=by
   rcases Nat.lt_trichotomy k i with h | h | h
   ·have:=F.inc k i h hi;omega
   ·exact h
   ·have:=F.inc i k h hk;omega
  rw [ji] at hc;rw [ki] at hd;generalize H i (p i)=x at *;generalize H' i (p i)=y at *;have hc0:0<c:=by
   rcases(by omega:0<c∨c≤0) with h | h
   ·exact h
   ·have:=Int.mul_nonpos_of_nonpos_of_nonneg h (by omega:0≤y);omega
  have hd0:0<d:=by
   rcases(by omega:0<d∨d≤0) with h | h
   ·exact h
   ·have:=Int.mul_nonpos_of_nonpos_of_nonneg h (by omega:0≤x);omega
  have h3:y≤c*y:=by
   have:=Int.mul_le_mul (by omega:(1:Int)≤c) (Int.le_refl y) (by omega) (by omega);omega
  have h4:x≤d*x:=by
   have:=Int.mul_le_mul (by omega:(1:Int)≤d) (Int.le_refl x) (by omega) (by omega);omega
  omega
 refine⟨rfl,fun i hi=>⟨(hp i hi).2,?_⟩⟩
 -- what is between two rows
 have hu:Lat r n H (fun b=>1*H i b+(-1)*H' i b):=(Lat.row r n H i hi).comb (hin' i hi) 1 (-1);obtain⟨c,hc⟩:=hu;have hz:∀ k,k<r→c k=0:=by
  have key:∀ q,q≤r→∀ k,k<q→c k=0:=by
   intro q
   induction q with
   | zero=>intro _ k hk;omega
   | succ q ih=>
    intro hq k hk;by_cases hkq:k=q
    ·subst hkq;have h1:1*H i (p k)+(-1)*H' i (p k)=_:=hc (p k) (F.lt k (by omega));rw [F.at_pivot c k (by omega) (ih (by omega))] at h1;have hpos:=F.pos k (by omega);have ek:=(hp k (by omega)).2;have hdk:=hd k (by omega);have hlt:absI (1*H i (p k)+(-1)*H' i (p k))<H k (p k):=by
      rcases Nat.lt_trichotomy k i with h | h | h
      ·rw [F.zero i (p k) hi (F.inc k i h hi),F'.zero i (p k) hi (by rw [ek];exact F'.inc k i h hi)];exact hpos
      ·subst h;rw [hd k hi];rw [show 1*H' k (p k)+(-1)*H' k (p k)=0 by omega,← hdk];exact hpos
      ·obtain⟨a1,a2⟩:=F.red i k h (by omega);obtain⟨b1,b2⟩:=F'.red i k h (by omega);rw [← ek] at b1 b2;unfold absI;split <;> omega
     rw [h1,zaO,zaQ (by omega:0≤H k (p k))] at hlt;rcases(by have:=zbK (c k);omega:absI (c k)=0∨1≤absI (c k)) with h | h
     ·exact zev.1 h
     ·have:=Int.mul_le_mul h (Int.le_refl (H k (p k))) (by omega) (by omega);omega
    ·exact ih (by omega) k (by omega)
  exact key r zL
 intro b hb;have h1:1*H i b+(-1)*H' i b=_:=hc b hb;rw [zp (g:=fun _=>0) fun k hk=>by rw [hz k hk,Int.zero_mul],zay] at h1;omega
end Go.Proofs.YtdedolkgcdlmeaaGreatDoor
namespace Go.Proofs.YtdedolkgcdlmeaaGreatDoor
open Go.RowKit Limbs
variable{m len:Nat}
theorem zei {rows:Nat→Option (List Int)}{k l a:Nat}(hkl:k≤l)(hl:l≤m)(ha:m-k≤a):tidyN rows m l a=tidyN rows m k a:=by
 induction l with
 | zero => obtain rfl : k = 0 := by omega
           rfl
 | succ l ih=>
  by_cases e:k=l+1
  ·rw [e]
  ·have:tidyN rows m (l+1) a=tidyAt (tidyN rows m l) m (m-1-l) a:=rfl;rw [this];unfold tidyAt;rw [if_neg (by omega)];exact ih (by omega) (by omega)
theorem zi4 {rows:Nat→Option (List Int)}{f:Nat}{us:List Int}(h:Ech rows len m)(hm:m≤len)(hus:us.length=len)(hp:∀ i r,rows i=some r→0<r.getD i 0)(k i:Nat)(r:List Int)(hi:f≤i)(hik:i<f+k)(hr:rows i=some r):
  0≤(lowN rows f us k).getD i 0∧(lowN rows f us k).getD i 0<r.getD i 0:=by
 have hl:∀ i r,rows i=some r→r.length=us.length:=fun i r e=>(h.len i r e).trans hus.symm;have him:=h.lt i r hr
 induction k with
 | zero=>omega
 | succ k ih=>
  have hlk:=zbv (f:=f) hl k;unfold lowN lowAt;by_cases e:i=f+k
  ·subst e;rw [hr];dsimp only;unfold lowRow;rw [zi _ _ _ (hlk.trans (hl _ r hr).symm) _ (by omega)];have hy:=hp _ r hr;generalize (lowN rows f us k).getD (f+k) 0=a at *;generalize r.getD (f+k) 0=y at *;have h1:=Int.emod_nonneg a (show y≠0 by omega);have h2:=Int.emod_lt_of_pos a hy;have h3:=Int.mul_ediv_add_emod a y;rw [Int.one_mul,Int.neg_mul,Int.mul_comm];omega
  ·have ih:=ih (by omega);split
   ·exact ih
   ·rename_i r' hr'
    unfold lowRow;rw [zi _ _ _ (hlk.trans (hl _ r' hr').symm) _ (by omega),h.zero _ r' hr' i (by omega)];omega
def Pos (rows:Nat→Option (List Int)):Prop:=∀ i r,rows i=some r→0<r.getD i 0
theorem Pos.tidyN {rows:Nat→Option (List Int)}(hp:Pos rows)(h:Ech rows len m)(hm:m≤len)(k:Nat):Pos (tidyN rows m k):=by
 induction k with
 | zero=>exact hp
 | succ k ih=>
  intro i r e;have hE:=h.all hm k;have e':tidyAt (Go.Proofs.YtdedolkgcdlmeaaGreatDoor.tidyN rows m k) m (m-1-k) i=some r:=e;unfold tidyAt at e';by_cases hi:i=m-1-k
  ·rw [if_pos hi] at e';obtain⟨r0,e0,rfl⟩:=Option.map_eq_some_iff.1 e';rw [← hi] at e0 ⊢;have hl0:=hE.len _ _ e0;have hlt:=hE.lt _ _ e0;rw [zcL (fun i r e=>(hE.len i r e).trans hl0.symm) (by omega) (fun i' r' hi' e'=>hE.zero i' r' e' i (by omega))];exact ih i r0 e0
  ·rw [if_neg hi] at e';exact ih i r e'
theorem zgz {rows:Nat→Option (List Int)}(hp:Pos rows)(h:Ech rows len m)(hm:m≤len){i j:Nat}{ri rj:List Int}(hij:i<j)(hi:tidyN rows m m i=some ri)(hj:tidyN rows m m j=some rj):0≤ri.getD j 0∧ri.getD j 0<rj.getD j 0:=by
 have hjm:=(h.all hm m).lt j rj hj;have hE:=h.all hm (m-1-i);rw [zei (k:=m-1-i) (by omega) zL (by omega)] at hj;rw [zei (k:=m-1-i+1) (by omega) zL (by omega)] at hi;have e':tidyAt (tidyN rows m (m-1-i)) m (m-1-(m-1-i)) i=some ri:=hi;unfold tidyAt at e';have ei:m-1-(m-1-i)=i:=by omega
 rw [ei,if_pos rfl] at e';obtain⟨r0,e0,rfl⟩:=Option.map_eq_some_iff.1 e';exact zi4 hE hm (hE.len _ _ e0) (hp.tidyN h hm _) _ j rj (by omega) (by omega) hj
theorem places (T:Nat→Option (List Int))(m:Nat):∃(r:Nat) (p:Nat→Nat),(∀ k,k<r→p k<m∧∃ v,T (p k)=some v)∧(∀ i k,i<k→k<r→p i<p k)∧(∀ i,i<m→∀ v,T i=some v→∃ k,k<r∧p k=i):=by
 induction m with
 | zero=>exact⟨0,fun _=>0,fun k hk=>absurd hk (Nat.not_lt_zero k),fun i k _ hk=>absurd hk (Nat.not_lt_zero k),fun i hi=>absurd hi (Nat.not_lt_zero i)⟩
 | succ m ih=>
  obtain⟨r,p,h1,h2,h3⟩:=ih;cases e:T m with
  | none=>
   refine⟨r,p,fun k hk=>⟨Nat.lt_succ_of_lt (h1 k hk).1,(h1 k hk).2⟩,h2,fun i hi v hv=>?_⟩;by_cases him:i=m
   ·rw [him,e] at hv;cases hv
   ·exact h3 i (by omega) v hv
  | some w=>
   refine⟨r+1,fun k=>if k=r then m else p k,fun k hk=>?_,fun i k hik hk=>?_,fun i hi v hv=>?_⟩
   ·dsimp only;by_cases hkr:k=r
    ·rw [if_pos hkr];exact⟨Nat.lt_succ_self m,w,e⟩
    ·rw [if_neg hkr];exact⟨Nat.lt_succ_of_lt (h1 k (by omega)).1,(h1 k (by omega)).2⟩
   ·dsimp only;rw [if_neg (show i≠r by omega)];by_cases hkr:k=r
    ·rw [if_pos hkr];exact(h1 i (by omega)).1
    ·rw [if_neg hkr];exact h2 i k hik (by omega)
   ·by_cases him:i=m
    ·exact⟨r,Nat.lt_succ_self r,by dsimp only;rw [if_pos rfl,him]⟩
    ·obtain⟨k,hk,hpk⟩:=h3 i (by omega) v hv;exact⟨k,Nat.lt_succ_of_lt hk,by dsimp only;rw [if_neg (by omega)];exact hpk⟩
theorem zkW {rows:Nat→Option (List Int)}(hp:Pos rows)(h:Ech rows m m):∃(r:Nat) (p:Nat→Nat),Form r m (fun k b=>((tidyN rows m m (p k)).getD []).getD b 0) p∧(∀ k,k<r→∃ v,tidyN rows m m (p k)=some v)∧(∀ i v,tidyN rows m m i=some v→∃ k,k<r∧p k=i):=by
 obtain⟨r,p,h1,h2,h3⟩:=places (tidyN rows m m) m;have hE:=h.all (Nat.le_refl m) m;refine⟨r,p,⟨h2,fun i hi=>(h1 i hi).1,fun i b hi hb=>?_,fun i hi=>?_,fun i k hik hk=>?_⟩,fun k hk=>(h1 k hk).2,fun i v hv=>h3 i (hE.lt i v hv) v hv⟩
 ·obtain⟨-,v,e⟩:=h1 i hi;rw [e];exact hE.zero _ v e b hb
 ·obtain⟨-,v,e⟩:=h1 i hi;rw [e];exact hp.tidyN h (Nat.le_refl m) m _ v e
 ·obtain⟨-,v,e⟩:=h1 i (by omega);obtain⟨-,v',e'⟩:=h1 k hk;rw [e,e'];exact zgz hp h (Nat.le_refl m) (h2 i k hik hk) e e'
theorem Gens.lat{S:List Int→Prop}{x:List Int}(h:Gens len S x)(r:Nat)(M:Nat→Nat→Int)(hS:∀ v,S v→v.length=len→∃ k,k<r∧∀ b,b<len→v.getD b 0=M k b):Lat r len M (fun b=>x.getD b 0):=by
 induction h with
 | base hs hl=>
  obtain⟨k,hk,e⟩:=hS _ hs hl;obtain⟨c,hc⟩:=Lat.row r len M k hk;exact⟨c,fun b hb=>(e b hb).trans (hc b hb)⟩
 | zero=>
  refine⟨fun _=>0,fun b hb=>?_⟩;have e:(List.replicate len (0:Int)).getD b 0=0:=by
   rw [zG,List.getElem?_replicate];split <;> rfl
  have z:∀ r,sumN r (fun k=>0*M k b)=0:=fun r=>by
   induction r with
   | zero=>rfl
   | succ r ih=>simp [sumN] at ih ⊢;omega
  exact e.trans (z r).symm
 | comb x y hu hv h1 h2=>
  obtain⟨c,hc⟩:=Lat.comb h1 h2 x y;exact⟨c,fun b hb=>(zi _ _ _ (hu.len.trans hv.len.symm) b (by rw [hu.len];exact hb)).trans (hc b hb)⟩
theorem zbb{r n mm:Nat}{H M:Nat→Nat→Int}(h:∀ a,a<r→Lat mm n M (H a)):∃ C:Nat→Nat→Int,∀ a b,a<r→b<n→H a b=sumN mm (fun k=>C a k*M k b):=by
 refine⟨fun a=>if ha:a<r then Classical.choose (h a ha) else fun _=>0,fun a b ha hb=>?_⟩;dsimp only;rw [dif_pos ha];exact Classical.choose_spec (h a ha) b hb
theorem zkV {rows:Nat→Option (List Int)}(hp:Pos rows)(h:Ech rows m m){S:List Int→Prop}(ha:Alikes m (RowsOf rows) S)(mm:Nat)(M:Nat→Nat→Int)(Bd:Int)(hBd:0≤Bd)(hM:∀ a b,a<mm→b<m→absI (M a b)≤Bd)
  (hS:∀ v,S v→v.length=m→∃ k,k<mm∧∀ b,b<m→v.getD b 0=M k b) (hS':∀ k,k<mm→∃ v,S v∧v.length=m∧∀ b,b<m→v.getD b 0=M k b):
  ∃ r,r≤m∧r≤mm∧∀ i v,tidyN rows m m i=some v→∀ b,b<m→absI (v.getD b 0)≤r*facP r Bd:=by
 obtain⟨r,p,F,h1,h2⟩:=zkW hp h;have hE:=h.all (Nat.le_refl m) m;have hT:=zeA h (Nat.le_refl m) m;have hrm:∀ k,k<r→k≤p k:=fun k=>by
  induction k with
  | zero=>exact fun _=>Nat.zero_le _
  | succ k ih=>intro hk;have:=ih (by omega);have:=F.inc k (k+1) (by omega) hk;omega
 have hr:r≤m:=by
  by_cases h0:r=0
  ·omega
  ·have:=hrm (r-1) (by omega);have:=F.lt (r-1) (by omega);omega
 obtain⟨C,hC⟩:=zbb (r:=r) (n:=m) (mm:=mm) (H:=fun k b=>((tidyN rows m m (p k)).getD []).getD b 0) (M:=M) (fun a haa=>by
  obtain⟨v,e⟩:=h1 a haa;have g:Gens m S v:=(ha v).1 ((hT v).1 (.base ⟨_,e⟩ (hE.len _ v e)));have:=g.lat mm M hS;simpa only [e,Option.getD_some] using this)
 obtain⟨T,hTT⟩:=zbb (r:=mm) (n:=m) (mm:=r) (H:=M) (M:=fun k b=>((tidyN rows m m (p k)).getD []).getD b 0) (fun a haa=>by
  obtain⟨v,hv,hvl,e⟩:=hS' a haa;have g:Gens m (RowsOf (tidyN rows m m)) v:=(hT v).2 ((ha v).2 (.base hv hvl));obtain⟨c,hc⟩:=g.lat r (fun k b=>((tidyN rows m m (p k)).getD []).getD b 0) (fun u hu hul=>by
   obtain⟨i,ei⟩:=hu;obtain⟨k,hk,rfl⟩:=h2 i u ei;exact⟨k,hk,fun b _=>by rw [ei];rfl⟩)
  exact⟨c,fun b hb=>(e b hb).symm.trans (hc b hb)⟩)
 refine⟨r,hr,zcY r mm m _ M C p F.lt (fun i k hi hki=>F.zero i (p k) hi (F.inc k i hki hi)) (fun i hi=>F.pos i hi) hC,fun i v e b hb=>?_⟩;obtain⟨k,hk,rfl⟩:=h2 i v e;have:=ze8 r mm m (fun k b=>((tidyN rows m m (p k)).getD []).getD b 0) M C T p Bd hBd F.lt (fun i k hi hki=>F.zero i (p k) hi (F.inc k i hki hi)) (fun i hi=>F.pos i hi) (fun i k hi hk hik=>⟨(F.red i k hik hk).1,Int.le_of_lt (F.red i k hik hk).2⟩) hC hTT hM k b hk hb;simpa only [e,Option.getD_some] using this
end Go.Proofs.YtdedolkgcdlmeaaGreatDoor
