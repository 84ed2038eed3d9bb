import Derived.Test.YtncamilanceahaaGreatTrim
namespace Go.Proofs.YtncamilanceahaaGreat
variable{n j b:Nat}
def sumN:Nat→(Nat→Int)→Int
 | 0,_=>0
 | n+1,f=>sumN n f+f n
theorem zq{f g:Nat→Int}(h:∀ i,i<n→f i=g i):sumN n f=sumN n g:=by
 induction n with
 | zero=>rfl
 | succ n ih=>rw [sumN,sumN,ih fun i hi=>h i (by omega),h n (by omega)]
theorem zdz (n:Nat)(f g:Nat→Int):sumN n (fun i=>f i+g i)=sumN n f+sumN n g:=by
 induction n with
 | zero=>rfl
 | succ n ih=>rw [sumN,sumN,sumN,ih];omega
theorem zbo (n:Nat)(c:Int)(f:Nat→Int):sumN n (fun i=>c*f i)=c*sumN n f:=by
 induction n with
 | zero=>simp [sumN]
 | succ n ih=>rw [sumN,sumN,ih,Int.mul_add]
theorem zbp (n:Nat):sumN n (fun _=>0)=0:=by
 induction n with
 | zero=>rfl
 | succ n ih=>rw [sumN,ih];rfl
theorem zdA (n:Nat)(f:Nat→Int):sumN n (fun i=>- f i)=- sumN n f:=by
 induction n with
 | zero=>rfl
 | succ n ih=>rw [sumN,sumN,ih];omega
theorem zjA (n m:Nat)(f:Nat→Nat→Int):sumN n (fun i=>sumN m (fun j=>f i j))=sumN m (fun j=>sumN n (fun i=>f i j)):=by
 induction n with
 | zero=>rw [sumN,← zbp m];rfl
 | succ n ih=>rw [sumN,ih,← zdz];rfl
def sk (j b:Nat):Nat:=if b<j then b else b+1
theorem zbm(h:b<j):sk j b=b:=if_pos h
theorem zfx(h:¬ b<j):sk j b=b+1:=if_neg h
theorem zjz (g:Nat→Int)(m j:Nat)(hj:j≤m):sumN m (fun k=>g (sk j k))=sumN (m+1) (fun l=>if l=j then 0 else g l):=by
 induction m with
 | zero=>
  obtain rfl:j=0:=by omega
  simp [sumN]
 | succ m ih=>
  by_cases h:j=m+1
  ·subst h;rw [sumN,zq (g:=g) fun k hk=>by rw [zbm (by omega)]];rw [sumN,if_pos rfl,zq (n:=m+1) (g:=g) fun k hk=>by rw [if_neg (by omega)]];rw [sumN,zbm (by omega)];omega
  ·have e:sumN (m+1+1) (fun l=>if l=j then 0 else g l)=sumN (m+1) (fun l=>if l=j then 0 else g l)+(if m+1=j then 0 else g (m+1)):=rfl;rw [e,sumN,ih (by omega),if_neg (by omega),zfx (by omega)]
def sgnN (k:Nat):Int:=if k%2=0 then 1 else -1
theorem zdx (k:Nat):sgnN (k+1)=- sgnN k:=by
 unfold sgnN;split <;> split <;> omega
def det:Nat→(Nat→Nat→Int)→Int
 | 0,_=>1
 | n+1,M=>sumN (n+1) (fun j=>sgnN (n+j)*M n j*det n (fun a b=>M a (sk j b)))
theorem zD:∀ {M M':Nat→Nat→Int},(∀ a b,a<n→b<n→M a b=M' a b)→det n M=det n M':=by
 induction n with
 | zero=>intros;rfl
 | succ n ih=>
  intro M M' h;rw [det,det];apply zq;intro j hj;rw [h n j (by omega) hj,ih (M:=fun a b=>M a (sk j b)) (M':=fun a b=>M' a (sk j b)) fun a b ha hb=>h a _ (by omega) (by unfold sk;split <;> omega)]
def setRow (M:Nat→Nat→Int)(i:Nat)(u:Nat→Int):Nat→Nat→Int:=fun a b=>if a=i then u b else M a b
theorem zjp (M:Nat→Nat→Int)(i:Nat):setRow M i (M i)=M:=by
 funext a b;unfold setRow;split
 ·rename_i h;rw [h]
 ·rfl
theorem z8 (M:Nat→Nat→Int)(i:Nat)(u:Nat→Int)(b:Nat):setRow M i u i b=u b:=if_pos rfl
theorem zam (M:Nat→Nat→Int)(i:Nat)(u:Nat→Int){a:Nat}(h:a≠i)(b:Nat):setRow M i u a b=M a b:=if_neg h
theorem zcc:∀(M:Nat→Nat→Int) (i:Nat) (u v:Nat→Int) (x y:Int),i<n→det n (setRow M i (fun b=>x*u b+y*v b))=x*det n (setRow M i u)+y*det n (setRow M i v):=by
 induction n with
 | zero=>intro M i u v x y h;omega
 | succ n ih=>
  intro M i u v x y h;rw [det,det,det,← zbo,← zbo,← zdz];apply zq;intro j hj;by_cases hin:i=n
  ·subst hin;have e:∀ w:Nat→Int,det i (fun a b=>setRow M i w a (sk j b))=det i (fun a b=>M a (sk j b)):=fun w=>zD fun a b ha hb=>zam M i w (by omega) _;rw [z8,z8,z8,e,e,e];generalize det i (fun a b=>M a (sk j b))=d;generalize sgnN (i+j)=s;rw [Int.mul_add,Int.add_mul,← Int.mul_assoc x,← Int.mul_assoc y,← Int.mul_assoc s,← Int.mul_assoc s,Int.mul_comm s x,Int.mul_comm s y,Int.mul_assoc x s,Int.mul_assoc y s]
  ·have e:∀ w:Nat→Int,(fun a b=>setRow M i w a (sk j b))=setRow (fun a b=>M a (sk j b)) i (fun b=>w (sk j b)):=fun w=>rfl;have hn:∀ w:Nat→Int,setRow M i w n j=M n j:=fun w=>zam M i w (by omega) _;rw [hn,hn,hn,e,e,e,ih _ i (fun b=>u (sk j b)) (fun b=>v (sk j b)) x y (by omega)];generalize det n (setRow (fun a b=>M a (sk j b)) i (fun b=>u (sk j b)))=d1;generalize det n (setRow (fun a b=>M a (sk j b)) i (fun b=>v (sk j b)))=d2;generalize sgnN (n+j)*M n j=s;rw [Int.mul_add,← Int.mul_assoc,← Int.mul_assoc,← Int.mul_assoc,← Int.mul_assoc,Int.mul_comm s x,Int.mul_comm s y]
def swapRows (M:Nat→Nat→Int)(i k:Nat):Nat→Nat→Int:=fun a b=>if a=i then M k b else if a=k then M i b else M a b
theorem zdw (M:Nat→Nat→Int){i k:Nat}(h:i≠k)(u v:Nat→Int):setRow (setRow M i u) k v=setRow (setRow M k v) i u:=by
 funext a b;unfold setRow;split <;> split <;> first | rfl | omega
theorem zfC(halt:∀(M:Nat→Nat→Int) (i k:Nat),i<k→k<n→(∀ b,M i b=M k b)→det n M=0)(M:Nat→Nat→Int)(i k:Nat)(hik:i<k)(hk:k<n):det n (swapRows M i k)=- det n M:=by
 let u:=M i
 let v:=M k
 let w:Nat→Int:=fun b=>1*u b+1*v b
 have hne:i≠k:=by omega
 have h0:det n (setRow (setRow M i w) k w)=0:=halt _ i k hik hk fun b=>by
  rw [z8,zam _ _ _ hne,z8]
 have z:∀ x:Nat→Int,det n (setRow (setRow M i x) k x)=0:=fun x=>halt _ i k hik hk fun b=>by
  rw [z8,zam _ _ _ hne,z8]
 have h1:det n (setRow (setRow M i w) k w)=1*det n (setRow (setRow M i w) k u)+1*det n (setRow (setRow M i w) k v):=zcc _ k u v 1 1 hk;have h2:∀ x:Nat→Int,det n (setRow (setRow M i w) k x)=1*det n (setRow (setRow M i u) k x)+1*det n (setRow (setRow M i v) k x):=fun x=>by
  rw [zdw M hne w x,zdw M hne u x,zdw M hne v x];exact zcc _ i u v 1 1 (by omega)
 rw [h2 u,h2 v,z u,z v] at h1;have e1:setRow (setRow M i u) k v=M:=by
  funext a b;unfold setRow;split
  ·rename_i h;rw [h]
  ·split
   ·rename_i h;rw [h]
   ·rfl
 have e2:setRow (setRow M i v) k u=swapRows M i k:=by
  funext a b;unfold setRow swapRows;by_cases h1:a=k
  ·rw [if_pos h1,if_neg (by omega),if_pos h1]
  ·rw [if_neg h1];by_cases h2:a=i
   ·rw [if_pos h2,if_pos h2]
   ·rw [if_neg h2,if_neg h2,if_neg h1]
 rw [e1,e2] at h1;omega
theorem zjw{l:Nat}(h:l<j)(b:Nat):sk j (sk l b)=sk l (sk (j-1) b):=by
 unfold sk
 repeat' split
 all_goals omega
theorem zeb (n:Nat)(M:Nat→Nat→Int)(h:∀ b,M n b=M (n+1) b):det (n+2) M=0:=by
 let E:Nat→Nat→Int:=fun j l=>if l<j then det n (fun a b=>M a (sk j (sk l b))) else det n (fun a b=>M a (sk j (sk (l-1) b)))
 let s:Nat→Nat→Int:=fun j l=>if l<j then sgnN (n+l) else sgnN (n+l-1)
 let F:Nat→Nat→Int:=fun j l=>if l=j then 0 else sgnN (n+1+j)*M n j *(s j l*M n l*E j l)
 have hin:∀ j,j<n+2→det (n+1) (fun a b=>M a (sk j b))=sumN (n+2) (fun l=>if l=j then 0 else s j l*M n l*E j l):=fun j hj=>by
  rw [← zjz (fun l=>s j l*M n l*E j l) (n+1) j (by omega),det];apply zq;intro k hk;show sgnN (n+k)*M n (sk j k)*det n (fun a b=>M a (sk j (sk k b)))=(if sk j k<j then sgnN (n+sk j k) else sgnN (n+sk j k-1))*M n (sk j k) *(if sk j k<j then det n (fun a b=>M a (sk j (sk (sk j k) b))) else det n (fun a b=>M a (sk j (sk (sk j k-1) b))));by_cases hkj:k<j
  ·rw [zbm hkj,if_pos hkj,if_pos hkj]
  ·rw [zfx hkj,if_neg (by omega),if_neg (by omega)];rfl
 have htot:det (n+2) M=sumN (n+2) (fun j=>sumN (n+2) (fun l=>F j l)):=by
  rw [det];apply zq;intro j hj;rw [hin j hj,← zbo];apply zq;intro l hl;show sgnN (n+1+j)*M (n+1) j *(if l=j then 0 else s j l*M n l*E j l)=(if l=j then 0 else sgnN (n+1+j)*M n j *(s j l*M n l*E j l));rw [← h j];split
  ·rw [Int.mul_zero]
  ·rfl
 have hanti':∀ j l,l<j→F j l=- F l j:=fun j l hlj=>by
  have hE:E l j=E j l:=by
   show(if j<l then _ else _)=(if l<j then _ else _);rw [if_neg (by omega),if_pos hlj];congr 1;funext a b;rw [zjw hlj]
  have hs1:s j l=sgnN (n+l):=if_pos hlj;have hs2:s l j=sgnN (n+j-1):=if_neg (by omega);show(if l=j then 0 else _)=- (if j=l then 0 else _);rw [if_neg (by omega),if_neg (by omega),hE,hs1,hs2];have e1:sgnN (n+1+j)=- sgnN (n+j):=by rw [show n+1+j=(n+j)+1 by omega,zdx]
  have e2:sgnN (n+1+l)=- sgnN (n+l):=by rw [show n+1+l=(n+l)+1 by omega,zdx]
  have e3:sgnN (n+j)=- sgnN (n+j-1):=by rw [← zdx,show n+j-1+1=n+j by omega]
  rw [e1,e2,e3];generalize sgnN (n+l)=p;generalize sgnN (n+j-1)=q;generalize E j l=e;generalize M n j=x;generalize M n l=y;simp only [Int.neg_mul,Int.neg_neg];rw [Int.mul_comm (q*x),Int.mul_comm (p*y) (q*x*e)]
  ac_rfl
 have hanti:∀ j l,F j l=- F l j:=fun j l=>by
  rcases Nat.lt_trichotomy l j with h1 | h1 | h1
  ·exact hanti' j l h1
  ·subst h1;show(if l=l then 0 else _)=- (if l=l then 0 else _);rw [if_pos rfl];rfl
  ·rw [hanti' l j h1];omega
 have h2:sumN (n+2) (fun j=>sumN (n+2) (fun l=>F j l))=- sumN (n+2) (fun j=>sumN (n+2) (fun l=>F j l)):=by
  conv=>lhs;rw [zjA]
  rw [← zdA];apply zq;intro j _;rw [← zdA];apply zq;intro l _;exact hanti l j
 rw [htot];omega
theorem zbC:∀(n:Nat) (M:Nat→Nat→Int) (i k:Nat),i<k→k<n→(∀ b,M i b=M k b)→det n M=0:=by
 intro n
 induction n with
 | zero=>intro M i k h1 h2;omega
 | succ n ih=>
  intro M i k hik hk h;by_cases hkn:k<n
  ·rw [det,← zbp (n+1)];apply zq;intro j hj;rw [ih (fun a b=>M a (sk j b)) i k hik hkn fun b=>h _,Int.mul_zero]
  ·obtain rfl:k=n:=by omega
   obtain⟨m,rfl⟩:∃ m,k=m+1:=⟨k-1,by omega⟩;by_cases him:i=m
   ·subst him;exact zeb i M h
   ·have hsw:det (m+1+1) (swapRows M i m)=- det (m+1+1) M:=by
     rw [det,det,← zdA];apply zq;intro j hj;have e1:swapRows M i m (m+1) j=M (m+1) j:=by
      unfold swapRows;rw [if_neg (by omega),if_neg (by omega)]
     have e2:(fun a b=>swapRows M i m a (sk j b))=swapRows (fun a b=>M a (sk j b)) i m:=rfl;rw [e1,e2,zfC ih _ i m (by omega) (by omega),Int.mul_neg]
    have h0:det (m+1+1) (swapRows M i m)=0:=zeb m _ fun b=>by
     unfold swapRows;rw [if_neg (by omega),if_pos rfl,if_neg (by omega),if_neg (by omega)];exact h b
    omega
theorem zec (n:Nat)(M:Nat→Nat→Int)(i k:Nat)(hik:i<k)(hk:k<n):det n (swapRows M i k)=- det n M:=zfC (zbC n) M i k hik hk
end Go.Proofs.YtncamilanceahaaGreat
namespace Go.Proofs.YtncamilanceahaaGreat
def unitR (k:Nat):Nat→Int:=fun b=>if b=k then 1 else 0
def mulM (n:Nat)(T H:Nat→Nat→Int):Nat→Nat→Int:=fun a b=>sumN n (fun k=>T a k*H k b)
theorem zbS (n k:Nat)(hk:k<n)(f:Nat→Int)(h:∀ i,i<n→i≠k→f i=0):sumN n f=f k:=by
 induction n with
 | zero=>omega
 | succ n ih=>
  by_cases hkn:k=n
  ·subst hkn;rw [sumN,zq (g:=fun _=>0) fun i hi=>h i (by omega) (by omega),zbp];omega
  ·rw [sumN,ih (by omega) fun i hi hne=>h i (by omega) hne,h n (by omega) (by omega)];omega
theorem zg2 (n:Nat)(M:Nat→Nat→Int)(i:Nat)(hi:i<n):det n (setRow M i (fun _=>0))=0:=by
 have h:=zcc M i (fun _=>0) (fun _=>0) 0 0 hi;have e:(fun b:Nat=>(0:Int) *(fun _=>(0:Int)) b+0 *(fun _=>(0:Int)) b)=fun _=>0:=by funext b;simp
 rw [e] at h;simpa using h
theorem zcQ (n:Nat)(M:Nat→Nat→Int)(i:Nat)(hi:i<n)(m:Nat)(c:Nat→Int)(v:Nat→Nat→Int):
  det n (setRow M i (fun b=>sumN m (fun k=>c k*v k b)))=sumN m (fun k=>c k*det n (setRow M i (v k))):=by
 induction m with
 | zero=>rw [sumN];exact zg2 n M i hi
 | succ m ih=>
  have e:(fun b=>sumN (m+1) (fun k=>c k*v k b))=fun b=>1 *(fun b=>sumN m (fun k=>c k*v k b)) b+c m *(v m) b:=by
   funext b;rw [sumN];simp
  rw [e,zcc M i _ (v m) 1 (c m) hi,ih,sumN];omega
theorem zg3 (n:Nat):det n (fun a b=>unitR a b)=1:=by
 induction n with
 | zero=>rfl
 | succ n ih=>
  rw [det,zbS (n+1) n (by omega) _ fun j hj hne=>by
   show sgnN (n+j) *(if j=n then 1 else 0)*_=0;rw [if_neg hne,Int.mul_zero,Int.zero_mul]]
  have e:det n (fun a b=>unitR a (sk n b))=det n (fun a b=>unitR a b):=zD fun a b _ hb=>by rw [zbm hb]
  rw [e,ih];show sgnN (n+n) *(if n=n then 1 else 0)*1=1;rw [if_pos rfl];have:sgnN (n+n)=1:=by unfold sgnN;rw [if_pos (by omega)]
  rw [this];rfl
theorem pigeon:∀(m:Nat) (f:Nat→Nat),(∀ i,i≤m→f i<m)→∃ i k,i<k∧k≤m∧f i=f k:=by
 intro m
 induction m with
 | zero=>intro f h;exact absurd (h 0 (by omega)) (by omega)
 | succ m ih=>
  intro f h;by_cases hex:∃ i,i≤m∧f i=f (m+1)
  ·obtain⟨i,hi,e⟩:=hex;exact⟨i,m+1,by omega,by omega,e⟩
  ·have hne:∀ i,i≤m→f i≠f (m+1):=fun i hi e=>hex ⟨i,hi,e⟩;have hlast:=h (m+1) (by omega);obtain⟨i,k,hik,hk,e⟩:=ih (fun i=>if f i<f (m+1) then f i else f i-1) fun i hi=>by
    have h1:=h i (by omega);have h2:=hne i hi;show(if f i<f (m+1) then f i else f i-1)<m;split <;> omega
   refine⟨i,k,hik,by omega,?_⟩;have h1:=hne i (by omega);have h2:=hne k (by omega);split at e <;> split at e <;> omega
theorem zgY (n:Nat)(H:Nat→Nat→Int):∀(m:Nat),m≤n→∀ φ:Nat→Nat,(∀ i,i<n→φ i<n)→(∀ i,m≤i→i<n→φ i=i)→det n (fun a b=>H (φ a) b)=det n (fun a b=>unitR (φ a) b)*det n H:=by
 intro m
 induction m with
 | zero=>
  intro _ φ _ h;have e1:det n (fun a b=>H (φ a) b)=det n H:=zD fun a b ha _=>by rw [h a (by omega) ha]
  have e2:det n (fun a b=>unitR (φ a) b)=det n (fun a b=>unitR a b):=zD fun a b ha _=>by rw [h a (by omega) ha]
  rw [e1,e2,zg3];omega
 | succ m ih=>
  intro hm φ hlt h;have zero:∀ i k,i<k→k<n→φ i=φ k→det n (fun a b=>H (φ a) b)=det n (fun a b=>unitR (φ a) b)*det n H:=fun i k hik hk e=>by
   rw [zbC n (fun a b=>H (φ a) b) i k hik hk fun b=>by rw [e],zbC n (fun a b=>unitR (φ a) b) i k hik hk fun b=>by rw [e],Int.zero_mul]
  by_cases hmm:φ m=m
  ·exact ih (by omega) φ hlt fun i h1 h2=>by
    by_cases hi:i=m
    ·rw [hi];exact hmm
    ·exact h i (by omega) h2
  ·by_cases hbig:m<φ m
   ·exact zero m (φ m) hbig (hlt m (by omega)) (h (φ m) (by omega) (hlt m (by omega))).symm
   ·by_cases hex:∃ i,i<m∧φ i=m
    ·obtain⟨i,him,hi⟩:=hex;have hsw:=ih (by omega) (fun a=>if a=i then φ m else if a=m then φ i else φ a) (fun a ha=>by
      show(if a=i then φ m else if a=m then φ i else φ a)<n;split
      ·exact hlt m (by omega)
      ·split
       ·exact hlt i (by omega)
       ·exact hlt a ha) (fun a h1 h2=>by
      show(if a=i then φ m else if a=m then φ i else φ a)=a;rw [if_neg (by omega)];split
      ·rename_i e;rw [e];exact hi
      ·exact h a (by omega) h2)
     have e:∀ G:Nat→Nat→Int,(fun a b=>G (if a=i then φ m else if a=m then φ i else φ a) b)=swapRows (fun a b=>G (φ a) b) i m:=fun G=>by
      funext a b;unfold swapRows;split
      ·rfl
      ·split <;> rfl
     rw [e H,e (fun a b=>unitR a b),zec n _ i m him (by omega),zec n _ i m him (by omega),Int.neg_mul] at hsw;have e2:det n (fun a b=>(fun a b=>unitR a b) (φ a) b)=det n (fun a b=>unitR (φ a) b):=rfl;rw [e2] at hsw;omega
    ·have hsmall:(∀ i,i≤m→φ i<m)∨∃ i,i≤m∧m<φ i:=by
      by_cases hx:∃ i,i≤m∧m<φ i
      ·exact .inr hx
      ·refine .inl fun i hi=>?_;have h1:¬ m<φ i:=fun hx'=>hx ⟨i,hi,hx'⟩;have h2:φ i≠m:=fun e=>by
        by_cases hi':i=m
        ·exact hmm (hi' ▸ e)
        ·exact hex ⟨i,by omega,e⟩
       omega
     rcases hsmall with hs |⟨i,hi,hx⟩
     ·obtain⟨i,k,hik,hk,e⟩:=pigeon m φ hs;exact zero i k hik (by omega) e
     ·exact zero i (φ i) (by omega) (hlt i (by omega)) (h (φ i) (by omega) (hlt i (by omega))).symm
theorem zdF (n k:Nat)(hk:k<n)(H:Nat→Nat→Int)(b:Nat):sumN n (fun q=>unitR k q*H q b)=H k b:=by
 rw [zbS n k hk _ fun i _ hne=>by show(if i=k then 1 else 0)*_=0;rw [if_neg hne,Int.zero_mul]];show(if k=k then 1 else 0)*_=_;rw [if_pos rfl,Int.one_mul]
theorem zjB (n:Nat)(c:Nat→Int)(b:Nat)(hb:b<n):sumN n (fun k=>c k*unitR k b)=c b:=by
 rw [zbS n b hb _ fun i _ hne=>by show c i *(if b=i then 1 else 0)=0;rw [if_neg (by omega),Int.mul_zero]];show c b *(if b=b then 1 else 0)=c b;rw [if_pos rfl,Int.mul_one]
theorem zg1 (n:Nat)(H:Nat→Nat→Int):∀ q,q≤n→∀(T:Nat→Nat→Int) (φ:Nat→Nat),(∀ i,i<n→φ i<n)→(∀ i,q≤i→i<n→∀ b,T i b=unitR (φ i) b)→det n (mulM n T H)=det n T*det n H:=by
 intro q
 induction q with
 | zero=>
  intro _ T φ hφ h;have e1:det n (mulM n T H)=det n (fun a b=>H (φ a) b):=zD fun a b ha _=>by
   show sumN n (fun k=>T a k*H k b)=_;rw [zq (g:=fun k=>unitR (φ a) k*H k b) fun k _=>by rw [h a (by omega) ha]];exact zdF n (φ a) (hφ a ha) H b
  have e2:det n T=det n (fun a b=>unitR (φ a) b):=zD fun a b ha _=>h a (by omega) ha b;rw [e1,e2];exact zgY n H n (Nat.le_refl _) φ hφ fun i h1 h2=>by omega
 | succ q ih=>
  intro hq T φ hφ h;have hqn:q<n:=by omega
  have e1:det n (mulM n T H)=sumN n (fun k=>T q k*det n (mulM n (setRow T q (unitR k)) H)):=by
   have e:mulM n T H=setRow (mulM n T H) q (fun b=>sumN n (fun k=>T q k*H k b)):=(zjp (mulM n T H) q).symm;rw [e,zcQ n _ q hqn];apply zq;intro k hk;congr 1;apply zD;intro a b ha hb;by_cases haq:a=q
   ·rw [haq,z8];show H k b=sumN n (fun j=>setRow T q (unitR k) q j*H j b);rw [zq (g:=fun j=>unitR k j*H j b) fun j _=>by rw [z8],zdF n k hk]
   ·rw [zam _ _ _ haq];show sumN n (fun j=>T a j*H j b)=sumN n (fun j=>setRow T q (unitR k) a j*H j b);exact zq fun j _=>by rw [zam _ _ _ haq]
  have e2:det n T=sumN n (fun k=>T q k*det n (setRow T q (unitR k))):=by
   have e:det n T=det n (setRow T q (fun b=>sumN n (fun k=>T q k*unitR k b))):=zD fun a b ha hb=>by
    by_cases haq:a=q
    ·rw [haq,z8,zjB n _ b hb]
    ·rw [zam _ _ _ haq]
   rw [e,zcQ n _ q hqn]
  rw [e1,e2,Int.mul_comm,← zbo];apply zq;intro k hk;rw [ih (by omega) (setRow T q (unitR k)) (fun i=>if i=q then k else φ i) (fun i hi=>by
   show(if i=q then k else φ i)<n;split
   ·exact hk
   ·exact hφ i hi) (fun i h1 h2 b=>by
   by_cases hiq:i=q
   ·rw [hiq,z8,if_pos rfl]
   ·rw [zam _ _ _ hiq,if_neg hiq];exact h i (by omega) h2 b)]
  rw [← Int.mul_assoc,Int.mul_comm (det n H)]
theorem zg0 (n:Nat)(T H:Nat→Nat→Int):det n (mulM n T H)=det n T*det n H:=
 zg1 n H n (Nat.le_refl _) T (fun _=>0) (fun i hi=>by omega) (fun i h1 h2=>by omega)
end Go.Proofs.YtncamilanceahaaGreat
namespace Go.Proofs.YtncamilanceahaaGreat
variable{x:Int}
def absI (z:Int):Int:=if z<0 then -z else z
theorem zbs (z:Int):0≤absI z:=by unfold absI;split <;> omega
theorem zfQ (x y:Int):absI (x+y)≤absI x+absI y:=by unfold absI;repeat' split;all_goals omega
theorem zaH (x:Int):absI (-x)=absI x:=by unfold absI;repeat' split;all_goals omega
theorem zaI(h:0≤x):absI x=x:=by unfold absI;rw [if_neg (by omega)]
theorem zdM:absI x=0↔x=0:=by unfold absI;split <;> omega
theorem zaG (x y:Int):absI (x*y)=absI x*absI y:=by
 have key:∀ a b:Int,0≤a→0≤b→absI (a*b)=absI a*absI b:=fun a b ha hb=>by
  rw [zaI ha,zaI hb,zaI (Int.mul_nonneg ha hb)]
 rcases(by omega:0≤x∨0≤-x) with hx | hx <;> rcases(by omega:0≤y∨0≤-y) with hy | hy
 ·exact key x y hx hy
 ·have:=key x (-y) hx hy;rwa [Int.mul_neg,zaH,zaH] at this
 ·have:=key (-x) y hx hy;rwa [Int.neg_mul,zaH,zaH] at this
 ·have:=key (-x) (-y) hx hy;rwa [Int.neg_mul_neg,zaH,zaH] at this
theorem zdK (k:Nat):absI (sgnN k)=1:=by unfold sgnN absI;split <;> rfl
theorem zdL (n:Nat)(f:Nat→Int)(C:Int)(h:∀ i,i<n→absI (f i)≤C):absI (sumN n f)≤n*C:=by
 induction n with
 | zero=>simp [sumN,absI]
 | succ n ih=>
  have h1:=ih fun i hi=>h i (by omega);have h2:=h n (by omega);have h3:=zfQ (sumN n f) (f n);have e:((n+1:Nat):Int)*C=n*C+C:=by rw [Int.natCast_add,Int.add_mul];simp
  rw [sumN,e];omega
def facP:Nat→Int→Int
 | 0,_=>1
 | n+1,B=>(n+1:Nat) *(B*facP n B)
theorem zgZ{n:Nat}:∀(M:Nat→Nat→Int) (B:Int),0≤B→(∀ a b,a<n→b<n→absI (M a b)≤B)→absI (det n M)≤facP n B:=by
 induction n with
 | zero=>intro M B _ _;exact(by decide:absI (1:Int)≤1)
 | succ n ih=>
  intro M B hB h;rw [det];refine zdL (n+1) _ (B*facP n B) fun j hj=>?_;rw [zaG,zaG,zdK,Int.one_mul];have h1:=h n j (by omega) hj;have h2:=ih (fun a b=>M a (sk j b)) B hB fun a b ha hb=>h a _ (by omega) (by unfold sk;split <;> omega);exact Int.mul_le_mul h1 h2 (zbs _) hB
def prodN:Nat→(Nat→Int)→Int
 | 0,_=>1
 | n+1,d=>prodN n d*d n
theorem zdo (n:Nat)(d:Nat→Int)(h:∀ i,i<n→1≤d i):1≤prodN n d:=by
 induction n with
 | zero=>exact(by decide:(1:Int)≤1)
 | succ n ih=>
  have h1:=ih fun i hi=>h i (by omega);have h2:=h n (by omega);have:=Int.mul_le_mul h1 h2 (by decide) (by omega);simpa [prodN] using this
theorem ziY (n:Nat)(d:Nat→Int)(h:∀ i,i<n→1≤d i)(k:Nat)(hk:k<n):d k≤prodN n d:=by
 induction n with
 | zero=>omega
 | succ n ih=>
  have h0:=zdo n d fun i hi=>h i (by omega);have h2:=h n (by omega);by_cases hkn:k=n
  ·subst hkn;have:=Int.mul_le_mul h0 (Int.le_refl (d k)) (by omega) (by omega);simpa [prodN] using this
  ·have h1:=ih (fun i hi=>h i (by omega)) (by omega);have:=Int.mul_le_mul h1 h2 (by decide) (by omega);simp only [Int.mul_one] at this;exact this
theorem zed (n:Nat)(M:Nat→Nat→Int)(h:∀ a b,a<n→b<a→M a b=0):det n M=prodN n (fun i=>M i i):=by
 induction n with
 | zero=>rfl
 | succ n ih=>
  rw [det,zbS (n+1) n (by omega) _ fun j hj hne=>by rw [h n j (by omega) (by omega),Int.mul_zero,Int.zero_mul]];have e:det n (fun a b=>M a (sk n b))=det n M:=zD fun a b _ hb=>by rw [zbm hb]
  rw [e,ih fun a b ha hb=>h a b (by omega) hb];have:sgnN (n+n)=1:=by unfold sgnN;rw [if_pos (by omega)]
  rw [this,Int.one_mul,prodN,Int.mul_comm]
theorem zjy (n:Nat)(f:Nat→Int)(h:sumN n f≠0):∃ k,k<n∧f k≠0:=by
 induction n with
 | zero=>exact absurd rfl h
 | succ n ih=>
  by_cases hf:f n=0
  ·rw [sumN,hf,Int.add_zero] at h;obtain⟨k,hk,hne⟩:=ih h;exact⟨k,by omega,hne⟩
  ·exact⟨n,by omega,hf⟩
theorem zd6 (r m:Nat)(H M C:Nat→Nat→Int)(hH:∀ a b,a<r→b<r→H a b=sumN m (fun k=>C a k*M k b))(h0:det r H≠0):
  ∀ q,q≤r→∃ φ:Nat→Nat,(∀ a,a<q→φ a<m)∧det r (fun a b=>if a<q then M (φ a) b else H a b)≠0:=by
 intro q
 induction q with
 | zero=>
  intro _;refine⟨fun _=>0,fun a h=>by omega,?_⟩;have e:det r (fun a b=>if a<0 then M 0 b else H a b)=det r H:=zD fun a b _ _=>if_neg (by omega);rw [e];exact h0
 | succ q ih=>
  intro hq;obtain⟨φ,h1,h2⟩:=ih (by omega)
  let X:Nat→Nat→Int:=fun a b=>if a<q then M (φ a) b else H a b
  have e:det r X=det r (setRow X q (fun b=>sumN m (fun k=>C q k*M k b))):=zD fun a b ha hb=>by
   by_cases haq:a=q
   ·rw [haq,z8];show(if q<q then _ else H q b)=_;rw [if_neg (by omega)];exact hH q b (by omega) hb
   ·rw [zam _ _ _ haq]
  have h3:det r (setRow X q (fun b=>sumN m (fun k=>C q k*M k b)))≠0:=by rw [← e];exact h2
  rw [zcQ r X q (by omega)] at h3;obtain⟨k,hk,hne⟩:=zjy m _ h3;refine⟨fun a=>if a=q then k else φ a,fun a ha=>?_,fun hz=>hne ?_⟩
  ·show(if a=q then k else φ a)<m;split
   ·exact hk
   ·exact h1 a (by omega)
  ·have e2:det r (setRow X q (M k))=det r (fun a b=>if a<q+1 then M (if a=q then k else φ a) b else H a b):=zD fun a b ha hb=>by
    by_cases haq:a=q
    ·rw [haq,z8,if_pos (by omega),if_pos rfl]
    ·rw [zam _ _ _ haq];show(if a<q then M (φ a) b else H a b)=_;by_cases hlt:a<q
     ·rw [if_pos hlt,if_pos (by omega),if_neg haq]
     ·rw [if_neg hlt,if_neg (by omega)]
   rw [e2,hz,Int.mul_zero]
theorem zi2 (r m n:Nat)(H M C:Nat→Nat→Int)(p:Nat→Nat)(hp:∀ k,k<r→p k<n)(hzero:∀ i k,i<r→k<i→H i (p k)=0)(hpos:∀ i,i<r→1≤H i (p i))
  (hHM:∀ a b,a<r→b<n→H a b=sumN m (fun k=>C a k*M k b)):r≤m:=by
 by_cases hrm:r≤m
 ·exact hrm
 have hD:det r (fun a b=>H a (p b))=prodN r (fun k=>H k (p k)):=zed r _ fun a b ha hb=>hzero a b ha hb;have hD1:=zdo r (fun k=>H k (p k)) hpos;obtain⟨φ,hφ,hne⟩:=zd6 r m (fun a b=>H a (p b)) (fun k b=>M k (p b)) C (fun a b ha hb=>hHM a (p b) ha (hp b hb)) (by rw [hD];omega) r (Nat.le_refl _);obtain⟨i,k,hik,hk,e⟩:=pigeon m φ fun i hi=>hφ i (by omega);refine absurd (zbC r _ i k hik (by omega) fun b=>?_) hne;show(if i<r then M (φ i) (p b) else H i (p b))=if k<r then M (φ k) (p b) else H k (p b);rw [if_pos (by omega),if_pos (by omega),e]
theorem zhA (r m n:Nat)(H M C T:Nat→Nat→Int)(p:Nat→Nat)(B:Int)(hB:0≤B)
  (hp:∀ k,k<r→p k<n) (hzero:∀ i k,i<r→k<i→H i (p k)=0) (hpos:∀ i,i<r→1≤H i (p i)) (hred:∀ i k,i<r→k<r→i<k→0≤H i (p k)∧H i (p k)≤H k (p k))
  (hHM:∀ a b,a<r→b<n→H a b=sumN m (fun k=>C a k*M k b)) (hMH:∀ a b,a<m→b<n→M a b=sumN r (fun k=>T a k*H k b))
  (hM:∀ a b,a<m→b<n→absI (M a b)≤B) (i j:Nat) (hi:i<r) (hj:j<n):absI (H i j)≤r*facP r B:=by
 have hD:det r (fun a b=>H a (p b))=prodN r (fun k=>H k (p k)):=zed r _ fun a b ha hb=>hzero a b ha hb;have hD1:=zdo r (fun k=>H k (p k)) hpos;obtain⟨φ,hφ,hne⟩:=zd6 r m (fun a b=>H a (p b)) (fun k b=>M k (p b)) C (fun a b ha hb=>hHM a (p b) ha (hp b hb)) (by rw [hD];omega) r (Nat.le_refl _);have hne':det r (fun a b=>M (φ a) (p b))≠0:=by
  intro h;apply hne;have e:det r (fun a b=>if a<r then M (φ a) (p b) else H a (p b))=det r (fun a b=>M (φ a) (p b)):=zD fun a b ha _=>if_pos ha;exact e.trans h
 have hmul:∀ J:Nat→Nat,(∀ b,b<r→J b<n)→det r (fun a b=>M (φ a) (J b))=det r (fun a k=>T (φ a) k)*det r (fun a b=>H a (J b)):=fun J hJ=>by
  rw [← zg0];exact zD fun a b ha hb=>hMH (φ a) (J b) (hφ a ha) (hJ b hb)
 have hT:det r (fun a k=>T (φ a) k)≠0:=fun h=>hne' (by rw [hmul p hp,h,Int.zero_mul]);have hmin:∀ J:Nat→Nat,(∀ b,b<r→J b<n)→absI (det r (fun a b=>H a (J b)))≤facP r B:=fun J hJ=>by
  have h1:=zgZ (n:=r) (fun a b=>M (φ a) (J b)) B hB fun a b ha hb=>hM (φ a) (J b) (hφ a ha) (hJ b hb);rw [hmul J hJ,zaG] at h1;have h2:1≤absI (det r (fun a k=>T (φ a) k)):=by
   have:=zbs (det r (fun a k=>T (φ a) k));have h3:absI (det r (fun a k=>T (φ a) k))≠0:=fun h=>hT (zdM.1 h);omega
  have h3:=Int.mul_le_mul h2 (Int.le_refl (absI (det r (fun a b=>H a (J b))))) (zbs _) (by omega);omega
 -- the last row is one of the others
 let X:Nat→Nat→Int:=fun a b=>H (if a<r then a else i) (if b<r then p b else j)
 have hX:det (r+1) X=0:=zbC (r+1) X i r hi (by omega) fun b=>by
  show H (if i<r then i else i) _=H (if r<r then r else i) _;rw [if_pos hi,if_neg (Nat.lt_irrefl r)]
 rw [det,sumN] at hX;have hlast:X r r=H i j:=by
  show H (if r<r then r else i) (if r<r then p r else j)=H i j;rw [if_neg (Nat.lt_irrefl r),if_neg (Nat.lt_irrefl r)]
 have hm:det r (fun a b=>X a (sk r b))=prodN r (fun k=>H k (p k)):=by
  rw [← hD];exact zD fun a b ha hb=>by
   show H (if a<r then a else i) (if sk r b<r then p (sk r b) else j)=_;rw [zbm hb,if_pos ha,if_pos hb]
 have hs:sgnN (r+r)=1:=by unfold sgnN;rw [if_pos (by omega)]
 rw [hlast,hm,hs,Int.one_mul] at hX;have hsum:absI (sumN r (fun k=>sgnN (r+k)*X r k*det r (fun a b=>X a (sk k b))))≤r *(prodN r (fun k=>H k (p k))*facP r B):=by
  refine zdL r _ _ fun k hk=>?_;rw [zaG,zaG,zdK,Int.one_mul];have hXk:X r k=H i (p k):=by
   show H (if r<r then r else i) (if k<r then p k else j)=_;rw [if_neg (by omega),if_pos hk]
  have h1:absI (X r k)≤prodN r (fun k=>H k (p k)):=by
   rw [hXk];have hg:=ziY r (fun k=>H k (p k)) hpos k hk;rcases Nat.lt_trichotomy i k with h | h | h
   ·obtain⟨h1,h2⟩:=hred i k hi hk h;have hg':H k (p k)≤prodN r (fun k=>H k (p k)):=hg;rw [zaI h1];omega
   ·subst h;have:=hpos i hi;rw [zaI (by omega)];exact hg
   ·rw [hzero i k hi h];show(if (0:Int)<0 then -0 else 0)≤_;rw [if_neg (by decide)];omega
  have h2:absI (det r (fun a b=>X a (sk k b)))≤facP r B:=by
   have e:det r (fun a b=>X a (sk k b))=det r (fun a b=>H a (if sk k b<r then p (sk k b) else j)):=zD fun a b ha _=>by
    show H (if a<r then a else i) _=_;rw [if_pos ha]
   rw [e];exact hmin _ fun b _=>by
    show(if sk k b<r then p (sk k b) else j)<n;split
    ·rename_i h;exact hp _ h
    ·exact hj
  exact Int.mul_le_mul h1 h2 (zbs _) (by omega)
 generalize sumN r (fun k=>sgnN (r+k)*X r k*det r (fun a b=>X a (sk k b)))=S at *;generalize prodN r (fun k=>H k (p k))=D at *;have h5:absI (H i j*D)≤r *(D*facP r B):=by
  have:H i j*D=- S:=by omega
  rw [this,zaH];exact hsum
 rw [zaG,zaI (by omega:0≤D),← Int.mul_assoc,Int.mul_comm (r:Int) D,Int.mul_assoc,Int.mul_comm _ D] at h5;exact Int.le_of_mul_le_mul_left h5 (by omega)
end Go.Proofs.YtncamilanceahaaGreat
