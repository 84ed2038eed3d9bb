import Derived.Test.YtdedolkgcdlmeaaGreatDoorHermite
import Derived.Test.YtdedolkgcdlmeaaGreatDoorRegions
import Derived.Test.YtdedolkgcdlmeaaGreatDoorOnes
namespace Go.Proofs.YtdedolkgcdlmeaaGreatDoor
open Go.RowKit Limbs
theorem zfa:∀(zs:List Int) (k:Nat),k < zs.length→(∀ j,j < k→zs.getD j 0=0)→zs.getD k 0≠0→first zs=k
 | [],k,hk,_,_=>absurd hk (by simp)
 | z :: zs,0,_,_,hne=>by
  have:z≠0:=by simpa using hne
  rw [first,if_neg this];rfl
 | z :: zs,k+1,hk,h0,hne=>by
  have e:z=0:=by simpa using h0 0 (by omega)
  have ih:=zfa zs k (by simpa using hk) (fun j hj=>by simpa using h0 (j+1) (by omega)) (by simpa using hne)
  rw [first,if_pos e,ih,if_neg (by omega)]
  omega
theorem FormL.first {n:Nat}{hs:List (List Int)}{p:Nat→Nat}(h:FormL n hs p){k:Nat}(hk:k < hs.length):first hs[k]=p k∧p k < n∧0 < hs[k].getD (p k) 0:=by
 have hlen:=h.len _ (List.getElem_mem hk)
 have h1:=h.form.lt k hk
 have h2:=h.form.pos k hk
 have h3:=h.form.zero k
 simp only [zp hk] at h2 h3
 exact⟨zfa _ _ (by omega) (fun j hj=>h3 j hk hj) (by omega),h1,h2⟩
theorem FormL.red {n:Nat}{hs:List (List Int)}{p:Nat→Nat}(h:FormL n hs p){i k:Nat}(hik:i < k)(hk:k < hs.length):0≤(hs[i]'(by omega)).getD (p k) 0∧(hs[i]'(by omega)).getD (p k) 0 < hs[k].getD (p k) 0:=by
 have:=h.form.red i k hik hk
 simpa only [zp hk,zp (show i < hs.length by omega)] using this
def lastP (p:Nat→Nat)(k:Nat):Int:=if k=0 then -1 else (p (k - 1):Int)
theorem FormL.last {n:Nat}{hs:List (List Int)}{p:Nat→Nat}(h:FormL n hs p){k:Nat}(hk:k < hs.length):lastP p k < (p k:Int):=by
 unfold lastP
 split
 ·omega
 ·have:=h.form.inc (k - 1) k (by omega) hk
  omega
theorem zjo {n:Nat}{hs:List (List Int)}{p:Nat→Nat}(h:FormL n hs p){k:Nat}(hk:k≤hs.length):-1≤lastP p k∧lastP p k < (n:Int)+1:=by
 unfold lastP
 split
 ·omega
 ·have:=h.form.lt (k - 1) (by omega)
  omega
def oftL (hs:List (List Int))(p:Nat→Nat)(xs:List Int)(k:Nat):Int:=xs.getD (p k) 0 / (hs.getD k []).getD (p k) 0
def leftL (hs:List (List Int))(p:Nat→Nat)(zs:List Int):Nat→List Int
 | 0=>zs
 | k+1=>List.zipWith (fun x y=>x - y) (leftL hs p zs k) ((hs.getD k []).map (oftL hs p (leftL hs p zs k) k * ·))
def muchL (hs:List (List Int))(p:Nat→Nat)(zs:List Int):List Int:=(List.range hs.length).map fun k=>oftL hs p (leftL hs p zs k) k
theorem zaZ (hs:List (List Int))(p:Nat→Nat)(zs:List Int):(muchL hs p zs).length=hs.length:=by unfold muchL;simp
theorem zac (m:Nat)(f:Nat→Int)(k:Nat)(hk:k < m):((List.range m).map f).getD k 0=f k:=by
 rw [List.getD_eq_getElem?_getD,List.getElem?_map,List.getElem?_range hk]
 rfl
theorem zdI (hs:List (List Int))(p:Nat→Nat)(zs:List Int)(k:Nat)(hk:k < hs.length):(muchL hs p zs).getD k 0=oftL hs p (leftL hs p zs k) k:=zac _ _ k hk
theorem zbo {n:Nat}{hs:List (List Int)}{p:Nat→Nat}(hF:FormL n hs p){zs:List Int}(hz:zs.length=n):∀ k,k≤hs.length→(leftL hs p zs k).length=n
 | 0,_=>hz
 | k+1,hk=>by
  have h1:=zbo hF hz k (by omega)
  have h2:=hF.len _ (zr (show k < hs.length by omega))
  have el:leftL hs p zs (k+1)=List.zipWith (fun x y=>x - y) (leftL hs p zs k) ((hs.getD k []).map (oftL hs p (leftL hs p zs k) k * ·)):=rfl
  rw [el,zk _ _ _ (by rw [List.length_map,h1,h2])]
  exact h1
theorem zaX {n:Nat}{hs:List (List Int)}{p:Nat→Nat}(hF:FormL n hs p){zs:List Int}(hz:zs.length=n):∀ k,k≤hs.length→∀ b,b < n→(leftL hs p zs k).getD b 0=leftN (fun k b=>(hs.getD k []).getD b 0) p (fun b=>zs.getD b 0) k b
 | 0,_,_,_=>rfl
 | k+1,hk,b,hb=>by
  have h1:=zbo hF hz k (by omega)
  have h2:=hF.len _ (zr (show k < hs.length by omega))
  have h3:=zaX hF hz k (by omega)
  have h4:=hF.form.lt k (by omega)
  have e:leftN (fun k b=>(hs.getD k []).getD b 0) p (fun b=>zs.getD b 0) (k+1) b=leftN (fun k b=>(hs.getD k []).getD b 0) p (fun b=>zs.getD b 0) k b - leftN (fun k b=>(hs.getD k []).getD b 0) p (fun b=>zs.getD b 0) k (p k) / (hs.getD k []).getD (p k) 0 *(hs.getD k []).getD b 0:=rfl
  have el:leftL hs p zs (k+1)=List.zipWith (fun x y=>x - y) (leftL hs p zs k) ((hs.getD k []).map (oftL hs p (leftL hs p zs k) k * ·)):=rfl
  rw [e,← h3 b hb,← h3 (p k) h4,el]
  rw [zl _ _ _ (by rw [List.length_map,h1,h2]) b (by omega),zdF _ _ _ (by omega)]
  rfl
theorem zdq:∀(zs:List Int),first zs < 0↔∀ b,b < zs.length→zs.getD b 0=0
 | []=>⟨fun _ b hb=>absurd hb (by simp),fun _=>by decide⟩
 | z :: zs=>by
  have ih:=zdq zs
  have hge:=zdp zs
  rw [first]
  by_cases h:z=0
  ·rw [if_pos h]
   constructor
   ·intro h1 b hb
    have h2:first zs < 0:=by
     by_cases h3:first zs < 0
     ·exact h3
     ·rw [if_neg h3] at h1;omega
    cases b with
    | zero=>simpa using h
    | succ b=>simpa using ih.1 h2 b (by simpa using hb)
   ·intro h1
    have h2:first zs < 0:=ih.2 fun b hb=>by simpa using h1 (b+1) (by simpa using hb)
    rw [if_pos h2];decide
  ·rw [if_neg h]
   exact⟨fun h1=>absurd h1 (by decide),fun h1=>absurd (by simpa using h1 0 (by simp)) h⟩
theorem zkM {n:Nat}{hs:List (List Int)}{p:Nat→Nat}(hF:FormL n hs p){zs:List Int}(hz:zs.length=n):Lat hs.length n (fun k b=>(hs.getD k []).getD b 0) (fun b=>zs.getD b 0)↔(∀ k,k < hs.length→(leftL hs p zs k).getD (p k) 0 % (hs.getD k []).getD (p k) 0=0)∧first (leftL hs p zs hs.length) < 0:=by
 rw [zjq hF.form,zdq]
 have hl:=zbo hF hz hs.length zL
 constructor
 ·rintro ⟨h1,h2⟩
  exact⟨fun k hk=>by rw [zaX hF hz k (by omega) _ (hF.form.lt k hk)];exact h1 k hk,fun b hb=>by rw [zaX hF hz _ zL b (by omega)];exact h2 b (by omega)⟩
 ·rintro ⟨h1,h2⟩
  exact⟨fun k hk=>by rw [← zaX hF hz k (by omega) _ (hF.form.lt k hk)];exact h1 k hk,fun b hb=>by rw [← zaX hF hz _ zL b hb];exact h2 b (by omega)⟩
theorem zfL {n:Nat}{hs:List (List Int)}{p:Nat→Nat}(hF:FormL n hs p){zs ds:List Int}(hz:zs.length=n)(hd:ds.length=hs.length)(h:∀ b,b < n→zs.getD b 0=sumN hs.length (fun k=>ds.getD k 0 *(hs.getD k []).getD b 0)):muchL hs p zs=ds:=by
 apply zy ((zaZ hs p zs).trans hd.symm)
 intro k hk
 rw [zaZ] at hk
 rw [zdI hs p zs k hk,← zfW hF.form (v:=fun b=>zs.getD b 0) (d:=fun k=>ds.getD k 0) h k hk]
 unfold oftL oftenN
 rw [zaX hF hz k (by omega) _ (hF.form.lt k hk)]
theorem zfM {n:Nat}{hs:List (List Int)}{p:Nat→Nat}(hF:FormL n hs p){zs:List Int}(hz:zs.length=n)(h:Lat hs.length n (fun k b=>(hs.getD k []).getD b 0) (fun b=>zs.getD b 0)):∀ b,b < n→zs.getD b 0=sumN hs.length (fun k=>(muchL hs p zs).getD k 0 *(hs.getD k []).getD b 0):=by
 intro b hb
 obtain⟨d,hd⟩:=h
 have h1:=zfW hF.form hd
 refine(hd b hb).trans (zg fun k hk=>?_)
 rw [zdI hs p zs k hk,← h1 k hk]
 unfold oftL oftenN
 rw [zaX hF hz k (by omega) _ (hF.form.lt k hk)]
theorem zbT {n:Nat}{hs:List (List Int)}(hl:∀ r∈hs,r.length=n){v:List Int}(hv:v.length=n)(h:Lat hs.length n (fun k b=>(hs.getD k []).getD b 0) (fun b=>v.getD b 0)):Gens n (InL hs) v:=by
 obtain⟨c,hc⟩:=h
 have key:∀ m,m≤hs.length→Gens n (InL hs) ((List.range n).map fun b=>sumN m (fun k=>c k *(hs.getD k []).getD b 0)):=by
  intro m
  induction m with
  | zero=>
   intro _
   have e:((List.range n).map fun b=>sumN 0 (fun k=>c k *(hs.getD k []).getD b 0))=List.replicate n 0:=by
    apply zy (by simp)
    intro k hk
    have hk':k < n:=by simpa using hk
    rw [zac _ _ k hk',List.getD_eq_getElem?_getD,List.getElem?_replicate,if_pos hk']
    rfl
   rw [e]
   exact .zero
  | succ m ih=>
   intro hm
   have g:=ih (by omega)
   have hmm:=zr (show m < hs.length by omega)
   have hml:=hl _ hmm
   have e:((List.range n).map fun b=>sumN (m+1) (fun k=>c k *(hs.getD k []).getD b 0))=List.zipWith (fun a b=>1 * a+c m * b) ((List.range n).map fun b=>sumN m (fun k=>c k *(hs.getD k []).getD b 0)) (hs.getD m []):=by
    apply zy (by rw [zk _ _ _ (by rw [List.length_map,List.length_range,hml]),List.length_map,List.length_map])
    intro k hk
    have hk':k < n:=by simpa using hk
    rw [zac _ _ k hk',zl _ _ _ (by rw [List.length_map,List.length_range,hml]) k (by simpa using hk'),zac _ _ k hk',Int.one_mul]
    rfl
   rw [e]
   exact .comb _ _ g (.base hmm hml)
 have e:v=((List.range n).map fun b=>sumN hs.length (fun k=>c k *(hs.getD k []).getD b 0)):=by
  apply zy (by simp [hv])
  intro k hk
  rw [zac _ _ k (by omega)]
  exact hc k (by omega)
 rw [e]
 exact key _ zL
theorem zdA {n:Nat}{hs:List (List Int)}(hl:∀ r∈hs,r.length=n){v:List Int}(hv:v.length=n):Lat hs.length n (fun k b=>(hs.getD k []).getD b 0) (fun b=>v.getD b 0)↔Gens n (InL hs) v:=⟨zbT hl hv,zx⟩
theorem Gens.scale {n:Nat}{S:List Int→Prop}{u:List Int}(h:Gens n S u)(z:Int):Gens n S (u.map (z * ·)):=by
 rw [zbt]
 exact .comb z 0 h h
def sRow (ms:List (List Int))(b x:Nat):List Int:=if x=b then ((ms.getD x []).map (1 * ·)).map (-1 * ·) else (ms.getD x []).map (1 * ·)
def tRow (ms:List (List Int))(a b:Nat)(z:Int)(x:Nat):List Int:=
 if x=a∧a≠b then List.zipWith (fun x y=>x+y) (sRow ms b x) ((ms.getD b []).map (z * ·)) else sRow ms b x
def tList (ms:List (List Int))(a b:Nat)(z:Int):Nat→List (List Int)
 | 0=>[]
 | d+1=>tList ms a b z d ++ [tRow ms a b z (ms.length - 1 - d)]
def wideL (n:Nat)(hs ks:List (List Int)):List (List Int):=hs.map (fun r=>r ++ r) ++ ks.map (fun r=>r ++ List.replicate n 0)
theorem zff (u v:List Int)(j:Nat)(hj:j < u.length):(u ++ v).getD j 0=u.getD j 0:=by
 rw [List.getD_eq_getElem?_getD,List.getD_eq_getElem?_getD,List.getElem?_append_left hj]
theorem zfh (u v:List Int)(j:Nat):(u ++ v).getD (u.length+j) 0=v.getD j 0:=by
 rw [List.getD_eq_getElem?_getD,List.getD_eq_getElem?_getD,List.getElem?_append_right (by omega),Nat.add_sub_cancel_left]
theorem zas (n j:Nat):(List.replicate n (0:Int)).getD j 0=0:=by
 rw [List.getD_eq_getElem?_getD,List.getElem?_replicate]
 split <;> rfl
theorem zbM (x y:Int)(a b c d:List Int)(h:a.length=c.length):List.zipWith (fun u v=>x * u+y * v) (a ++ b) (c ++ d)=List.zipWith (fun u v=>x * u+y * v) a c ++ List.zipWith (fun u v=>x * u+y * v) b d:=List.zipWith_append h
theorem zde (x y:Int)(n:Nat):List.zipWith (fun u v=>x * u+y * v) (List.replicate n (0:Int)) (List.replicate n 0)=List.replicate n 0:=by
 apply zy (by simp)
 intro k hk
 have hk':k < n:=by simpa using hk
 rw [zl _ _ _ (by simp) k (by simpa using hk'),zas]
 simp
theorem zlI {n:Nat}{hs ks:List (List Int)}{v:List Int}(h:Gens n (InL hs) v):Gens (n+n) (InL (wideL n hs ks)) (v ++ v):=by
 induction h with
 | base hv hl=>exact .base (List.mem_append.2 (.inl (List.mem_map.2 ⟨_,hv,rfl⟩))) (by rw [List.length_append,hl])
 | zero=>
  rw [List.replicate_append_replicate]
  exact .zero
 | comb x y hu hv h1 h2=>
  rw [← zbM x y _ _ _ _ (hu.len.trans hv.len.symm)]
  exact .comb x y h1 h2
theorem zlG {n:Nat}{hs ks:List (List Int)}{v:List Int}(h:Gens n (InL ks) v):Gens (n+n) (InL (wideL n hs ks)) (v ++ List.replicate n 0):=by
 induction h with
 | base hv hl=>exact .base (List.mem_append.2 (.inr (List.mem_map.2 ⟨_,hv,rfl⟩))) (by rw [List.length_append,hl,List.length_replicate])
 | zero=>
  rw [List.replicate_append_replicate]
  exact .zero
 | comb x y hu hv h1 h2=>
  have:=Gens.comb x y h1 h2
  rw [zbM x y _ _ _ _ (hu.len.trans hv.len.symm),zde] at this
  exact this
theorem zlH {n:Nat}{hs ks:List (List Int)}(hl:∀ r∈hs,r.length=n)(kl:∀ r∈ks,r.length=n){z:List Int}(h:Gens (n+n) (InL (wideL n hs ks)) z):∃ u v,z=u ++ v∧u.length=n∧v.length=n∧Gens n (InL hs) v∧Gens n (InL ks) (List.zipWith (fun a b=>1 * a+-1 * b) u v):=by
 induction h with
 | base hv _=>
  rcases List.mem_append.1 hv with h | h
  ·obtain⟨r,hr,rfl⟩:=List.mem_map.1 h
   have hrl:=hl r hr
   refine⟨r,r,rfl,hrl,hrl,.base hr hrl,?_⟩
   have e:List.zipWith (fun a b=>1 * a+-1 * b) r r=List.replicate n 0:=by
    apply zy (by rw [zk _ _ _ rfl];simp [hrl])
    intro k hk
    rw [zk _ _ _ rfl] at hk
    rw [zl _ _ _ rfl k hk,zas]
    omega
   rw [e]
   exact .zero
  ·obtain⟨r,hr,rfl⟩:=List.mem_map.1 h
   have hrl:=kl r hr
   refine⟨r,List.replicate n 0,rfl,hrl,by simp,.zero,?_⟩
   have e:List.zipWith (fun a b=>1 * a+-1 * b) r (List.replicate n 0)=r:=by
    apply zy (by rw [zk _ _ _ (by simp [hrl])])
    intro k hk
    rw [zk _ _ _ (by simp [hrl])] at hk
    rw [zl _ _ _ (by simp [hrl]) k hk,zas]
    omega
   rw [e]
   exact .base hr hrl
 | zero=>exact⟨List.replicate n 0,List.replicate n 0,List.replicate_append_replicate.symm,by simp,by simp,.zero,by rw [zde];exact .zero⟩
 | comb x y _ _ h1 h2=>
  obtain⟨u,v,rfl,hu,hv,g1,g2⟩:=h1
  obtain⟨u',v',rfl,hu',hv',g1',g2'⟩:=h2
  refine⟨_,_,zbM x y u v u' v' (hu.trans hu'.symm),by rw [zk _ _ _ (hu.trans hu'.symm),hu],by rw [zk _ _ _ (hv.trans hv'.symm),hv],.comb x y g1 g1',?_⟩
  have e:List.zipWith (fun a b=>1 * a+-1 * b) (List.zipWith (fun a b=>x * a+y * b) u u') (List.zipWith (fun a b=>x * a+y * b) v v')=List.zipWith (fun a b=>x * a+y * b) (List.zipWith (fun a b=>1 * a+-1 * b) u v) (List.zipWith (fun a b=>1 * a+-1 * b) u' v'):=by
   have l1:=zk (fun a b=>x * a+y * b) u u' (hu.trans hu'.symm)
   have l2:=zk (fun a b=>x * a+y * b) v v' (hv.trans hv'.symm)
   have l3:=zk (fun a b=>1 * a+-1 * b) u v (hu.trans hv.symm)
   have l4:=zk (fun a b=>1 * a+-1 * b) u' v' (hu'.trans hv'.symm)
   have m1:(List.zipWith (fun a b=>x * a+y * b) u u').length=(List.zipWith (fun a b=>x * a+y * b) v v').length:=by rw [l1,l2,hu,hv]
   have m2:(List.zipWith (fun a b=>1 * a+-1 * b) u v).length=(List.zipWith (fun a b=>1 * a+-1 * b) u' v').length:=by rw [l3,l4,hu,hu']
   have n1:=zk (fun a b=>1 * a+-1 * b) _ _ m1
   have n2:=zk (fun a b=>x * a+y * b) _ _ m2
   apply zy (by rw [n1,n2,l1,l3])
   intro k hk
   rw [n1,l1,hu] at hk
   have z1:=zl (fun a b=>1 * a+-1 * b) _ _ m1 k (by rw [l1,hu];exact hk)
   have z2:=zl (fun a b=>x * a+y * b) _ _ m2 k (by rw [l3,hu];exact hk)
   have z3:=zl (fun a b=>x * a+y * b) u u' (hu.trans hu'.symm) k (by omega)
   have z4:=zl (fun a b=>x * a+y * b) v v' (hv.trans hv'.symm) k (by omega)
   have z5:=zl (fun a b=>1 * a+-1 * b) u v (hu.trans hv.symm) k (by omega)
   have z6:=zl (fun a b=>1 * a+-1 * b) u' v' (hu'.trans hv'.symm) k (by omega)
   rw [z1,z2,z3,z4,z5,z6]
   simp only [Int.one_mul,Int.mul_add,Int.neg_mul,Int.mul_neg]
   omega
  rw [e]
  exact .comb x y g2 g2'
theorem zjP {n:Nat}{hs ks:List (List Int)}(hl:∀ r∈hs,r.length=n)(kl:∀ r∈ks,r.length=n){v:List Int}(hv:v.length=n):Gens (n+n) (InL (wideL n hs ks)) (List.replicate n 0 ++ v)↔Gens n (InL hs) v∧Gens n (InL ks) v:=by
 constructor
 ·intro h
  obtain⟨a,b,e,ha,hb,g1,g2⟩:=zlH hl kl h
  obtain⟨rfl,rfl⟩:=List.append_inj e (by simp [ha])
  refine⟨g1,?_⟩
  have g:=g2.scale (-1)
  have e:(List.zipWith (fun a b=>1 * a+-1 * b) (List.replicate n 0) v).map (-1 * ·)=v:=by
   apply zy (by rw [List.length_map,zk _ _ _ (by simp [hv])];simp [hv])
   intro k hk
   rw [List.length_map,zk _ _ _ (by simp [hv])] at hk
   rw [zdF _ _ _ (by rw [zk _ _ _ (by simp [hv])];exact hk),zl _ _ _ (by simp [hv]) k hk,zas]
   omega
  rwa [e] at g
 ·rintro ⟨g1,g2⟩
  have g:=Gens.comb 1 (-1) (zlI (ks:=ks) g1) (zlG (hs:=hs) g2)
  rw [zbM 1 (-1) _ _ _ _ rfl] at g
  have e1:List.zipWith (fun u v=>1 * u+-1 * v) v v=List.replicate n 0:=by
   apply zy (by rw [zk _ _ _ rfl];simp [hv])
   intro k hk
   rw [zk _ _ _ rfl] at hk
   rw [zl _ _ _ rfl k hk,zas]
   omega
  have e2:List.zipWith (fun u v=>1 * u+-1 * v) v (List.replicate n 0)=v:=by
   apply zy (by rw [zk _ _ _ (by simp [hv])])
   intro k hk
   rw [zk _ _ _ (by simp [hv])] at hk
   rw [zl _ _ _ (by simp [hv]) k hk,zas]
   omega
  rwa [e1,e2] at g
def behindL (n:Nat)(ts:List (List Int)):List (List Int):=(ts.filter fun r=>decide ((n:Int)≤first r)).map (·.drop n)
theorem zga (n:Nat)(p:Nat→Nat)(r:Nat)(inc:∀ i k,i < k→k < r→p i < p k):∀ m,m≤r→∃ c,c≤m∧(∀ k,k < c→p k < n)∧∀ k,c≤k→k < m→n≤p k
 | 0,_=>⟨0,Nat.le_refl _,fun k hk=>absurd hk (by omega),fun k _ hk=>absurd hk (by omega)⟩
 | m+1,hm=>by
  obtain⟨c,hc,h1,h2⟩:=zga n p r inc m (by omega)
  by_cases h:p m < n
  ·refine⟨m+1,Nat.le_refl _,fun k hk=>?_,fun k h1 h2=>absurd h1 (by omega)⟩
   by_cases hkm:k=m
   ·rw [hkm];exact h
   ·exact Nat.lt_trans (inc k m (by omega) (by omega)) h
  ·refine⟨c,by omega,h1,fun k hk hkm=>?_⟩
   by_cases e:k=m
   ·rw [e];omega
   ·exact h2 k hk (by omega)
theorem zbU (r:List Int)(n j:Nat):(r.drop n).getD j 0=r.getD (n+j) 0:=by
 rw [List.getD_eq_getElem?_getD,List.getElem?_drop,List.getD_eq_getElem?_getD]
theorem ze9 {n m:Nat}{ts:List (List Int)}{p:Nat→Nat}(F:FormL m ts p):∃ c,c≤ts.length∧(∀ k,k < c→p k < n)∧(∀ k,c≤k→k < ts.length→n≤p k)∧(ts.filter fun r=>decide ((n:Int)≤first r))=ts.drop c:=by
 obtain⟨c,hc,h1,h2⟩:=zga n p ts.length F.form.inc ts.length zL
 refine⟨c,hc,h1,h2,?_⟩
 have e:ts=ts.take c ++ ts.drop c:=(List.take_append_drop c ts).symm
 conv=>lhs;rw [e]
 rw [List.filter_append]
 have e1:((ts.take c).filter fun r=>decide ((n:Int)≤first r))=[]:=by
  rw [List.filter_eq_nil_iff]
  intro r hr
  obtain⟨k,hk,e⟩:=List.getElem_of_mem hr
  rw [List.length_take] at hk
  rw [List.getElem_take] at e
  have hf:=(F.first (show k < ts.length by omega)).1
  have:=h1 k (by omega)
  rw [← e,hf]
  simp only [decide_eq_true_eq]
  omega
 have e2:((ts.drop c).filter fun r=>decide ((n:Int)≤first r))=ts.drop c:=by
  rw [List.filter_eq_self]
  intro r hr
  obtain⟨k,hk,e⟩:=List.getElem_of_mem hr
  rw [List.length_drop] at hk
  rw [List.getElem_drop] at e
  have hf:=(F.first (show c+k < ts.length by omega)).1
  have:=h2 (c+k) (by omega) (by omega)
  rw [← e,hf]
  simp only [decide_eq_true_eq]
  omega
 rw [e1,e2,List.nil_append]
theorem zbI {n c:Nat}{ts:List (List Int)}(k j:Nat)(hk:c+k < ts.length):(((ts.drop c).map (·.drop n)).getD k []).getD j 0=(ts.getD (c+k) []).getD (n+j) 0:=by
 have hl:k < ((ts.drop c).map (·.drop n)).length:=by rw [List.length_map,List.length_drop];omega
 rw [zp hl,List.getElem_map,List.getElem_drop,zbU,zp hk]
theorem zhs {f n:Nat}{ts:List (List Int)}{p:Nat→Nat}(F:FormL (f+n) ts p):∃ q,FormL n (behindL f ts) q:=by
 obtain⟨c,hc,-,h2,e⟩:=ze9 (n:=f) F
 refine⟨fun k=>p (c+k) - f,?_⟩
 unfold behindL
 rw [e]
 have hl:((ts.drop c).map (·.drop f)).length=ts.length - c:=by rw [List.length_map,List.length_drop]
 refine⟨fun r hr=>?_,?_⟩
 ·obtain⟨s,hs,rfl⟩:=List.mem_map.1 hr
  rw [List.length_drop,F.len s (List.mem_of_mem_drop hs)]
  omega
 ·rw [hl]
  refine⟨fun i k hik hk=>?_,fun i hi=>?_,fun i b hi hb=>?_,fun i hi=>?_,fun i k hik hk=>?_⟩
  ·have:=F.form.inc (c+i) (c+k) (by omega) (by omega)
   have:=h2 (c+i) (by omega) (by omega)
   omega
  ·have:=F.form.lt (c+i) (by omega)
   have:=h2 (c+i) (by omega) (by omega)
   omega
  ·rw [zbI i b (by omega)]
   exact F.form.zero (c+i) (f+b) (by omega) (by omega)
  ·have h3:=h2 (c+i) (by omega) (by omega)
   rw [zbI i _ (by omega),show f+(p (c+i) - f)=p (c+i) by omega]
   exact F.form.pos (c+i) (by omega)
  ·have h3:=h2 (c+k) (by omega) (by omega)
   rw [zbI i _ (by omega),zbI k _ (by omega),show f+(p (c+k) - f)=p (c+k) by omega]
   exact F.form.red (c+i) (c+k) (by omega) (by omega)
theorem zht {f n:Nat}{ts:List (List Int)}{p:Nat→Nat}(F:FormL (f+n) ts p){v:List Int}(hv:v.length=n):Gens n (InL (behindL f ts)) v↔Gens (f+n) (InL ts) (List.replicate f 0 ++ v):=by
 obtain⟨c,hc,h1,h2,e⟩:=ze9 (n:=f) F
 unfold behindL
 rw [e]
 constructor
 ·intro h
  clear hv
  induction h with
  | base hv hl=>
   obtain⟨s,hs,rfl⟩:=List.mem_map.1 hv
   have hst:=List.mem_of_mem_drop hs
   have hsl:=F.len s hst
   obtain⟨k,hk,es⟩:=List.getElem_of_mem hs
   rw [List.length_drop] at hk
   rw [List.getElem_drop] at es
   have es':List.replicate f 0 ++ s.drop f=s:=by
    apply zy (by rw [List.length_append,List.length_replicate,List.length_drop,hsl];omega)
    intro j hj
    rw [List.length_append,List.length_replicate,List.length_drop,hsl] at hj
    by_cases hjn:j < f
    ·rw [zff _ _ _ (by simpa using hjn),zas]
     have:=F.form.zero (c+k) j (by omega) (by have:=h2 (c+k) (by omega) (by omega);omega)
     rw [zp (by omega),es] at this
     exact this.symm
    ·have hr:=zfh (List.replicate f 0) (s.drop f) (j - f)
     rw [List.length_replicate,show f+(j - f)=j by omega,zbU,show f+(j - f)=j by omega] at hr
     exact hr
   rw [es']
   exact .base hst hsl
  | zero=>
   rw [List.replicate_append_replicate]
   exact .zero
  | comb x y hu hv g1 g2=>
   have:=Gens.comb x y g1 g2
   rw [zbM x y _ _ _ _ rfl,zde] at this
   exact this
 ·intro h
  obtain⟨d,hd⟩:=zx h
  have hz:∀ k,k < c→d k=0:=by
   intro k
   induction k using Nat.strongRecOn with
   | _ k ih=>
    intro hk
    have hp:=h1 k hk
    have ha:=F.form.at_pivot d k (by omega) (fun j hj=>ih j hj (by omega))
    have hb:(List.replicate f 0 ++ v).getD (p k) 0=sumN ts.length (fun j=>d j *(ts.getD j []).getD (p k) 0):=hd (p k) (by omega)
    rw [zff _ _ _ (by simpa using hp),zas] at hb
    have hpos:=F.form.pos k (by omega)
    have h0:d k *(ts.getD k []).getD (p k) 0=0:=ha.symm.trans hb.symm
    rcases Int.mul_eq_zero.1 h0 with h | h
    ·exact h
    ·omega
  apply zbT (fun r hr=>?_) hv
  ·refine⟨fun k=>d (c+k),fun b hb=>?_⟩
   have hb':(List.replicate f 0 ++ v).getD (f+b) 0=sumN ts.length (fun j=>d j *(ts.getD j []).getD (f+b) 0):=hd (f+b) (by omega)
   show v.getD b 0=sumN ((ts.drop c).map (·.drop f)).length (fun k=>d (c+k) *(((ts.drop c).map (·.drop f)).getD k []).getD b 0)
   have hr:=zfh (List.replicate f 0) v b
   rw [List.length_replicate] at hr
   rw [hr] at hb'
   rw [hb']
   have hl:((ts.drop c).map (·.drop f)).length=ts.length - c:=by rw [List.length_map,List.length_drop]
   rw [hl]
   have hs:∀ m,c+m≤ts.length→sumN (c+m) (fun k=>d k *(ts.getD k []).getD (f+b) 0)=sumN m (fun k=>d (c+k) *(((ts.drop c).map (·.drop f)).getD k []).getD b 0):=by
    intro m
    induction m with
    | zero=>
     intro _
     refine(zg (g:=fun _=>0) fun k hk=>?_).trans (zX _)
     rw [hz k hk,Int.zero_mul]
    | succ m ih=>
     intro hm
     have e1:sumN (c+(m+1)) (fun k=>d k *(ts.getD k []).getD (f+b) 0)=sumN (c+m) (fun k=>d k *(ts.getD k []).getD (f+b) 0)+d (c+m) *(ts.getD (c+m) []).getD (f+b) 0:=rfl
     have e2:sumN (m+1) (fun k=>d (c+k) *(((ts.drop c).map (·.drop f)).getD k []).getD b 0)=sumN m (fun k=>d (c+k) *(((ts.drop c).map (·.drop f)).getD k []).getD b 0)+d (c+m) *(((ts.drop c).map (·.drop f)).getD m []).getD b 0:=rfl
     rw [e1,e2,ih (by omega),zbI m b (by omega)]
   have:=hs (ts.length - c) (by omega)
   rw [show c+(ts.length - c)=ts.length by omega] at this
   exact this
  ·obtain⟨s,hs,rfl⟩:=List.mem_map.1 hr
   rw [List.length_drop,F.len s (List.mem_of_mem_drop hs)]
   omega
theorem zjO {n:Nat}{hs ks ts:List (List Int)}{p:Nat→Nat}(hl:∀ r∈hs,r.length=n)(kl:∀ r∈ks,r.length=n)(F:FormL (n+n) ts p)(a:Alikes (n+n) (InL ts) (InL (wideL n hs ks))){v:List Int}(hv:v.length=n):Gens n (InL (behindL n ts)) v↔Gens n (InL hs) v∧Gens n (InL ks) v:=
 (zht F hv).trans ((a _).trans (zjP hl kl hv))
def dotL (n:Nat)(r v:List Int):Int:=sumN n (fun b=>r.getD b 0 * v.getD b 0)
def unitL (n j:Nat):List Int:=(List.range n).map fun b=>if b=j then 1 else 0
def tracedL (ms:List (List Int))(n:Nat):List (List Int):=(List.range n).map fun j=>(ms.map fun r=>r.getD j 0) ++ unitL n j
theorem zbs (ms:List (List Int))(g:List Int→Int)(i:Nat)(hi:i < ms.length):(ms.map g).getD i 0=g (ms.getD i []):=by
 rw [zp hi,List.getD_eq_getElem?_getD,List.getElem?_eq_getElem (by rw [List.length_map];exact hi),Option.getD_some,List.getElem_map]
def ent (ts:List (List Int))(k b:Nat):Int:=(ts.getD k []).getD b 0
theorem zgO (c m:Nat)(f:Nat→Int)(h:∀ k,c≤k→k < c+m→f k=0):sumN (c+m) f=sumN c f:=by
 induction m with
 | zero=>rfl
 | succ m ih=>
  have e:sumN (c+(m+1)) f=sumN (c+m) f+f (c+m):=rfl
  rw [e,ih fun k h1 h2=>h k h1 (by omega),h (c+m) (by omega) (by omega),Int.add_zero]
theorem zfd {n:Nat}{hs ks:List (List Int)}{p:Nat→Nat}(F:FormL n hs p)(a:Alikes n (InL hs) (InL ks)):hs.length≤ks.length:=by
 obtain⟨C,hC⟩:=zJ (r:=hs.length) (n:=n) (mm:=ks.length) (H:=ent hs) (M:=ent ks) fun k hk=>by
  have hm:hs[k]∈hs:=List.getElem_mem hk
  have g:=zx ((a hs[k]).1 (.base hm (F.len _ hm)))
  have e:ent hs k=fun b=>hs[k].getD b 0:=by funext b;unfold ent;rw [zp hk]
  rw [e];exact g
 exact zbx hs.length ks.length n (ent hs) (ent ks) C p F.form.lt (fun i k hi hki=>F.form.zero i (p k) hi (F.form.inc k i hki hi)) (fun i hi=>F.form.pos i hi) hC
section
variable {hs ts:List (List Int)}{n:Nat}{ph p:Nat→Nat}
end
def colsL (ks:List (List Int))(n:Nat):List (List Int):=(List.range n).map fun j=>ks.map fun r=>r.getD j 0
theorem zQ (ks:List (List Int))(n:Nat):(colsL ks n).length=n:=by simp [colsL]
theorem zaS (ks:List (List Int))(n:Nat):∀ r∈colsL ks n,r.length=ks.length:=fun r hr=>by
 obtain⟨j,-,rfl⟩:=List.mem_map.1 hr
 rw [List.length_map]
theorem zaR (ks:List (List Int))(n j:Nat)(hj:j < n):(colsL ks n).getD j []=ks.map fun r=>r.getD j 0:=by
 rw [zp (by rw [zQ];exact hj)]
 simp [colsL]
def idL (r:Nat):List (List Int):=(List.range r).map (unitL r)
end Go.Proofs.YtdedolkgcdlmeaaGreatDoor
