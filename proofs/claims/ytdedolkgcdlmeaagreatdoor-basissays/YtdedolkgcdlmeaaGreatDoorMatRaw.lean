import Derived.Test.YtdedolkgcdlmeaaGreatDoorForms
import Derived.ProofKit
import Derived.Lib.SmallJoins
import Derived.ChangeOld
import Derived.Deep.SlicePairs
set_option maxRecDepth 100000
set_option maxHeartbeats 1600000
namespace Go.Proofs.YtdedolkgcdlmeaaGreatDoor
open Go.RowKit Limbs
variable {n base m k len size sb B nv S0:Nat}{v:Value}{W w wr w':World}{zs:List Int}
def InL (hs:List (List Int)):List Int→Prop:=fun v=>v∈hs
structure FormL (n:Nat)(hs:List (List Int))(p:Nat→Nat):Prop where
 len:∀ r∈hs,r.length=n
 form:Form hs.length n (fun k b=>(hs.getD k []).getD b 0) p
theorem zm {hs:List (List Int)}(hk:k<hs.length):hs.getD k []=hs[k]:=by
 rw [zG,List.getElem?_eq_getElem hk,Option.getD_some]
theorem zq {hs:List (List Int)}(hk:k<hs.length):hs.getD k []∈hs:=by
 rw [zm hk];exact List.getElem_mem hk
theorem zx{hs:List (List Int)}{v:List Int}(h:Gens n (InL hs) v):Lat hs.length n (fun k b=>(hs.getD k []).getD b 0) (fun b=>v.getD b 0):=
 h.lat _ _ (fun v hv hl=>by
  obtain⟨k,hk,e⟩:=List.getElem_of_mem hv;exact⟨k,hk,fun b _=>by rw [zm hk,e]⟩)
theorem zcN{hs hs':List (List Int)}{p p':Nat→Nat}(h:FormL n hs p)(h':FormL n hs' p')(ha:Alikes n (InL hs) (InL hs')):hs=hs':=by
 obtain⟨e,hr⟩:=zjo h.form h'.form (fun i hi=>zx ((ha _).1 (.base (zq hi) (h.len _ (zq hi))))) (fun i hi=>zx ((ha _).2 (.base (zq hi) (h'.len _ (zq hi)))));apply List.ext_getElem e;intro k h1 h2;have hl:=h.len _ (List.getElem_mem h1);have hl':=h'.len _ (List.getElem_mem h2);apply zK (hl.trans hl'.symm);intro b hb;have:=(hr k h1).2 b (by omega)
 rwa [zm h1,zm h2] at this
def rowsL (T:Nat→Option (List Int))(n:Nat):List (List Int):=(List.range n).filterMap T
theorem zgT {T:Nat→Option (List Int)}(h:T n=none):rowsL T (n+1)=rowsL T n:=by
 unfold rowsL;rw [List.range_succ,List.filterMap_append];simp [h]
theorem zgU {T:Nat→Option (List Int)}{r:List Int}(h:T n=some r):rowsL T (n+1)=rowsL T n++[r]:=by
 unfold rowsL;rw [List.range_succ,List.filterMap_append];simp [h]
theorem zgS (T:Nat→Option (List Int))(n:Nat):(rowsL T n).length≤n:=by
 unfold rowsL;have:=List.length_filterMap_le T (List.range n)
 rwa [List.length_range] at this
theorem zed {T:Nat→Option (List Int)}(hE:Ech T len m)(v:List Int):v∈rowsL T m↔∃ i,T i=some v:=by
 unfold rowsL;rw [List.mem_filterMap];exact⟨fun⟨i,_,e⟩=>⟨i,e⟩,fun⟨i,e⟩=>⟨i,List.mem_range.2 (hE.lt i v e),e⟩⟩
theorem zli (T:Nat→Option (List Int))(q:Nat):∃ p:Nat→Nat,(∀ k,k<(rowsL T q).length→p k<q∧T (p k)=some ((rowsL T q).getD k []))∧∀ i k,i<k→k<(rowsL T q).length→p i<p k:=by
 induction q with
 | zero=>exact⟨fun _=>0,fun k hk=>absurd hk (by simp [rowsL]),fun i k _ hk=>absurd hk (by simp [rowsL])⟩
 | succ q ih=>
  obtain⟨p,h1,h2⟩:=ih;cases e:T q with
  | none=>
   rw [zgT e];exact⟨p,fun k hk=>⟨Nat.lt_succ_of_lt (h1 k hk).1,(h1 k hk).2⟩,h2⟩
  | some r=>
   rw [zgU e];refine⟨fun k=>if k=(rowsL T q).length then q else p k,fun k hk=>?_,fun i k hik hk=>?_⟩
   ·rw [List.length_append,List.length_singleton] at hk;dsimp only;by_cases hkr:k=(rowsL T q).length
    ·rw [if_pos hkr];refine⟨Nat.lt_succ_self q,?_⟩;rw [e,hkr,zG,List.getElem?_append_right zL,Nat.sub_self];rfl
    ·rw [if_neg hkr];refine⟨Nat.lt_succ_of_lt (h1 k (by omega)).1,?_⟩;rw [(h1 k (by omega)).2,zG,zG,List.getElem?_append_left (by omega)]
   ·rw [List.length_append,List.length_singleton] at hk;dsimp only;rw [if_neg (show i≠(rowsL T q).length by omega)];by_cases hkr:k=(rowsL T q).length
    ·rw [if_pos hkr];exact(h1 i (by omega)).1
    ·rw [if_neg hkr];exact h2 i k hik (by omega)
theorem zme {rows:Nat→Option (List Int)}(hp:Pos rows)(h:Ech rows m m):∃ p,FormL m (rowsL (tidyN rows m m) m) p:=by
 have hE:=h.all (Nat.le_refl m) m;obtain⟨p,h1,h2⟩:=zli (tidyN rows m m) m;refine⟨p,⟨fun r hr=>?_,⟨h2,fun i hi=>(h1 i hi).1,fun i b hi hb=>?_,fun i hi=>?_,fun i k hik hk=>?_⟩⟩⟩
 ·obtain⟨i,e⟩:=(zed hE r).1 hr;exact hE.len i r e
 ·exact hE.zero _ _ (h1 i hi).2 b hb
 ·exact hp.tidyN h (Nat.le_refl m) m _ _ (h1 i hi).2
 ·exact zho hp h (Nat.le_refl m) (h2 i k hik hk) (h1 i (by omega)).2 (h1 k hk).2
theorem zhN {T:Nat→Option (List Int)}(hE:Ech T len m):Alikes len (InL (rowsL T m)) (RowsOf T):=
 .of (fun v hv hvl=>.base ((zed hE v).1 hv) hvl) (fun v hv hvl=>.base ((zed hE v).2 hv) hvl)
theorem zeP{rows:Nat→Option (List Int)}{l:List (List Int)}{us:List Int}(h:Alikes n (RowsOf rows) (InL l)):Alikes n (RowsOr rows us) (InL (l++[us])):=by
 refine .of (fun v hv hvl=>?_) (fun v hv hvl=>?_)
 ·rcases hv with hv | rfl
  ·exact((h v).1 (.base hv hvl)).trans (fun x hx hxl=>.base (List.mem_append_left _ hx) hxl)
  ·exact .base (List.mem_append_right _ (List.mem_singleton.2 rfl)) hvl
 ·rcases List.mem_append.1 hv with hv | hv
  ·exact((h v).2 (.base hv hvl)).trans (fun x hx hxl=>.base (.inl hx) hxl)
  ·rw [List.mem_singleton] at hv;subst hv;exact .base (.inr rfl) hvl
def fac:Nat→Nat
 | 0=>1
 | n+1=>(n+1)*fac n
theorem zi9 (n v:Nat):facP n (bp v)=(fac n:Int)*bp (n*v):=by
 induction n with
 | zero=>simp [facP,fac,bp]
 | succ n ih=>
  have e:(n+1)*v=v+n*v:=by rw [Nat.succ_mul,Nat.add_comm]
  rw [facP,ih,e,zbp,fac,Int.natCast_mul];rw [Int.mul_assoc,← Int.mul_assoc (bp v),Int.mul_comm (bp v),Int.mul_assoc]
theorem zjb:∀ r,r<17→r*fac r<18446744073709551616:=by decide
theorem zdD{v r:Nat}(hr:r≤n)(hn:n≤16):(r:Int)*facP r (bp v)<bp (n*v+2):=by
 have h1:=zjb r (by omega);have h2:bp (r*v)≤bp (n*v):=zaj (Nat.mul_le_mul_right v hr);have h3:=zC (r*v);have e:bp (n*v+2)=18446744073709551616*bp (n*v):=by rw [Nat.add_comm,zbp];rfl
 rw [zi9,e,← Int.mul_assoc];have h4:((r:Int) *(fac r:Int))=((r*fac r:Nat):Int):=by rw [Int.natCast_mul]
 rw [h4];generalize r*fac r=q at *;have h5:(q:Int)*bp (r*v)≤18446744073709551615*bp (r*v):=Int.mul_le_mul_of_nonneg_right (by omega) (by omega);omega
theorem Tryz.infoVec:(Tryz.prog.info? 72).map (fun i=>(i.zero,i.size,i.bytes))=some (some (.slice none 0 0),1,24):=by kernel_rfl
theorem zc8{W':World}{e:TypeId}{xs:List Value}(h:W.ownsRow base e size v n xs)(hb:Below W.heap.size W W'):W'.ownsRow base e size v n xs:=by
 refine⟨h.1,?_⟩;rcases h.2 with hn |⟨g,cap,cur,e,hbg,hh,rest⟩
 ·exact .inl hn
 ·exact .inr ⟨g,cap,cur,e,hbg,(hb.block _ (zt hh)).trans hh,rest⟩
theorem zaU{w3:World}{e:TypeId}{xs:List Value}{ob:Obj}(h:wr.ownsRow base e size v n xs)(hB:base≤wr.heap.size)(hg:(wr.alloc ob).grownBy w3 v.ownBlock):Below base wr w3:=
 ((zB _ _).alloc hB _).grown hg (by simp;omega) (fun k hk=>(h.lt k hk).1)
def MatN (w:World)(v:Value)(zss:List (List Int))(n:Nat):Prop:=
 ∃ ao cap,v=.slice ao zss.length cap∧zss.length≤cap∧(0<zss.length→∃ b off,ao=some ⟨b,off,none⟩∧b<w.heap.size∧∀ i zs,zss[i]?=some zs→∃ u,w.cell? ⟨b,off+i,none⟩=some u∧VecN w u zs n)
theorem MatN.below{zss:List (List Int)}(h:MatN w v zss n)(hb:Below B w w')(hB:w.heap.size≤B):MatN w' v zss n:=by
 obtain⟨ao,cap,hv,h1,h2⟩:=h;refine⟨ao,cap,hv,h1,fun h0=>?_⟩;obtain⟨b,off,e,hlt,hc⟩:=h2 h0;refine⟨b,off,e,zT hlt hb.size,fun i zs hi=>?_⟩;obtain⟨u,h3,h4⟩:=hc i zs hi;exact⟨u,(hb.cell (p:=⟨b,off+i,none⟩) (zT hlt hB)).trans h3,h4.below hb hB⟩
theorem MatN.at{zss:List (List Int)}(h:MatN W v zss n)(i:Nat)(hi:i<zss.length):∃ b off cap,v=.slice (some ⟨b,off,none⟩) zss.length cap∧b<W.heap.size∧∃ u,W.cell? ⟨b,off+i,none⟩=some u∧VecN W u zss[i] n:=by
 obtain⟨ao,cap,rfl,-,h2⟩:=h;obtain⟨b,off,rfl,hlt,hc⟩:=h2 (by omega);obtain⟨u,h3,h4⟩:=hc i zss[i] (by simp [hi]);exact⟨b,off,cap,rfl,hlt,u,h3,h4⟩
theorem zf7{qs:List (Value × List Int)}(h:W.ownsRow base 72 1 v qs.length (qs.map (·.1)))(h2:∀ q∈qs,VecN W q.1 q.2 n):MatN W v (qs.map (·.2)) n:=by
 obtain⟨-,h1⟩:=h;have hlen:(qs.map (·.2)).length=qs.length:=zM ..;rcases h1 with⟨rfl,hn⟩ |⟨g,cap,cur,rfl,hb,hh,hc1,hc2,hc3,hc4⟩
 ·exact⟨none,0,by rw [hlen,hn],by rw [hlen];omega,fun h0=>absurd h0 (by rw [hlen];omega)⟩
 ·refine⟨_,cap,by rw [hlen],by rw [hlen];exact hc1,fun h0=>⟨g,0,rfl,zt hh,fun i zs hi=>?_⟩⟩;obtain⟨hi',e⟩:=List.getElem?_eq_some_iff.1 hi;rw [hlen] at hi';have e':zs=qs[i].2:=by rw [← e,List.getElem_map]
  have:=World.news_of_block hh i qs[i].1 (by
   have e:(qs.map (·.1))[i]?=some qs[i].1:=by rw [List.getElem?_map,List.getElem?_eq_getElem hi'];rfl
   rw [← hc4,List.getElem?_take,if_pos (by omega)] at e;exact e)
  have ea:(⟨g,0,none⟩:Addr).add i=⟨g,i,none⟩:=by unfold Addr.add;split <;> simp_all
  rw [ea] at this;exact⟨_,by rw [Nat.zero_add];exact this,by rw [e'];exact h2 _ (List.getElem_mem hi')⟩
def Fresh (base:Nat)(u:Value):Prop:=∀ a l c,u=.slice (some a) l c→base≤a.block
theorem Fresh.mono{base':Nat}{u:Value}(h:Fresh base u)(hb:base'≤base):Fresh base' u:=fun a l c e=>Nat.le_trans hb (h a l c e)
theorem zk4{e:TypeId}{xs:List Value}(h:W.ownsRow base e size v n xs):Fresh base v:=fun a l c hv=>by
 rcases h.2 with⟨rfl,-⟩ |⟨g,cap,cur,rfl,hb,-⟩
 ·cases hv
 ·simp only [zV,Option.some.injEq] at hv;obtain⟨rfl,-⟩:=hv;exact hb
theorem zkT {l:List (List Int)}{R:Nat→Option (List Int)}(hp:Pos R)(hE:Ech R n n)(ha:Alikes n (RowsOf R) (InL l))(hl:∀ us∈l,us.length=n)(hb:∀ us∈l,∀ j,j<n→ab (us.getD j 0)<bp nv){Q:Nat}(hQ:n≤Q∨l.length≤Q)(hn:Q≤16):
  ∀ i a r,i≤n→n-i≤a→tidyN R n i a=some r→∀ j,j<r.length→ab (r.getD j 0)<bp (Q*nv+2):=by
 obtain⟨q,hq,hq2,hbd⟩:=zmc hp hE ha l.length (fun k b=>(l.getD k []).getD b 0) (bp nv) (by have:=zC nv;omega) (fun a b ha hb'=>Int.le_of_lt (hb _ (zq ha) b hb'))
  (fun v hv hvl=>by
   obtain⟨k,hk,e⟩:=List.getElem_of_mem hv;exact⟨k,hk,fun b _=>by rw [zm hk,e]⟩)
  (fun k hk=>⟨l.getD k [],zq hk,hl _ (zq hk),fun _ _=>rfl⟩)
 intro i a r hi ha' e j hj;have e':tidyN R n n a=some r:=by rw [zep hi zL ha'];exact e
 have hlen:=(hE.all (Nat.le_refl n) n).len a r e';have h1:=hbd a r e' j (by omega);have h2:=zdD (v:=nv) (show q≤Q by omega) hn;exact Int.lt_of_le_of_lt h1 h2
theorem zmf (n k:Nat):tidyN (fun _=>none) n k=fun _=>none:=by
 induction k with
 | zero=>rfl
 | succ k ih=>
  show tidyAt (tidyN (fun _=>none) n k) n (n-1-k)=_;rw [ih];funext i;unfold tidyAt;split <;> rfl
structure OneI (w wr:World)(sb n S0:Nat)(rows:Nat→Option (List Int))(ms:List (List Int))(k:Nat):Prop where
 st:StairO w wr sb n rows n (fun _=>S0)
 tid:∃ rows0,Ech rows0 n n∧Pos rows0∧rows=tidyN rows0 n n
 gen:Alikes n (RowsOf rows) (InL (ms.take k))
theorem OneI.ech{rows:Nat→Option (List Int)}{ms:List (List Int)}(h:OneI w wr sb n S0 rows ms k):Ech rows n n:=by
 obtain⟨r0,h1,-,rfl⟩:=h.tid;exact h1.all (Nat.le_refl n) n
theorem StairO.pos{rows:Nat→Option (List Int)}{ns:Nat→Nat}(h:StairO w W sb m rows len ns)(hE:Ech rows len m):Pos rows:=fun i r e=>by
 obtain⟨P,-,-,-,-,h5⟩:=h.row i (hE.lt i r e) r e;exact h5
theorem zf4 (m i:Nat)(hi:i<m):(madeCells #[.slice none 0 0] m)[i]?=some (.slice none 0 0):=by
 simp [madeCells,hi,Nat.mod_one]
theorem StairO.made (w W:World)(hb:Below w.heap.size w W)(m len:Nat)(ns:Nat→Nat):StairO w (W.alloc (.cells (madeCells #[.slice none 0 0] m) 72)) W.heap.size m (fun _=>none) len ns where
 lt:=by simp
 low:=hb.size
 below:=hb.alloc hb.size _
 blk:=⟨_,_,heap_alloc_new W _⟩
 nil:=fun i hi _=>by
  rw [World.cell?_alloc_new];exact zf4 m i hi
 row:=fun i hi r e=>by cases e
theorem VecN.off(h:VecN w v zs n)(h0:0<zs.length)(hs:w.heap.size≤sb):∀ b o l c,v=.slice (some ⟨b,o,none⟩) l c→b≠sb:=by
 obtain⟨ao,cap,rfl,-,h2⟩:=h;obtain⟨b',off,rfl,hlt,-⟩:=h2 h0;intro b o l c e;simp only [zV,Option.some.injEq,Addr.mk.injEq,and_true] at e;omega
theorem zkI(hn1:1≤n)(hN:nbK n S0 nv n≤119000):238001+n *(S0+3)≤300000:=by
 by_cases h0:n=1
 ·subst h0;have h2:nbK 1 S0 nv 1=nv+(1-0+1) *(S0+3):=rfl;omega
 ·have h1:nbK n S0 nv 2≤nbK n S0 nv n:=zcX (by omega);have h2:nbK n S0 nv 2=nv+(n-0+1) *(S0+3)+(n-1+1) *(S0+3):=rfl;have h3:(n-0+1) *(S0+3)=n *(S0+3)+(S0+3):=by rw [Nat.sub_zero,Nat.succ_mul]
  have h4:n-1+1=n:=by omega
  rw [h4] at h2;omega
theorem zlu (m:Nat)(hm:m≤1000)(W:World):(Instr.makeSlice 150 (.int .i64 (m:Int)) (.int .i64 (m:Int))).run Tryz.prog W=.ok (.slice (some ⟨W.heap.size,0,none⟩) m m) (W.alloc (.cells (madeCells #[.slice none 0 0] m) 72)):=by
 obtain⟨i0,hi,hz0,hz1,hz2⟩:=info_parts Tryz.infoVec;have h:=run_make (P:=Tryz.prog) W 150 72 i0 (.slice none 0 0) (by kernel_rfl) hi hz0 .i64 .i64 m m (by omega) (by omega) (by rw [hz2];omega) (by omega);rw [hz1,Int.toNat_natCast,Nat.mul_one] at h;exact h
theorem zgp (w:World)(v:Value)(ms:List (List Int))(n nv Q:Nat)(hQ:n≤Q∨ms.length≤Q)(hQ16:Q≤16)(hv:MatN w v ms nv)(hr:∀ us∈ms,us.length=n)(hn1:1≤n)(hn:n≤16)(hm:ms.length≤1000)(hN:nbK n (Q*nv+2) nv n≤119000):
  Calls Tryz.prog 63 #[v,.int .i64 (n:Int)] w fun e w'=>∃ u hs p,e=.returned u∧MatN w' u hs (Q*nv+2)∧hs.length≤n∧Below w.heap.size w w'∧FormL n hs p∧Alikes n (InL hs) (InL ms)∧Fresh w.heap.size u:=by
 obtain⟨j0,hj,hy0,hy1,hy2⟩:=info_parts Tryz.infoVec;have HJ:=hide hj;have HY0:=hide hy0;have HY1:=hide hy1;have HY2:=hide hy2;clear hj hy0 hy1 hy2;have HQ9:=hide hQ;clear hQ;have HV:=hide hv;have HR:=hide hr;have HN:=hide hN;have HRO:=hide (zkI hn1 hN);obtain⟨ao,cap,rfl,-,-⟩:=hv;clear hr hN;generalize hS0:Q*nv+2=S0 at *;have HS0:=hide hS0;clear hS0;have HBM:Hid (∀ us∈ms,∀ j,j<n→ab (us.getD j 0)<bp nv):=fun us hus j hj=>by
  obtain⟨i,hi,e⟩:=List.getElem_of_mem hus;obtain⟨b,off,cap',e1,hlt,u,hc,hu⟩:=HV.out.at i hi;rw [e] at hu;obtain⟨b',off',cap2,e2⟩:=hu.form (by rw [HR.out us hus];omega);subst e2;obtain⟨-,neg,o,l,c,-,-,hz⟩:=hu.at j (by rw [HR.out us hus];exact hj);exact hz.ab_lt
 have hmk:=zlu n (by omega);have HI0:Hid (OneI w (w.alloc (.cells (madeCells #[.slice none 0 0] n) 72)) w.heap.size n S0 (fun _=>none) ms 0):=hide
  ⟨StairO.made w w (zB _ _) n n _,⟨fun _=>none,⟨fun i r e=>(by cases e),fun i r e=>(by cases e),fun i r e=>(by cases e)⟩,fun i r e=>(by cases e),(zmf n n).symm⟩,.of (fun v hv _=>by obtain⟨i,e⟩:=hv;cases e) (fun v hv _=>by rw [List.take_zero] at hv;cases hv)⟩
 go_enter Tryz.func63,Tryz.ntmps63;go_wp2;clear hmk;go_loopw [13] (fun i wr=>∃ k:Nat,k≤ms.length∧i=.int .i64 k∧∃ rows,Hid (OneI w wr w.heap.size n S0 rows ms k)) (fun i _=>ms.length-(intOf i).toNat)
 case atStart=>exact⟨0,Nat.zero_le _,rfl,_,HI0⟩
 case round=>
  clear HI0;obtain⟨k,hk,rfl,rows,HI⟩:=hrel;by_cases hkl:k<ms.length
  ·obtain⟨b,off,_,e,hblt,u,cu0,hu⟩:=HV.out.at k hkl;simp only [zV,true_and] at e;obtain⟨rfl,rfl⟩:=e;have cu:wr.cell? ⟨b,off+k,none⟩=some u:=(HI.out.st.below.cell (p:=⟨b,off+k,none⟩) hblt).trans cu0;have hul:=HR.out _ (List.getElem_mem hkl);have HOF:=hide (hu.off (by omega) zL);have HU:=hide (hu.below HI.out.st.below zL);have HTK:Hid (ms.take (k+1)=ms.take k++[ms[k]]):=List.take_succ_eq_append_getElem hkl;obtain⟨vo,vcap,rfl,-,-⟩:=hu;have HUL:=hide hul;clear hul;have hvl:b<wr.heap.size:=zT hblt HI.out.st.below.size;have HIN:=hide (zjR w wr w.heap.size n S0 nv rows _ ms[k] HI.out.st HI.out.ech HU.out HUL.out HOF.out (by omega) HN.out);clear cu0 HU HOF;go_wp2_with fail;refine HIN.out.mono ?_;rintro e w1 ⟨rfl,R,hst,hech,hal⟩;have hal':Alikes n (RowsOf R) (InL (ms.take (k+1))):=by
    rw [HTK.out];exact hal.trans (zeP HI.out.gen)
   have hpos:=hst.pos hech;have HTD:=hide (zmb w w1 w.heap.size n n S0 238001 R hst hech (Nat.le_refl n) (by omega) HRO.out (by
    rw [← HS0.out];exact zkT hpos hech hal' (fun us h=>HR.out us (List.mem_of_mem_take h)) (fun us h=>HBM.out us (List.mem_of_mem_take h)) (HQ9.out.imp id fun h=>Nat.le_trans (by rw [List.length_take];omega) h) hQ16))
   have HNX:Hid (∀ w2,StairO w w2 w.heap.size n (tidyN R n n) n (fun _=>S0)→OneI w w2 w.heap.size n S0 (tidyN R n n) ms (k+1)):=fun w2 h=>
    ⟨h,⟨R,hech,hpos,rfl⟩,(zeQ hech (Nat.le_refl n) n).trans hal'⟩
   clear hst hech hal hal' hpos HIN HI cu;go_wp2_with fail;refine HTD.out.mono ?_;rintro e w2 ⟨rfl,hst2⟩;have HN2:=hide (HNX.out w2 hst2);clear hst2 HNX HTD;go_wp2;go_roundw
   case rel=>exact⟨k+1,by omega,by go_num,_,HN2⟩
   case measure=>simp [intOf];omega
  ·obtain rfl:k=ms.length:=by omega
   have HFO:Hid (∃ p,FormL n (rowsL rows n) p):=by
    obtain⟨r0,h1,h2,rfl⟩:=HI.out.tid;exact zme h2 h1
   have HAL:Hid (Alikes n (InL (rowsL rows n)) (InL ms)):=by
    have:=HI.out.gen;rw [List.take_length] at this;exact(zhN HI.out.ech).trans this
   obtain⟨wo,rfl⟩:∃ wo:World,wo=wr:=⟨_,rfl⟩;go_wp2;go_loopw [7,26] (fun out i wr=>∃(q:Nat) (qs:List (Value × List Int)),q≤n∧i=.int .i64 q∧Hid (wr.ownsRow wo.heap.size 72 1 out qs.length (qs.map (·.1)))∧Hid (qs.map (·.2)=rowsL rows q)∧Hid (∀ p∈qs,VecN wo p.1 p.2 S0)∧Hid (Below wo.heap.size wo wr)) (fun _ i _=>n-(intOf i).toNat)
   case atStart=>exact⟨0,[],Nat.zero_le _,rfl,hide (World.ownsRow_nil _ _ _ _),hide rfl,hide (fun _ h=>by cases h),hide (zB _ _)⟩
   case round=>
    obtain⟨q,qs,hq,rfl,HOW,HQ,HQV,HB⟩:=hrel;have hlo:=HI.out.st.lt;have hql2:qs.length≤q:=by
     have h1:=congrArg List.length HQ.out;rw [zM] at h1;have h2:=zgS rows q;omega
    by_cases hql:q<n
    ·have hlw:w.heap.size<wr.heap.size:=zT hlo HB.out.size;cases hrq:rows q with
     | none=>
      have c0:=(HB.out.cell (p:=⟨w.heap.size,q,none⟩) hlo).trans (HI.out.st.nil q hql hrq);have hbo:=zgY wr;have HQ':Hid (qs.map (·.2)=rowsL rows (q+1)):=HQ.out.trans (zgT hrq).symm;clear hrq HQ hql2;go_wp2;go_roundw
      case rel=>exact⟨q+1,qs,by omega,by go_num,HOW,HQ',HQV,HB⟩
      case measure=>simp [intOf];omega
     | some r=>
      obtain⟨P,hc,hvO,-,-,-⟩:=HI.out.st.row q hql r hrq;have c0:=(HB.out.cell (p:=⟨w.heap.size,q,none⟩) hlo).trans hc;have hbo:=zg1 wr ⟨P,0,none⟩ r.length r.length;have HQ':Hid ((qs++[(Value.slice (some ⟨P,0,none⟩) r.length r.length,r)]).map (·.2)=rowsL rows (q+1)):=by
       show _=_;rw [List.map_append,HQ.out,zgU hrq];rfl
      have HQV':Hid (∀ p∈qs++[(Value.slice (some ⟨P,0,none⟩) r.length r.length,r)],VecN wo p.1 p.2 S0):=fun p hp=>by
       rcases List.mem_append.1 hp with h | h
       ·exact HQV.out p h
       ·rw [List.mem_singleton] at h;rw [h];exact hvO.vec
      have hown:=HOW.out;have hbs:=HB.out.size;have hj:=HJ.out;have hy0:=HY0.out;have hy1:=HY1.out;have hy2:=HY2.out;clear hrq HQ hc hvO HQV;go_wp2_with (at_builtin;refine wpList_append_lies _ rfl _ _ 23 rfl wo.heap.size 72 j0 (.slice none 0 0) 1 24 (by kernel_rfl) hj hy0 hy1 hy2 rfl (by decide) u7 qs.length (qs.map (·.1)) rfl (hown.alloc _) ⟨wr.heap.size,0,none⟩ 1 1 [.slice (some ⟨P,0,none⟩) r.length r.length] rfl rfl (World.news_of_block (heap_alloc_new wr _)) (fun u hu=>by rw [List.mem_singleton] at hu;rw [hu];rfl) (by decide) (by unfold maxLen;omega) (by omega) (by simp;omega) (wr.heap.size+1) (by simp) ?_);intro g cap' w5 hown5 hgrow5 hat5 hlt5;have HOW5:Hid (w5.ownsRow wo.heap.size 72 1 (.slice (some ⟨g,0,none⟩) (qs.length+1) cap') (qs++[(Value.slice (some ⟨P,0,none⟩) r.length r.length,r)]).length ((qs++[(Value.slice (some ⟨P,0,none⟩) r.length r.length,r)]).map (·.1))):=by
       show World.ownsRow ..;rw [List.length_append,List.length_singleton,List.map_append];exact hown5
      have HB5:=hide (HB.out.trans (zaU hown HB.out.size hgrow5));clear hown hown5 hgrow5 hat5 hlt5 hj hy0 hy1 hy2 HOW HB c0 hbo;go_wp2;go_roundw
      case rel=>exact⟨q+1,_,by omega,by go_num,HOW5,HQ',HQV',HB5⟩
      case measure=>simp [intOf];omega
    ·obtain rfl:q=n:=by omega
     have HF:Hid (MatN wr u7 (rowsL rows q) S0):=by
      have:=zf7 HOW.out (fun p hp=>(HQV.out p hp).below HB.out zL);rw [HQ.out] at this;exact this
     have HBB:=hide (HI.out.st.below.trans (HB.out.mono HI.out.st.below.size));have HFR:=hide ((zk4 HOW.out).mono HI.out.st.below.size);clear HOW HQ HQV HB HI;go_wp2;go_ret;obtain⟨p,hp⟩:=HFO.out;exact⟨_,_,p,rfl,HF.out,zgS _ _,HBB.out,hp,HAL.out,HFR.out⟩
theorem zgo (w:World)(v:Value)(ms:List (List Int))(n nv Q:Nat)(hQ:n≤Q∨ms.length≤Q)(hQ16:Q≤16)(hv:MatN w v ms nv)(hr:∀ us∈ms,us.length=n)(hn1:1≤n)(hn:n≤16)(hm:ms.length≤1000)(hN:nbK n (Q*nv+2) nv n≤100000):
  Calls Tryz.prog 63 #[v,.int .i64 (n:Int)] w fun e w'=>∃ u hs p,e=.returned u∧MatN w' u hs (Q*nv+2)∧hs.length≤n∧Below w.heap.size w w'∧FormL n hs p∧Alikes n (InL hs) (InL ms)∧Fresh w.heap.size u:=
 zgp w v ms n nv Q hQ hQ16 hv hr hn1 hn hm (Nat.le_trans hN (by omega))
theorem zd5 (w:World)(v:Value)(ms:List (List Int))(n nv:Nat)(hv:MatN w v ms nv)(hr:∀ us∈ms,us.length=n)(hn1:1≤n)(hn:n≤16)(hm:ms.length≤1000)(hN:nbK n (n*nv+2) nv n≤119000):
  Calls Tryz.prog 63 #[v,.int .i64 (n:Int)] w fun e w'=>∃ u hs p,e=.returned u∧MatN w' u hs (n*nv+2)∧hs.length≤n∧Below w.heap.size w w'∧FormL n hs p∧Alikes n (InL hs) (InL ms):=
 (zgp w v ms n nv n (.inl zL) hn hv hr hn1 hn hm hN).mono fun _ _ ⟨u,hs,p,h1,h2,h3,h4,h5,h6,_⟩=>⟨u,hs,p,h1,h2,h3,h4,h5,h6⟩
theorem zgn (w:World)(v:Value)(ms:List (List Int))(n nv:Nat)(hv:MatN w v ms nv)(hr:∀ us∈ms,us.length=n)(hn1:1≤n)(hn:n≤16)(hm:ms.length≤1000)(hN:nbK n (n*nv+2) nv n≤100000):
  Calls Tryz.prog 63 #[v,.int .i64 (n:Int)] w fun e w'=>∃ u hs p,e=.returned u∧MatN w' u hs (n*nv+2)∧hs.length≤n∧Below w.heap.size w w'∧FormL n hs p∧Alikes n (InL hs) (InL ms)∧Fresh w.heap.size u:=
 zgo w v ms n nv n (.inl zL) hn hv hr hn1 hn hm hN
theorem zkS (w:World)(v:Value)(ms:List (List Int))(n nv:Nat)(hv:MatN w v ms nv)(hr:∀ us∈ms,us.length=n)(hn1:1≤n)(hn:n≤16)(hm:ms.length≤1000)(hN:nbK n (n*nv+2) nv n≤100000):
  Calls Tryz.prog 63 #[v,.int .i64 (n:Int)] w fun e w'=>∃ u hs p,e=.returned u∧MatN w' u hs (n*nv+2)∧hs.length≤n∧Below w.heap.size w w'∧FormL n hs p∧Alikes n (InL hs) (InL ms):=
 (zgn w v ms n nv hv hr hn1 hn hm hN).mono fun _ _ ⟨u,hs,p,h1,h2,h3,h4,h5,h6,_⟩=>⟨u,hs,p,h1,h2,h3,h4,h5,h6⟩
open Go.ChangeShapes Go.WideShapes Go.ChangeAt Go.Joins
theorem Tryz.cellsNum:Tryz.prog.cellsOf 29=2:=by kernel_rfl
theorem Tryz.cellsU32:Tryz.prog.cellsOf 104=1:=by kernel_rfl
theorem Tryz.own:ownKnob Tryz.prog.godebug=none:=by kernel_rfl
theorem Tryz.laidOut:laidOutB Tryz.prog=true:=by kernel_rfl
theorem Tryz.cellsSl:Tryz.prog.cellsOf 27=1:=by kernel_rfl
theorem Tryz.cellsBool:Tryz.prog.cellsOf 4=1:=by kernel_rfl
def CameR (W:World)(r:Raw):Prop:=
 (∃ o cap,r.s=.slice o r.zs.length cap)∧r.zs.length≤9223372036854775807∧(r.zs.length≤1000000→Lim W r.s r.zs)
def VecC (W:World)(v:Value)(rs:List Raw):Prop:=
 ∃ ao cap,v=.slice ao rs.length cap∧rs.length≤cap∧rs.length≤9223372036854775807 ∧
  (0<rs.length→∃ b off,ao=some ⟨b,off,none⟩∧b<W.heap.size∧∀ i r,rs[i]?=some r→W.cell? ⟨b,off+i*2,none⟩=some (.bool r.neg)∧W.cell? ⟨b,off+i*2+1,none⟩=some r.s∧CameR W r)
instance:Inhabited Raw:=⟨⟨false,.bool false,[]⟩⟩
theorem zgr {H:Type}{enc:TypeId × Value→H}{y:DataW H × List MemPlace}
  (h:DataW.trod enc Tryz.prog W 0 (fun _=>true) true n 27 [v]=some y) (neg:Bool):∃ r:Raw,r.neg=neg∧r.s=v∧CameR W r:=by
 rcases open_ints Tryz.underlying27 Tryz.underlying104 Tryz.cellsU32 h with⟨hcs,_⟩ |⟨x,l,c,zs,hcs,_,hl,hm,hz,_,hcell,hwz⟩
 ·simp only [List.cons.injEq,and_true] at hcs;subst hcs;exact⟨⟨neg,.slice none 0 0,[]⟩,rfl,rfl,⟨none,0,rfl⟩,by simp,fun _=>⟨none,0,rfl,Nat.le_refl _,by simp,zaM,fun h=>absurd h (by simp)⟩⟩
 ·simp only [List.cons.injEq,and_true] at hcs;subst hcs;have hz':zs.length=c:=by simpa using hz
  have hlen:(zs.take l).length=l:=by rw [List.length_take];omega
  refine⟨⟨neg,.slice (some x) l c,zs.take l⟩,rfl,rfl,⟨some x,c,by simp only [hlen]⟩,by simp only [hlen];unfold maxLen at hm;omega,fun hs=>⟨some x,c,by simp only [hlen],by simp only [hlen];exact hl,hs,zbN (zeE fun z hzz=>?_) l,fun h0=>?_⟩⟩
  ·have:=hwz z hzz;simp [Lit.wf,IntKind.min,IntKind.max,IntKind.signed,IntKind.bits] at this;omega
  ·obtain⟨blk,off,spot⟩:=x;simp only [hlen] at h0 ⊢;have h00:=hcell 0 (by omega);have hspot:spot=none:=by simpa [Addr.add] using World.cell?_spot h00
   subst hspot;refine⟨blk,off,rfl,World.block_lt_of_cell? W _ h00,fun i hi=>?_⟩;have:=hcell i (by omega);rw [zaS zs l i (by omega)];by_cases hi0:i=0
   ·subst hi0;simpa [Addr.add] using this
   ·simpa [Addr.add,hi0] using this
theorem zkU {H:Type}{enc:TypeId × Value→H}{r:Reach}{b0:Nat}{d:DataW H}{p:List MemPlace}
  (hv:Value.okWide Tryz.prog W r b0 72 v) (h:DataW.Trod enc Tryz.prog W 0 (fun _=>true) true 72 v d p):
  ∃ rs,VecC W v rs:=by
 obtain⟨a0,len,cap,rfl⟩:=okWide_slice Tryz.underlying72 hv;obtain⟨fuel,hf⟩:=h;rcases Go.Deep.open_slice_pairs Tryz.underlying72 Tryz.underlying29 Tryz.cellsNum rfl rfl Tryz.cellsBool Tryz.cellsSl hf with⟨hcs,_⟩ |⟨a,l,c,m,n,V0,V1,D0,D1,P0,P1,hcs,_,hl,hm,hmm,_,hc⟩
 ·simp [Value.cells] at hcs;obtain⟨rfl,rfl,rfl⟩:=hcs;exact⟨[],none,0,rfl,by simp,by simp,fun h=>absurd h (by simp)⟩
 ·simp [Value.cells] at hcs;obtain⟨rfl,rfl,rfl⟩:=hcs;have hm':len≤m:=by simp at hmm;omega
  have each:∀ i,i<len→∃ r:Raw,V0 i=.bool r.neg∧V1 i=r.s∧CameR W r:=fun i hi=>by
   obtain⟨-,-,h0,h1⟩:=hc i (by omega);obtain⟨b,e0,-⟩:=DataW.trod_bool Tryz.underlying4 h0;obtain⟨r,e1,e2,e3⟩:=zgr h1 b;simp only [List.cons.injEq,and_true] at e0;exact⟨r,by rw [e0,e1],e2.symm,e3⟩
  obtain⟨q,hq⟩:=Go.Deep.choose_lt each;have hlen:((List.range len).map q).length=len:=by simp
  refine⟨(List.range len).map q,some a,cap,by rw [hlen],by rw [hlen];exact hl,by rw [hlen];unfold maxLen at hm;omega,fun h0=>?_⟩;rw [hlen] at h0;obtain⟨k0,-,-,-⟩:=hc 0 (by omega);obtain⟨blk,off,spot⟩:=a;have hsp:spot=none:=by simpa [Addr.add] using World.cell?_spot k0
  subst hsp;refine⟨blk,off,rfl,by simpa [Addr.add] using World.block_lt_of_cell? W _ k0,fun i r hi=>?_⟩;obtain⟨hi',e⟩:=List.getElem?_eq_some_iff.1 hi;rw [hlen] at hi';have e':r=q i:=by simpa using e.symm
  obtain⟨c0,c1,-,-⟩:=hc i (by omega);obtain⟨q0,q1,q2⟩:=hq i hi';rw [Go.WideShapes.add_plain,q0] at c0;rw [Go.WideShapes.add_plain,q1] at c1;rw [e'];exact⟨c0,c1,q2⟩
theorem VecC.light{rs:List Raw}(h:VecC W v rs)(hl:∀ r∈rs,r.zs.length≤1000000):VecL W v rs:=by
 obtain⟨ao,cap,hv,h1,-,h2⟩:=h;refine⟨ao,cap,hv,h1,fun h0=>?_⟩;obtain⟨b,off,e,hlt,hc⟩:=h2 h0;refine⟨b,off,e,hlt,fun i r hi=>?_⟩;obtain⟨h3,h4,h5⟩:=hc i r hi;exact⟨h3,h4,h5.2.2 (hl r (List.mem_of_getElem? hi))⟩
def lightV (rs:List Raw):Bool:=decide (rs.length≤10) && rs.all (fun r=>decide (r.zs.length≤8))
theorem zfW (w:World)(v:Value)(rs:List Raw)(hv:VecC w v rs)(b:Bool)(hb:b=lightV rs):
  Calls Tryz.prog 36 #[v] w fun e w'=>e=.returned (.bool b)∧w'=w:=by
 have HB:=hide hb;have HV:=hide hv;obtain⟨ao,cap,rfl,-,hmx,hc⟩:=hv;clear hb;by_cases h1:10<rs.length
 ·have hl:(10:Int)<(rs.length:Int):=by omega
  have hbf:b=false:=by rw [HB.out];unfold lightV;rw [decide_eq_false (by omega)];rfl
  subst hbf;clear hc;go_enter Tryz.func36,Tryz.ntmps36;go_wp2;go_ret;exact⟨rfl,rfl⟩
 ·have hl:¬((10:Int)<(rs.length:Int)):=by omega
  have HE:Hid (b=rs.all (fun r=>decide (r.zs.length≤8))):=by
   show _=_;rw [HB.out];unfold lightV;rw [decide_eq_true (by omega)];rfl
  clear HB;have HC:=hide hc;clear hc;go_enter Tryz.func36,Tryz.ntmps36;go_wp2
  go_loop [3] (fun i=>∃ k:Nat,k≤rs.length∧i=.int .i64 k∧Hid ((rs.take k).all (fun r=>decide (r.zs.length≤8))=true)) (fun i=>rs.length-(intOf i).toNat)
  case atStart=>exact⟨0,Nat.zero_le _,rfl,by show _=_;simp⟩
  case round=>
   obtain⟨k,hk,rfl,HG⟩:=hrel;by_cases hkl:k<rs.length
   ·obtain⟨bk,off,rfl,hlt,hc⟩:=HC.out (by omega);obtain⟨c0,c1,⟨o,c,hs⟩,hz,-⟩:=hc k rs[k] (by simp [hkl]);clear hc;have HT:Hid ((rs.take (k+1)).all (fun r=>decide (r.zs.length≤8))=decide (rs[k].zs.length≤8)):=by
     show _=_;rw [List.take_succ_eq_append_getElem hkl,List.all_append,HG.out];simp
    have HF:Hid (¬ rs[k].zs.length≤8→rs.all (fun r=>decide (r.zs.length≤8))=false):=fun h=>by
     rw [List.all_eq_false];exact⟨rs[k],List.getElem_mem hkl,by simpa using h⟩
    generalize rs[k]=r at *;obtain⟨rn,rsl,rz⟩:=r;simp only at hs hz c0 c1;subst hs;by_cases h8:rz.length≤8
    ·have HG':=hide (HT.out.trans (decide_eq_true h8));have d8:¬((8:Int)<(rz.length:Int)):=by omega
     clear HT HF HG;go_wp2
     go_round
     case rel=>exact⟨k+1,by omega,by go_num,HG'⟩
     case measure=>simp [intOf];omega
    ·have hbf:b=false:=HE.out.trans (HF.out h8);have d8:(8:Int)<(rz.length:Int):=by omega
     subst hbf;clear HT HF HG HE;go_wp2;go_ret;exact⟨rfl,rfl⟩
   ·obtain rfl:k=rs.length:=by omega
    have hbt:b=true:=by
     rw [HE.out];have:=HG.out
     rwa [List.take_length] at this
    subst hbt;clear HG HE;go_wp2;go_ret;exact⟨rfl,rfl⟩
def Raw.z (r:Raw):Int:=sg r.neg (lv r.zs)
theorem VecL.nums{rs:List Raw}(h:VecL w v rs)(hn:rs.all Raw.num=true)(hl:∀ r∈rs,r.zs.length≤n):VecN w v (rs.map Raw.z) n:=by
 obtain⟨ao,cap,hv,h1,h2⟩:=h;have hlen:(rs.map Raw.z).length=rs.length:=zM ..;refine⟨ao,cap,by rw [hlen];exact hv,by rw [hlen];exact h1,fun h0=>?_⟩;rw [hlen] at h0;obtain⟨b,off,e,hlt,hc⟩:=h2 h0;refine⟨b,off,e,hlt,fun i hi=>?_⟩;rw [hlen] at hi;obtain⟨h3,h4,h5⟩:=hc i rs[i] (by simp [hi]);have hm:rs[i]∈rs:=List.getElem_mem hi;have hN:=NumL.of_isNum (n:=n) (List.all_eq_true.1 hn _ hm) h5 (hl _ hm);obtain⟨o,c,es,-⟩:=h5;refine⟨rs[i].neg,o,rs[i].zs.length,c,h3,by rw [h4,es],?_⟩;rw [← es];have e2:(rs.map Raw.z).getD i 0=sg rs[i].neg (lv rs[i].zs):=by
  rw [zG,List.getElem?_map,List.getElem?_eq_getElem hi];rfl
 rw [e2];exact hN
def MatL (w:World)(v:Value)(rss:List (List Raw)):Prop:=
 ∃ ao cap,v=.slice ao rss.length cap∧rss.length≤cap∧(0<rss.length→∃ b off,ao=some ⟨b,off,none⟩∧b<w.heap.size∧∀ i rs,rss[i]?=some rs→∃ u,w.cell? ⟨b,off+i,none⟩=some u∧VecL w u rs)
theorem MatL.below{rss:List (List Raw)}(h:MatL w v rss)(hb:Below B w w')(hB:w.heap.size≤B):MatL w' v rss:=by
 obtain⟨ao,cap,hv,h1,h2⟩:=h;refine⟨ao,cap,hv,h1,fun h0=>?_⟩;obtain⟨b,off,e,hlt,hc⟩:=h2 h0;refine⟨b,off,e,zT hlt hb.size,fun i zs hi=>?_⟩;obtain⟨u,h3,h4⟩:=hc i zs hi;exact⟨u,(hb.cell (p:=⟨b,off+i,none⟩) (zT hlt hB)).trans h3,h4.below hb hB⟩
theorem MatL.at{rss:List (List Raw)}(h:MatL W v rss)(i:Nat)(hi:i<rss.length):∃ b off cap,v=.slice (some ⟨b,off,none⟩) rss.length cap∧b<W.heap.size∧∃ u,W.cell? ⟨b,off+i,none⟩=some u∧VecL W u rss[i]:=by
 obtain⟨ao,cap,rfl,-,h2⟩:=h;obtain⟨b,off,rfl,hlt,hc⟩:=h2 (by omega);obtain⟨u,h3,h4⟩:=hc i rss[i] (by simp [hi]);exact⟨b,off,cap,rfl,hlt,u,h3,h4⟩
theorem MatL.toN{rss:List (List Raw)}(h:MatL w v rss)(hf:∀ rs∈rss,rs.all Raw.num=true)(h8:∀ rs∈rss,∀ r∈rs,r.zs.length≤n):MatN w v (rss.map (·.map Raw.z)) n:=by
 obtain⟨ao,cap,hv,h1,h2⟩:=h;have hlen:(rss.map (·.map Raw.z)).length=rss.length:=zM ..;refine⟨ao,cap,by rw [hlen];exact hv,by rw [hlen];exact h1,fun h0=>?_⟩;rw [hlen] at h0;obtain⟨b,off,e,hlt,hc⟩:=h2 h0;refine⟨b,off,e,hlt,fun i zs hi=>?_⟩;obtain⟨hi',e'⟩:=List.getElem?_eq_some_iff.1 hi;rw [hlen] at hi';rw [List.getElem_map] at e';obtain⟨u,h3,h4⟩:=hc i rss[i] (by simp [hi']);have hm:rss[i]∈rss:=List.getElem_mem hi';exact⟨u,h3,by rw [← e'];exact h4.nums (hf _ hm) (h8 _ hm)⟩
theorem NumL.raw{neg:Bool}{s:Value}{z:Int}(h:NumL w (.agg #[.bool neg,s]) z n):∃ zs,Lim w s zs∧isNum neg zs=true:=by
 obtain⟨neg',s',zs,e,hl,hn,h0,-,-⟩:=h;simp only [Value.agg.injEq,Array.mk.injEq,List.cons.injEq,Value.bool.injEq,and_true] at e;obtain⟨rfl,rfl⟩:=e;refine⟨zs,hl,?_⟩;unfold isNum;by_cases hz:zs.length=0
 ·rw [if_pos hz,h0 hz];rfl
 ·rw [if_neg hz,bne_iff_ne];rcases hn with h | h
  ·exact absurd h hz
  ·exact h
theorem VecN.raw(h:VecN w v zs n):∃ rs:List Raw,VecL w v rs∧rs.length=zs.length∧rs.all Raw.num=true:=by
 obtain⟨ao,cap,rfl,h1,h2⟩:=h;by_cases h0:0<zs.length
 ·obtain⟨b,off,rfl,hlt,hc⟩:=h2 h0;have key:∀ k,k≤zs.length→∃ rs:List Raw,rs.length=k∧rs.all Raw.num=true∧∀ i r,rs[i]?=some r→w.cell? ⟨b,off+i*2,none⟩=some (.bool r.neg)∧w.cell? ⟨b,off+i*2+1,none⟩=some r.s∧Lim w r.s r.zs:=by
   intro k
   induction k with
   | zero=>exact fun _=>⟨[],rfl,rfl,fun i r e=>by simp at e⟩
   | succ k ih=>
    intro hk;obtain⟨rs,e1,e2,e3⟩:=ih (by omega);obtain⟨neg,o,l,c,c0,c1,hn⟩:=hc k (by omega);obtain⟨zs',hl,hi⟩:=hn.raw;refine⟨rs++[⟨neg,.slice o l c,zs'⟩],by simp [e1],by simp [e2,Raw.num,hi],fun i r e=>?_⟩;by_cases hi:i<rs.length
    ·rw [List.getElem?_append_left hi] at e;exact e3 i r e
    ·rw [List.getElem?_append_right (by omega)] at e;have hik:i-rs.length=0:=by
      have:=(List.getElem?_eq_some_iff.1 e).1;simpa using this
     rw [hik] at e;simp only [List.getElem?_cons_zero,Option.some.injEq] at e;have:i=k:=by omega
     rw [this,← e];exact⟨c0,c1,hl⟩
  obtain⟨rs,e1,e2,e3⟩:=key zs.length zL;exact⟨rs,⟨_,cap,by rw [e1],by rw [e1];exact h1,fun _=>⟨b,off,rfl,hlt,e3⟩⟩,e1,e2⟩
 ·exact⟨[],⟨ao,cap,by rw [show zs.length=0 by omega];rfl,Nat.zero_le _,fun h=>absurd h (by simp)⟩,by simp;omega,rfl⟩
end Go.Proofs.YtdedolkgcdlmeaaGreatDoor
