import Derived.Test.YtdedolkgcdlmeaaGreatDoorIns
import Derived.Test.YtdedolkgcdlmeaaGreatDoorGcdA
import Derived.Laws.CopyOwn
import Derived.Test.YtdedolkgcdlmeaaGreatDoorKerT
import Derived.Test.YtdedolkgcdlmeaaGreatDoorHermite
import Derived.Test.YtdedolkgcdlmeaaGreatDoorVecG
import Derived.Test.YtdedolkgcdlmeaaGreatDoorSmV
namespace Go.Proofs.YtdedolkgcdlmeaaGreatDoor
open Go.RowKit Limbs
def pcells (p:Nm × Int):List Value:=[.bool p.1.neg,.slice p.1.o p.1.l p.1.c]
theorem zkf (ps:List (Nm × Int)):∀ i (h:i < ps.length),(ps.flatMap pcells)[i * 2]?=some (.bool ps[i].1.neg)∧(ps.flatMap pcells)[i * 2+1]?=some (.slice ps[i].1.o ps[i].1.l ps[i].1.c):=by
 induction ps with
 | nil=>intro i h;exact absurd h (by simp)
 | cons p ps ih=>
  intro i h
  rw [List.flatMap_cons]
  cases i with
  | zero=>exact⟨rfl,rfl⟩
  | succ i=>
   obtain⟨h1,h2⟩:=ih i (by simpa using h)
   have e1:(i+1) * 2=i * 2+2:=by omega
   rw [e1,show i * 2+2+1=i * 2+1+2 by omega,List.getElem?_append_right (by simp [pcells]),List.getElem?_append_right (by simp [pcells])]
   exact⟨h1,h2⟩
theorem zdS (ps:List (Nm × Int)):(ps.flatMap pcells).length=ps.length * 2:=by
 induction ps with
 | nil=>rfl
 | cons p ps ih=>rw [List.flatMap_cons,List.length_append,ih];simp [pcells];omega
theorem zkg (ps:List (Nm × Int)):∀ v∈ps.flatMap pcells,v.oneCell'=true:=fun v hv=>by
 obtain⟨p,-,hp⟩:=List.mem_flatMap.1 hv
 simp only [pcells,List.mem_cons,List.mem_nil_iff,or_false] at hp
 rcases hp with rfl | rfl <;> rfl
theorem VecN.pairs {W:World}{b off cap:Nat}{us:List Int}{n:Nat}(h:VecN W (.slice (some ⟨b,off,none⟩) us.length cap) us n):
  ∃ ps:List (Nm × Int),ps.map (·.2)=us∧(∀ p∈ps,NumL W (.agg #[.bool p.1.neg,.slice p.1.o p.1.l p.1.c]) p.2 n)∧∀ j v,(ps.flatMap pcells)[j]?=some v→W.cell? ⟨b,off+j,none⟩=some v:=by
 have H:∀ i:Fin us.length,∃ r:Nm,W.cell? ⟨b,off+i * 2,none⟩=some (.bool r.neg)∧W.cell? ⟨b,off+i * 2+1,none⟩=some (.slice r.o r.l r.c)∧NumL W (.agg #[.bool r.neg,.slice r.o r.l r.c]) (us.getD i 0) n:=fun i=>by
  obtain⟨-,neg,o,l,c,h1,h2,h3⟩:=h.at i i.2
  exact⟨⟨neg,o,l,c⟩,h1,h2,h3⟩
 obtain⟨f,hf⟩:=Classical.axiomOfChoice H
 have hl:(List.ofFn fun i:Fin us.length=>((f i,us.getD i 0):Nm × Int)).length=us.length:=List.length_ofFn
 refine⟨List.ofFn fun i:Fin us.length=>(f i,us.getD i 0),?_,fun p hp=>?_,fun j v hj=>?_⟩
 ·apply List.ext_getElem (by rw [List.length_map,hl])
  intro i h1 h2
  rw [List.getElem_map,List.getElem_ofFn]
  show us.getD i 0=us[i]
  rw [List.getD_eq_getElem?_getD,List.getElem?_eq_getElem h2];rfl
 ·obtain⟨i,rfl⟩:=(List.mem_ofFn).1 hp
  exact(hf i).2.2
 ·have hjl:=(List.getElem?_eq_some_iff.1 hj).1
  rw [zdS,hl] at hjl
  have hi:j / 2 < us.length:=by omega
  obtain⟨e1,e2⟩:=zkf (List.ofFn fun i:Fin us.length=>(f i,us.getD i 0)) (j / 2) (by rw [hl];exact hi)
  obtain⟨k1,k2,-⟩:=hf ⟨j / 2,hi⟩
  rw [List.getElem_ofFn] at e1 e2
  by_cases hm:j % 2=0
  ·have ej:j=j / 2 * 2:=by omega
   rw [← ej] at e1
   rw [e1] at hj
   rw [← Option.some.inj hj]
   have:(⟨b,off+j,none⟩:Addr)=⟨b,off+j / 2 * 2,none⟩:=by rw [← ej]
   rw [this];exact k1
  ·have ej:j=j / 2 * 2+1:=by omega
   rw [← ej] at e2
   rw [e2] at hj
   rw [← Option.some.inj hj]
   have:(⟨b,off+j,none⟩:Addr)=⟨b,off+j / 2 * 2+1,none⟩:=by rw [Nat.add_assoc,← ej]
   rw [this];exact k2
theorem zkY (zs us:List Int)(k:Nat)(u:Int)(hk:k < zs.length):splice (zs.set k u) (k+1) us=splice zs k (u :: us):=by
 unfold splice
 have hk':k < (zs.set k u).length:=by rw [List.length_set];exact hk
 rw [List.take_succ_eq_append_getElem hk',List.getElem_set_self,List.take_set_of_le zL,List.drop_set_of_lt (by omega),List.length_cons,show k+1+us.length=k+(us.length+1) by omega,List.append_assoc]
 rfl
theorem NumL.laid {w W:World}{P:Nat}{zs:List Int}{n:Nat}(h:VecO w W P zs n){k:Nat}(hk:k < zs.length)(neg:Bool)(o:Option Addr)(l c:Nat){v:Value}{y:Int}{m:Nat}(hv:NumL W v y m):
  NumL ((W.setCell ⟨P,k * 2,none⟩ (.bool neg)).setCell ⟨P,k * 2+1,none⟩ (.slice o l c)) v y m:=by
 obtain⟨neg0,o0,l0,c0,k0,k1,-⟩:=h.at k hk
 have k1':(W.setCell ⟨P,k * 2,none⟩ (.bool neg)).cell? ⟨P,k * 2+1,none⟩=some (.slice o0 l0 c0):=(World.cell?_setCell_other (h:=fun e=>by simp at e) ..).trans k1
 exact(hv.setCell k0 (fun z e=>by cases e)).setCell k1' (fun z e=>by cases e)
theorem VecO.lay {w:World}{P n:Nat}:∀(ps:List (Nm × Int)) (k:Nat) (W:World) (zs:List Int),VecO w W P zs n→k+ps.length≤zs.length→(∀ p∈ps,NumL W (.agg #[.bool p.1.neg,.slice p.1.o p.1.l p.1.c]) p.2 n)→VecO w (W.setCells P (k * 2) (ps.flatMap pcells)) P (splice zs k (ps.map (·.2))) n
 | [],k,W,zs,h,_,_=>by simpa [splice,World.setCells] using h
 | p :: ps,k,W,zs,h,hk,hn=>by
  rw [List.length_cons] at hk
  have hset:=h.set (k:=k) (by omega) (hn p (by simp))
  have hrest:=VecO.lay ps (k+1) _ _ hset (by rw [List.length_set];omega) (fun q hq=>NumL.laid h (by omega) _ _ _ _ (hn q (by simp [hq])))
  rw [zkY _ _ _ _ (by omega),show(k+1) * 2=k * 2+1+1 by omega] at hrest
  exact hrest
theorem zgz {B b:Nat}{w0:World}(hB:B≤b):∀(vs:List Value) (o:Nat) (W:World),Below B w0 W→Below B w0 (W.setCells b o vs)
 | [],_,_,h=>h
 | v :: r,o,_,h=>zgz hB r (o+1) _ (h.setCell (p:=⟨b,o,none⟩) hB v)
theorem zgA (b:Nat):∀(vs:List Value) (o:Nat) (W:World),(W.setCells b o vs).heap.size=W.heap.size
 | [],_,_=>rfl
 | v :: r,o,_=>by rw [World.setCells,zgA b r (o+1)];simp
theorem Tryz.sizeNum:(Tryz.prog.info? 29).map (·.size)=some 2:=by kernel_rfl
theorem zkx {P:Program}(w:World)(dT sT ty elem:TypeId)(b o dLen dCap:Nat)(a:Addr)(sLen sCap:Nat)(cs:List Value)
  (hu:P.underlying dT=some (.slice elem)) (hs:(P.info? elem).map (·.size)=some 2) (hle:sLen≤dLen) (hn:cs.length=sLen * 2)
  (hsrc:∀ j v,cs[j]?=some v→w.cell? (a.add j)=some v) (hc:∀ j,j < cs.length→(w.cell? ⟨b,o+j,none⟩).isSome=true) (hf:∀ j,j < cs.length→w.frozen? ⟨b,o+j,none⟩=false) (h1:∀ v∈cs,v.oneCell'=true):
  (Builtin.copy_ #[dT,sT] ty #[.slice (some ⟨b,o,none⟩) dLen dCap,.slice (some a) sLen sCap]).run P w=.ok (goInt sLen) (w.setCells b o cs):=by
 have hl:=run_loadCells_list (P:=P) w a cs hsrc
 have hst:=run_storeCells_cells (P:=P) b o cs 0 w (by simpa using hc) (by simpa using hf) h1
 have hm:Nat.min sLen dLen=sLen:=Nat.min_eq_left hle
 cases hq:P.info? elem with
 | none=>simp [hq] at hs
 | some i=>
  have hi:i.size=2:=by simpa [hq] using hs
  simp [Builtin.copy_,run_underlying hu,Builtin.lenOf,Builtin.firstCells,sizeOf,typeInfo,hq,hi,hm,← hn,hl,hst]
theorem zky {P:Program}(w:World)(dT sT ty elem:TypeId)(d a:Option Addr)(dLen dCap sCap:Nat)(hu:P.underlying dT=some (.slice elem))(hs:(P.info? elem).map (·.size)=some 2):
  (Builtin.copy_ #[dT,sT] ty #[.slice d dLen dCap,.slice a 0 sCap]).run P w=.ok (goInt 0) w:=by
 cases hq:P.info? elem with
 | none=>simp [hq] at hs
 | some i=>
  have hl:∀(x:Addr),(loadCells x 0).run P w=.ok #[] w:=fun x=>by simpa using run_loadCells_list (P:=P) w x [] (by simp)
  cases d <;> cases a <;> simp [Builtin.copy_,run_underlying hu,Builtin.lenOf,Builtin.firstCells,sizeOf,typeInfo,hq,storeCells,hl]
theorem zh9 {w W:World}{P n:Nat}{zs:List Int}(h:VecO w W P zs n)(k dl dc:Nat)(v:Value)(us:List Int)(hv:VecN W v us n)(hk:k+us.length≤zs.length)(hd:us.length≤dl):
  ∃ W',(∀ ty,(Builtin.copy_ #[72,72] ty #[.slice (some ⟨P,k * 2,none⟩) dl dc,v]).run Tryz.prog W=.ok (goInt us.length) W')∧VecO w W' P (splice zs k us) n∧W'.heap.size=W.heap.size∧Below P W W':=by
 by_cases h0:us.length=0
 ·obtain rfl:us=[]:=List.eq_nil_of_length_eq_zero h0
  obtain⟨ao,cap,rfl,-,-⟩:=hv
  exact⟨W,fun ty=>zky W _ _ ty 29 _ _ _ _ _ (by kernel_rfl) Tryz.sizeNum,by simpa [splice] using h,rfl,Below.refl _ _⟩
 ·obtain⟨b,off,cap,rfl⟩:=hv.form (by omega)
  obtain⟨ps,e1,e2,e3⟩:=hv.pairs
  have hlen:ps.length=us.length:=by rw [← e1,List.length_map]
  have ha:∀ j,(⟨b,off,none⟩:Addr).add j=⟨b,off+j,none⟩:=fun j=>by unfold Addr.add;split <;> simp_all
  refine⟨W.setCells P (k * 2) (ps.flatMap pcells),fun ty=>zkx W _ _ ty 29 P (k * 2) dl dc ⟨b,off,none⟩ us.length cap _ (by kernel_rfl) Tryz.sizeNum hd (by rw [zdS,hlen]) (fun j u hj=>by rw [ha];exact e3 j u hj) (fun j hj=>?_) (fun j _=>h.thaw _) (zkg ps),?_,zgA _ _ _ _,zgz zL _ _ _ (Below.refl _ _)⟩
  ·rw [zdS] at hj
   obtain⟨neg,o,l,c,q1,q2,-⟩:=h.at (k+j / 2) (by omega)
   by_cases hm:j % 2=0
   ·rw [show k * 2+j=(k+j / 2) * 2 by omega,q1];rfl
   ·rw [show k * 2+j=(k+j / 2) * 2+1 by omega,q2];rfl
  ·have:=VecO.lay ps k W zs h (by omega) e2
   rwa [e1] at this
theorem zeQ {w W:World}{P n:Nat}{zs:List Int}(h:VecO w W P zs n)(k o dl dc:Nat)(ho:o=k * 2)(v:Value)(us:List Int)(hv:VecN W v us n)(hk:k+us.length≤zs.length)(hd:us.length≤dl):
  ∃ W',(∀ ty,(Builtin.copy_ #[72,72] ty #[.slice (some ⟨P,o,none⟩) dl dc,v]).run Tryz.prog W=.ok (goInt us.length) W')∧VecO w W' P (splice zs k us) n∧W'.heap.size=W.heap.size∧Below P W W':=by
 subst ho
 exact zh9 h k dl dc v us hv hk hd
theorem zgK {P:Program}{ops:Array Oper}{o:Oper}{a:Act}{w:World}{K:Act→World→Prop}{Q:Exit→Act→World→Prop}{E:Prop}(hgd:o.guard=none)(dd:Nat)(hdst:o.dst=some dd)(d s:Operand)(dT sT:TypeId)
  (ho:o.op=.call { callee:=.builtin .copy,args:=#[d,s],argTypes:=#[dT,sT] }) (dv sv v:Value) (w':World) (hd:a.eval d=dv) (hs:a.eval s=sv)
  (hrun:∀ ty,(Builtin.copy_ #[dT,sT] ty #[dv,sv]).run P w=.ok v w') (h:K (a.put (some dd) v) w'):
  if Region.wanted o (yielded ops a.tmps)=true then Oper.wp P o a w K Q else E:=by
 rw [← hdst] at h
 have hw:Region.wanted o (yielded ops a.tmps)=true:=by simp [Region.wanted,hgd]
 rw [if_pos hw]
 unfold Oper.wp
 simp [execOp,ho,resolve,invoke,builtin,hd,hs,hrun,Result.andThen]
 exact h
structure RowsI (w W:World)(B:Nat)(m:Nat)(rows:List (List Int))(k N:Nat):Prop where
 low:Below w.heap.size w W
 high:w.heap.size≤B
 lt:B < W.heap.size
 blk:∃ cs t,W.heap[B]?=some (.cells cs t)
 nil:∀ i,k≤i→i < m→W.cell? ⟨B,i,none⟩=some (.slice none 0 0)
 row:∀ i,i < k→∃ Q,W.cell? ⟨B,i,none⟩=some (.slice (some ⟨Q,0,none⟩) (rows.getD i []).length (rows.getD i []).length)∧VecN W (.slice (some ⟨Q,0,none⟩) (rows.getD i []).length (rows.getD i []).length) (rows.getD i []) N∧Q < W.heap.size∧Q≠B
theorem zdO (m i:Nat)(hi:i < m):(madeCells #[.slice none 0 0] m)[i]?=some (.slice none 0 0):=by
 simp [madeCells,hi,Nat.mod_one]
theorem RowsI.start {w W0:World}(hb:Below w.heap.size w W0)(m:Nat)(rows:List (List Int))(N:Nat):RowsI w (W0.alloc (.cells (madeCells #[.slice none 0 0] m) 72)) W0.heap.size m rows 0 N:=by
 refine⟨hb.alloc hb.size _,hb.size,by simp,⟨_,_,heap_alloc_new W0 _⟩,fun i _ hi=>?_,fun i hi=>absurd hi (by omega)⟩
 rw [World.cell?_alloc_new]
 exact zdO m i hi
theorem RowsI.later {w W W':World}{B m:Nat}{rows:List (List Int)}{k N:Nat}(h:RowsI w W B m rows k N)(hb:Below W.heap.size W W'):RowsI w W' B m rows k N where
 low:=h.low.trans (hb.mono h.low.size)
 high:=h.high
 lt:=zT h.lt hb.size
 blk:=by obtain⟨cs,t,e⟩:=h.blk;exact⟨cs,t,(hb.block _ (zw e)).trans e⟩
 nil:=fun i h1 h2=>(hb.cell (p:=⟨B,i,none⟩) h.lt).trans (h.nil i h1 h2)
 row:=fun i hi=>by
  obtain⟨Q,e,hv,hq,hne⟩:=h.row i hi
  exact⟨Q,(hb.cell (p:=⟨B,i,none⟩) h.lt).trans e,hv.below hb zL,zT hq hb.size,hne⟩
theorem RowsI.thaw {w W:World}{B m:Nat}{rows:List (List Int)}{k N:Nat}(h:RowsI w W B m rows k N)(i:Nat):W.frozen? ⟨B,i,none⟩=false:=by
 obtain⟨cs,t,e⟩:=h.blk
 simp [World.frozen?,e]
theorem RowsI.step {w W W':World}{B m:Nat}{rows:List (List Int)}{k N:Nat}(h:RowsI w W B m rows k N)(hk:k < m)(hb:Below W.heap.size (W.setCell ⟨B,k,none⟩ (.slice (some ⟨W.heap.size,0,none⟩) (rows.getD k []).length (rows.getD k []).length)) W')
  (hlt:W.heap.size < W'.heap.size) (hv:VecN W' (.slice (some ⟨W.heap.size,0,none⟩) (rows.getD k []).length (rows.getD k []).length) (rows.getD k []) N):RowsI w W' B m rows (k+1) N:=by
 have hnil:=h.nil k zL hk
 have hu:∀ z,(Value.slice none 0 0)≠.int .u32 z:=fun z e=>by cases e
 have hlb:=h.lt
 refine⟨(h.low.setCell (p:=⟨B,k,none⟩) h.high _).trans (hb.mono h.low.size),h.high,by omega,?_,fun i h1 h2=>?_,fun i hi=>?_⟩
 ·obtain⟨cs,t,e⟩:=h.blk
  exact⟨_,t,(hb.block B hlb).trans (heap_setCell_same W B k _ _ _ e)⟩
 ·exact(hb.cell (p:=⟨B,i,none⟩) hlb).trans ((World.cell?_setCell_other (h:=fun e=>by simp at e <;> omega) ..).trans (h.nil i (by omega) h2))
 ·by_cases e:i=k
  ·subst e
   exact⟨_,(hb.cell (p:=⟨B,i,none⟩) hlb).trans (World.cell?_setCell_same (h:=hnil) ..),hv,hlt,by omega⟩
  ·obtain⟨Q',e',hv',hq',hne'⟩:=h.row i (by omega)
   have hv2:=hv'.other (x:=.slice (some ⟨W.heap.size,0,none⟩) (rows.getD k []).length (rows.getD k []).length) hne' hnil hu
   exact⟨Q',(hb.cell (p:=⟨B,i,none⟩) hlb).trans ((World.cell?_setCell_other (h:=fun e=>by simp at e <;> omega) ..).trans e'),hv2.below hb (by simp),by omega,hne'⟩
theorem RowsI.step_at {w W W':World}{B m:Nat}{rows:List (List Int)}{k N L:Nat}{r:List Int}(h:RowsI w W B m rows k N)(hk:k < m)(hr:rows.getD k []=r)(hL:r.length=L)(hb:Below W.heap.size (W.setCell ⟨B,k,none⟩ (.slice (some ⟨W.heap.size,0,none⟩) L L)) W')
  (hlt:W.heap.size < W'.heap.size) (hv:VecN W' (.slice (some ⟨W.heap.size,0,none⟩) r.length r.length) r N):RowsI w W' B m rows (k+1) N:=by
 subst hL hr
 exact h.step hk hb hlt hv
theorem RowsI.mat {w W:World}{B m:Nat}{rows:List (List Int)}{N:Nat}(h:RowsI w W B m rows m N)(hm:rows.length=m):MatN W (.slice (some ⟨B,0,none⟩) m m) rows N:=by
 subst hm
 refine⟨_,_,rfl,Nat.le_refl _,fun h0=>⟨_,_,rfl,h.lt,fun i zs hi=>?_⟩⟩
 obtain⟨hi',e⟩:=List.getElem?_eq_some_iff.1 hi
 obtain⟨Q,e1,hv,-,-⟩:=h.row i hi'
 rw [zp hi',e] at e1 hv
 exact⟨_,by rw [Nat.zero_add];exact e1,hv⟩
theorem zjL (W:World)(ob:Obj)(B k:Nat)(hB:B < W.heap.size)(x:Value):Below W.heap.size (W.setCell ⟨B,k,none⟩ x) ((W.alloc ob).setCell ⟨B,k,none⟩ x):=by
 have hb:=(Below.refl W.heap.size W).alloc zL ob
 refine⟨rfl,rfl,rfl,by simp,fun j hj=>?_⟩
 have e:=hb.block j hj
 by_cases hjB:j=B
 ·subst hjB
  unfold World.setCell
  simp only [Array.getElem?_modify]
  simp [e]
 ·rw [heap_setCell_other _ ⟨B,k,none⟩ j x (fun h=>hjB h),heap_setCell_other _ ⟨B,k,none⟩ j x (fun h=>hjB h)]
  exact e
theorem zjM (W:World)(m N:Nat):MatN (W.alloc (.cells (madeCells #[.slice none 0 0] m) 72)) (.slice (some ⟨W.heap.size,0,none⟩) m m) (List.replicate m []) N:=by
 refine⟨_,m,by rw [List.length_replicate],by rw [List.length_replicate];exact Nat.le_refl _,fun _=>⟨_,_,rfl,by simp,fun i zs hi=>?_⟩⟩
 have hi':=(List.getElem?_eq_some_iff.1 hi).1
 rw [List.length_replicate] at hi'
 have:zs=[]:=by rw [List.getElem?_replicate,if_pos hi'] at hi;exact(Option.some.inj hi).symm
 subst this
 refine⟨.slice none 0 0,?_,⟨none,0,rfl,Nat.le_refl _,fun h=>absurd h (by simp)⟩⟩
 rw [Nat.zero_add,World.cell?_alloc_new]
 exact zdO m i hi'
def besL (n:Nat)(hs os:List (List Int)):List (List Int):=List.zipWith (fun r o=>r ++(o ++ List.replicate (n - o.length) 0)) hs os
theorem zcV (n:Nat)(hs os:List (List Int))(h:os.length=hs.length):(besL n hs os).length=hs.length:=by
 unfold besL
 rw [List.length_zipWith];omega
theorem zhv (n:Nat)(hs os:List (List Int))(k:Nat)(h1:k < hs.length)(h2:k < os.length):(besL n hs os).getD k []=hs[k] ++(os[k] ++ List.replicate (n - os[k].length) 0):=by
 unfold besL
 rw [List.getD_eq_getElem?_getD,List.getElem?_zipWith,List.getElem?_eq_getElem h1,List.getElem?_eq_getElem h2]
 rfl
theorem zey {n:Nat}{hs os:List (List Int)}(hl:∀ r∈hs,r.length=n)(ho:∀ r∈os,r.length≤n):∀ r∈besL n hs os,r.length=n+n:=fun r hr=>by
 obtain⟨k,hk,rfl⟩:=List.getElem_of_mem hr
 unfold besL at hk ⊢
 rw [List.length_zipWith] at hk
 rw [List.getElem_zipWith]
 have e1:=hl hs[k] (List.getElem_mem (by omega))
 have e2:=ho os[k] (List.getElem_mem (by omega))
 rw [List.length_append,List.length_append,List.length_replicate]
 omega
theorem zhx {n:Nat}{hs:List (List Int)}(hl:∀ r∈hs,r.length=n):besL n hs hs=hs.map fun r=>r ++ r:=by
 induction hs with
 | nil=>rfl
 | cons r hs ih=>
  have e:=hl r (by simp)
  have:=ih (fun x hx=>hl x (by simp [hx]))
  unfold besL at this ⊢
  rw [List.zipWith_cons_cons,this,List.map_cons,e,Nat.sub_self]
  simp
theorem zhw (n:Nat)(ks:List (List Int)):besL n ks (List.replicate ks.length [])=ks.map fun r=>r ++ List.replicate n 0:=by
 induction ks with
 | nil=>rfl
 | cons r ks ih=>
  unfold besL at ih ⊢
  rw [List.length_cons,List.replicate_succ,List.zipWith_cons_cons,ih,List.map_cons]
  simp
theorem zhy {n:Nat}{hs ks:List (List Int)}(hl:∀ r∈hs,r.length=n):besL n hs hs ++ besL n ks (List.replicate ks.length [])=wideL n hs ks:=by
 rw [zhx hl,zhw];rfl
theorem zkW {n:Nat}{r:List Int}(hr:r.length=n):splice (List.replicate (2 * n) 0) 0 r=r ++ List.replicate n 0:=by
 unfold splice
 rw [List.take_zero,List.nil_append,List.drop_replicate,hr]
 congr 2;omega
theorem zkX {n:Nat}{r o:List Int}(hr:r.length=n)(ho:o.length≤n):splice (r ++ List.replicate n 0) n o=r ++(o ++ List.replicate (n - o.length) 0):=by
 unfold splice
 rw [List.take_left' hr]
 have e:(r ++ List.replicate n (0:Int)).drop (n+o.length)=List.replicate (n - o.length) 0:=by
  rw [List.drop_append,hr,List.drop_of_length_le (by omega),List.nil_append,List.drop_replicate]
  congr 1;omega
 rw [e]
def updN {α:Type}(f:Nat→α)(k:Nat)(x:α):Nat→α:=fun i=>if i=k then x else f i
theorem zaN {α:Type}(f:Nat→α)(k:Nat)(x:α):updN f k x k=x:=if_pos rfl
theorem zax {α:Type}(f:Nat→α)(k:Nat)(x:α){i:Nat}(h:i≠k):updN f k x i=f i:=if_neg h
structure OutG (w W:World)(O m:Nat)(vs:Nat→Value)(ps:Nat→List (Nm × Int))(N:Nat):Prop where
 low:Below w.heap.size w W
 high:w.heap.size≤O
 blk:∃ cs,W.heap[O]?=some (.cells cs 72)
 cell:∀ i,i < m→W.cell? ⟨O,i,none⟩=some (vs i)
 grow:∀ i,i < m→Grow W w.heap.size (vs i) (ps i) N
 two:∀ i k,i < m→k < m→i≠k→∀ g,(vs i).ownBlock=some g→(vs k).ownBlock≠some g
 lim:∀ i k,i < m→k < m→∀ p∈ps i,apart (vs k).ownBlock p.1.sl
theorem OutG.start {w W0:World}(hb:Below w.heap.size w W0)(m N:Nat):OutG w (W0.alloc (.cells (madeCells #[.slice none 0 0] m) 72)) W0.heap.size m (fun _=>.slice none 0 0) (fun _=>[]) N where
 low:=hb.alloc hb.size _
 high:=hb.size
 blk:=⟨_,heap_alloc_new W0 _⟩
 cell:=fun i hi=>by
  rw [World.cell?_alloc_new]
  exact zdO m i hi
 grow:=fun _ _=>Grow.nil _ _ _
 two:=fun _ _ _ _ _ g h=>by cases h
 lim:=fun _ _ _ _ p hp=>by cases hp
theorem OutG.lt {w W:World}{O m:Nat}{vs:Nat→Value}{ps:Nat→List (Nm × Int)}{N:Nat}(h:OutG w W O m vs ps N):O < W.heap.size:=by
 obtain⟨cs,e⟩:=h.blk
 exact zw e
theorem OutG.thaw {w W:World}{O m:Nat}{vs:Nat→Value}{ps:Nat→List (Nm × Int)}{N:Nat}(h:OutG w W O m vs ps N)(k:Nat):W.frozen? ⟨O,k,none⟩=false:=by
 obtain⟨cs,e⟩:=h.blk
 simp [World.frozen?,e]
theorem OutG.later {w W W':World}{O m:Nat}{vs:Nat→Value}{ps:Nat→List (Nm × Int)}{N:Nat}(h:OutG w W O m vs ps N)(hb:Below W.heap.size W W'):OutG w W' O m vs ps N where
 low:=h.low.trans (hb.mono h.low.size)
 high:=h.high
 blk:=by obtain⟨cs,e⟩:=h.blk;exact⟨cs,(hb.block _ (zw e)).trans e⟩
 cell:=fun i hi=>(hb.cell (p:=⟨O,i,none⟩) h.lt).trans (h.cell i hi)
 grow:=fun i hi=>(h.grow i hi).later hb
 two:=h.two
 lim:=h.lim
theorem OutG.own_ne {w W:World}{O m:Nat}{vs:Nat→Value}{ps:Nat→List (Nm × Int)}{N:Nat}(h:OutG w W O m vs ps N){i:Nat}(hi:i < m):some O≠(vs i).ownBlock:=fun e=>by
 obtain⟨cs,hO⟩:=h.blk
 rcases(h.grow i hi).1.2 with⟨e1,-⟩ |⟨g,cap,cur,e1,-,hh,-⟩
 ·rw [e1] at e;cases e
 ·rw [e1] at e
  simp only [Value.ownBlock,Option.some.injEq] at e
  rw [← e,hO] at hh
  simp only [Option.some.injEq,Obj.cells.injEq] at hh
  exact absurd hh.2.1 (by decide)
theorem zf3 {W W':World}{base:Nat}{e:TypeId}{size:Nat}{v:Value}{n:Nat}{xs:List Value}(h:W.ownsRow base e size v n xs)(hk:∀ g,v.ownBlock=some g→W'.heap[g]?=W.heap[g]?):W'.ownsRow base e size v n xs:=by
 refine⟨h.1,?_⟩
 rcases h.2 with hn |⟨g,cap,cur,ev,hbg,hg,rest⟩
 ·exact .inl hn
 ·exact .inr ⟨g,cap,cur,ev,hbg,(hk g (by rw [ev];rfl)).trans hg,rest⟩
theorem zdQ {W:World}{base n:Nat}{v:Value}{ps:List (Nm × Int)}(h:Grow W base v ps n){g:Nat}(hg:v.ownBlock=some g):g < W.heap.size:=(h.1.lt g hg).2
theorem OutG.push {w W W3:World}{O m:Nat}{vs:Nat→Value}{ps:Nat→List (Nm × Int)}{N:Nat}(h:OutG w W O m vs ps N){k:Nat}(hk:k < m)(qs:List (Nm × Int))(hq:∀ p∈qs,NumL W p.1.val p.2 N)(hqa:∀ i,i < m→∀ p∈qs,apart (vs i).ownBlock p.1.sl)
  {g L cap:Nat} (hL:L=(ps k).length+qs.length) (hown:W3.ownsRow w.heap.size 29 2 (.slice (some ⟨g,0,none⟩) L cap) L ((ps k).flatMap ncells ++ qs.flatMap ncells)) (hg:W.grownBy W3 (vs k).ownBlock) (hat:(vs k).ownBlock=some g∨W.heap.size≤g):
  OutG w (W3.setCell ⟨O,k,none⟩ (.slice (some ⟨g,0,none⟩) L cap)) O m (updN vs k (.slice (some ⟨g,0,none⟩) L cap)) (updN ps k (ps k ++ qs)) N:=by
 obtain⟨cs,hO⟩:=h.blk
 have hOlt:=h.lt
 have hO3:W3.heap[O]?=some (.cells cs 72):=(hg.block O hOlt (h.own_ne hk)).trans hO
 have hc3:∀ i,i < m→W3.cell? ⟨O,i,none⟩=some (vs i):=fun i hi=>hg.cell (h.cell i hi) (h.own_ne hk)
 have hgO:g≠O:=by
  intro e
  rcases hown.2 with⟨e1,-⟩ |⟨g',cap',cur,e1,-,hh,-⟩
  ·cases e1
  ·simp only [Value.slice.injEq,Option.some.injEq,Addr.mk.injEq,and_true] at e1
   rw [← e1.1,e,hO3] at hh
   simp only [Option.some.injEq,Obj.cells.injEq] at hh
   exact absurd hh.2.1 (by decide)
 have hslice:∃ o l c,vs k=.slice o l c:=by
  rcases(h.grow k hk).1.2 with⟨e1,-⟩ |⟨g',cap',cur,e1,-⟩
  ·exact⟨_,_,_,e1⟩
  ·exact⟨_,_,_,e1⟩
 have hu:∀ z,vs k≠.int .u32 z:=fun z e=>by
  obtain⟨o,l,c,e1⟩:=hslice
  rw [e1] at e;cases e
 have hnum:∀ p:Nm × Int,NumL W p.1.val p.2 N→apart (vs k).ownBlock p.1.sl→NumL (W3.setCell ⟨O,k,none⟩ (.slice (some ⟨g,0,none⟩) L cap)) p.1.val p.2 N:=fun p h1 h2=>(h1.grown hg h2).setCell (hc3 k hk) hu
 have hnew:∀ p:Nm × Int,NumL W p.1.val p.2 N→apart (vs k).ownBlock p.1.sl→apart (some g) p.1.sl:=fun p h1 h2 a l c e h0 hb=>by
  rcases hat with hat | hat
  ·exact h2 a l c e h0 (hb.trans hat.symm)
  ·have:=h1.inside a l c e h0
   simp only [Option.some.injEq] at hb
   omega
 have hall:∀ i,i < m→∀ p∈updN ps k (ps k ++ qs) i,NumL W p.1.val p.2 N∧∀ j,j < m→apart (vs j).ownBlock p.1.sl:=fun i hi p hp=>by
  by_cases e:i=k
  ·rw [e,zaN] at hp
   rcases List.mem_append.1 hp with hp | hp
   ·exact⟨((h.grow k hk).2 p hp).1,fun j hj=>h.lim k j hk hj p hp⟩
   ·exact⟨hq p hp,fun j hj=>hqa j hj p hp⟩
  ·rw [zax _ _ _ e] at hp
   exact⟨((h.grow i hi).2 p hp).1,fun j hj=>h.lim i j hi hj p hp⟩
 have hlim:∀ i j,i < m→j < m→∀ p∈updN ps k (ps k ++ qs) i,apart (updN vs k (.slice (some ⟨g,0,none⟩) L cap) j).ownBlock p.1.sl:=fun i j hi hj p hp=>by
  obtain⟨h1,h2⟩:=hall i hi p hp
  by_cases e:j=k
  ·rw [e,zaN];exact hnew p h1 (h2 k hk)
  ·rw [zax _ _ _ e];exact h2 j hj
 have hheap:∀ b,b≠O→(W3.setCell ⟨O,k,none⟩ (.slice (some ⟨g,0,none⟩) L cap)).heap[b]?=W3.heap[b]?:=fun b hb=>heap_setCell_other _ _ b _ (fun e=>hb e)
 have hb3:Below w.heap.size w W3:=h.low.grown hg h.low.size (fun b hb=>((h.grow k hk).1.lt b hb).1)
 refine⟨hb3.setCell (p:=⟨O,k,none⟩) h.high _,h.high,⟨_,heap_setCell_same W3 O k _ _ _ hO3⟩,fun i hi=>?_,fun i hi=>⟨?_,fun p hp=>⟨?_,hlim i i hi hi p hp⟩⟩,fun i j hi hj hij b h1 h2=>?_,hlim⟩
 ·by_cases e:i=k
  ·rw [e,zaN];exact World.cell?_setCell_same (h:=hc3 k hk) ..
  ·rw [zax _ _ _ e];exact(World.cell?_setCell_other (h:=fun e'=>by simp at e' <;> omega) ..).trans (hc3 i hi)
 ·by_cases e:i=k
  ·rw [e,zaN,zaN,List.length_append,← hL,List.flatMap_append]
   exact zf3 hown fun b hb=>hheap b (by
    simp only [Value.ownBlock,Option.some.injEq] at hb
    omega)
  ·rw [zax _ _ _ e,zax _ _ _ e]
   refine zf3 (h.grow i hi).1 fun b hb=>(hheap b fun e'=>h.own_ne hi (by rw [hb,e'])).trans ?_
   exact hg.block b (zdQ (h.grow i hi) hb) fun e'=>h.two i k hi hk e b hb e'.symm
 ·obtain⟨h1,h2⟩:=hall i hi p hp
  exact hnum p h1 (h2 k hk)
 ·by_cases e:i=k
  ·rw [e,zaN] at h1
   have ej:j≠k:=by omega
   rw [zax _ _ _ ej] at h2
   simp only [Value.ownBlock,Option.some.injEq] at h1
   rcases hat with hat | hat
   ·exact h.two k j hk hj (by omega) b (by rw [hat,h1]) h2
   ·have:=zdQ (h.grow j hj) h2
    omega
  ·rw [zax _ _ _ e] at h1
   by_cases ej:j=k
   ·rw [ej,zaN] at h2
    simp only [Value.ownBlock,Option.some.injEq] at h2
    rcases hat with hat | hat
    ·exact h.two k i hk hi (by omega) b (by rw [hat,h2]) h1
    ·have:=zdQ (h.grow i hi) h1
     omega
   ·rw [zax _ _ _ ej] at h2
    exact h.two i j hi hj hij b h1 h2
theorem OutG.mat {w W:World}{O m:Nat}{vs:Nat→Value}{ps:Nat→List (Nm × Int)}{N:Nat}(h:OutG w W O m vs ps N)(zss:List (List Int))(hl:zss.length=m)(hz:∀ i,i < m→(ps i).map (·.2)=zss.getD i []):MatN W (.slice (some ⟨O,0,none⟩) m m) zss N:=by
 subst hl
 refine⟨_,_,rfl,Nat.le_refl _,fun h0=>⟨_,_,rfl,h.lt,fun i zs hi=>?_⟩⟩
 obtain⟨hi',e⟩:=List.getElem?_eq_some_iff.1 hi
 refine⟨vs i,by rw [Nat.zero_add];exact h.cell i hi',?_⟩
 have:=(h.grow i hi').vec
 rw [hz i hi',zp hi',e] at this
 exact this
theorem OutG.old {w W:World}{O m:Nat}{vs:Nat→Value}{ps:Nat→List (Nm × Int)}{N:Nat}(h:OutG w W O m vs ps N){r:Nm}{z:Int}{n:Nat}(hr:NumL w r.val z n){i:Nat}(hi:i < m):apart (vs i).ownBlock r.sl:=fun a l c e h0 hb=>by
 have h1:=hr.inside a l c e h0
 have h2:=((h.grow i hi).1.lt a.block hb.symm).1
 omega
end Go.Proofs.YtdedolkgcdlmeaaGreatDoor
