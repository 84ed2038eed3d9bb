import Derived.Test.YtdedolkgcdlmeaaGreatDoorShare
set_option maxRecDepth 100000
set_option maxHeartbeats 6400000
set_option linter.unusedSimpArgs false
namespace Go.Proofs.YtdedolkgcdlmeaaGreatDoor
open Go.RowKit Limbs
variable {n nv nx k:Nat}{p:Nat→Nat}{zs v:List Int}{w W:World}{u left:Value}
def oftL (hs:List (List Int))(p:Nat→Nat)(xs:List Int)(k:Nat):Int:=xs.getD (p k) 0/(hs.getD k []).getD (p k) 0
def leftL (hs:List (List Int))(p:Nat→Nat)(zs:List Int):Nat→List Int
 | 0=>zs
 | k+1=>List.zipWith (fun x y=>x-y) (leftL hs p zs k) ((hs.getD k []).map (oftL hs p (leftL hs p zs k) k*·))
def muchL (hs:List (List Int))(p:Nat→Nat)(zs:List Int):List Int:=(List.range hs.length).map fun k=>oftL hs p (leftL hs p zs k) k
theorem zaD (hs:List (List Int))(p:Nat→Nat)(zs:List Int):(muchL hs p zs).length=hs.length:=by unfold muchL;simp
theorem zaE (m:Nat)(f:Nat→Int)(k:Nat)(hk:k<m):((List.range m).map f).getD k 0=f k:=by
 rw [List.getD_eq_getElem?_getD,List.getElem?_map,List.getElem?_range hk]
 rfl
theorem zdD (hs:List (List Int))(p:Nat→Nat)(zs:List Int)(k:Nat)(hk:k<hs.length):(muchL hs p zs).getD k 0=oftL hs p (leftL hs p zs k) k:=zaE _ _ k hk
theorem zba {n:Nat}{hs:List (List Int)}{p:Nat→Nat}(hF:FormL n hs p){zs:List Int}(hz:zs.length=n):∀ k,k≤hs.length→(leftL hs p zs k).length=n
 | 0,_=>hz
 | k+1,hk=>by
  have h1:=zba hF hz k (by omega)
  have h2:=hF.len _ (zr (show k<hs.length by omega))
  have el:leftL hs p zs (k+1)=List.zipWith (fun x y=>x-y) (leftL hs p zs k) ((hs.getD k []).map (oftL hs p (leftL hs p zs k) k*·)):=rfl
  rw [el,zF _ _ _ (by rw [List.length_map,h1,h2])]
  exact h1
theorem zbu {n:Nat}{hs:List (List Int)}{p:Nat→Nat}(hF:FormL n hs p){zs:List Int}(hz:zs.length=n):∀ k,k≤hs.length→∀ b,b<n→(leftL hs p zs k).getD b 0=leftN (fun k b=>(hs.getD k []).getD b 0) p (fun b=>zs.getD b 0) k b
 | 0,_,_,_=>rfl
 | k+1,hk,b,hb=>by
  have h1:=zba hF hz k (by omega)
  have h2:=hF.len _ (zr (show k<hs.length by omega))
  have h3:=zbu hF hz k (by omega)
  have h4:=hF.form.lt k (by omega)
  have e:leftN (fun k b=>(hs.getD k []).getD b 0) p (fun b=>zs.getD b 0) (k+1) b=leftN (fun k b=>(hs.getD k []).getD b 0) p (fun b=>zs.getD b 0) k b-leftN (fun k b=>(hs.getD k []).getD b 0) p (fun b=>zs.getD b 0) k (p k)/(hs.getD k []).getD (p k) 0 *(hs.getD k []).getD b 0:=rfl
  have el:leftL hs p zs (k+1)=List.zipWith (fun x y=>x-y) (leftL hs p zs k) ((hs.getD k []).map (oftL hs p (leftL hs p zs k) k*·)):=rfl
  rw [e,← h3 b hb,← h3 (p k) h4,el]
  rw [zy _ _ _ (by rw [List.length_map,h1,h2]) b (by omega),zfz _ _ _ (by omega)]
  rfl
theorem zbR:∀(zs:List Int),first zs<0↔∀ b,b<zs.length→zs.getD b 0=0
 | []=>⟨fun _ b hb=>absurd hb (by simp),fun _=>by decide⟩
 | z::zs=>by
  have ih:=zbR zs
  have hge:=zdo zs
  rw [first]
  by_cases h:z=0
  ·rw [if_pos h]
   constructor
   ·intro h1 b hb
    have h2:first zs<0:=by
     by_cases h3:first zs<0
     ·exact h3
     ·rw [if_neg h3] at h1;omega
    cases b with
    | zero=>simpa using h
    | succ b=>simpa using ih.1 h2 b (by simpa using hb)
   ·intro h1
    have h2:first zs<0:=ih.2 fun b hb=>by simpa using h1 (b+1) (by simpa using hb)
    rw [if_pos h2];decide
  ·rw [if_neg h]
   exact⟨fun h1=>absurd h1 (by decide),fun h1=>absurd (by simpa using h1 0 (by simp)) h⟩
theorem zdU{hs:List (List Int)}(hF:FormL n hs p)(hz:zs.length=n):Lat hs.length n (fun k b=>(hs.getD k []).getD b 0) (fun b=>zs.getD b 0)↔(∀ k,k<hs.length→(leftL hs p zs k).getD (p k) 0%(hs.getD k []).getD (p k) 0=0)∧first (leftL hs p zs hs.length)<0:=by
 rw [zjf hF.form,zbR]
 have hl:=zba hF hz hs.length zL
 constructor
 ·rintro ⟨h1,h2⟩
  exact⟨fun k hk=>by rw [zbu hF hz k (by omega) _ (hF.form.lt k hk)];exact h1 k hk,fun b hb=>by rw [zbu hF hz _ zL b (by omega)];exact h2 b (by omega)⟩
 ·rintro ⟨h1,h2⟩
  exact⟨fun k hk=>by rw [← zbu hF hz k (by omega) _ (hF.form.lt k hk)];exact h1 k hk,fun b hb=>by rw [← zbu hF hz _ zL b hb];exact h2 b (by omega)⟩
theorem zfE{hs:List (List Int)}(hF:FormL n hs p)(hz:zs.length=n)(h:Lat hs.length n (fun k b=>(hs.getD k []).getD b 0) (fun b=>zs.getD b 0)):∀ b,b<n→zs.getD b 0=sumN hs.length (fun k=>(muchL hs p zs).getD k 0 *(hs.getD k []).getD b 0):=by
 intro b hb
 obtain⟨d,hd⟩:=h
 have h1:=zjT hF.form hd
 refine(hd b hb).trans (zm fun k hk=>?_)
 rw [zdD hs p zs k hk,← h1 k hk]
 unfold oftL oftenN
 rw [zbu hF hz k (by omega) _ (hF.form.lt k hk)]
theorem ziD{hs:List (List Int)}(hl:∀ r∈hs,r.length=n)(hv:v.length=n)(h:Lat hs.length n (fun k b=>(hs.getD k []).getD b 0) (fun b=>v.getD b 0)):Gens n (InL hs) v:=by
 obtain⟨c,hc⟩:=h
 have key:∀ m,m≤hs.length→Gens n (InL hs) ((List.range n).map fun b=>sumN m (fun k=>c k *(hs.getD k []).getD b 0)):=by
  intro m
  induction m with
  | zero=>
   intro _
   have e:((List.range n).map fun b=>sumN 0 (fun k=>c k *(hs.getD k []).getD b 0))=List.replicate n 0:=by
    apply zat (by simp)
    intro k hk
    have hk':k<n:=by simpa using hk
    rw [zaE _ _ k hk',List.getD_eq_getElem?_getD,List.getElem?_replicate,if_pos hk']
    rfl
   rw [e]
   exact .zero
  | succ m ih=>
   intro hm
   have g:=ih (by omega)
   have hmm:=zr (show m<hs.length by omega)
   have hml:=hl _ hmm
   have e:((List.range n).map fun b=>sumN (m+1) (fun k=>c k *(hs.getD k []).getD b 0))=List.zipWith (fun a b=>1*a+c m*b) ((List.range n).map fun b=>sumN m (fun k=>c k *(hs.getD k []).getD b 0)) (hs.getD m []):=by
    apply zat (by rw [zF _ _ _ (by rw [List.length_map,List.length_range,hml]),List.length_map,List.length_map])
    intro k hk
    have hk':k<n:=by simpa using hk
    rw [zaE _ _ k hk',zy _ _ _ (by rw [List.length_map,List.length_range,hml]) k (by simpa using hk'),zaE _ _ k hk',Int.one_mul]
    rfl
   rw [e]
   exact .comb _ _ g (.base hmm hml)
 have e:v=((List.range n).map fun b=>sumN hs.length (fun k=>c k *(hs.getD k []).getD b 0)):=by
  apply zat (by simp [hv])
  intro k hk
  rw [zaE _ _ k (by omega)]
  exact hc k (by omega)
 rw [e]
 exact key _ zL
theorem zbt{hs:List (List Int)}(hl:∀ r∈hs,r.length=n)(hv:v.length=n):Lat hs.length n (fun k b=>(hs.getD k []).getD b 0) (fun b=>v.getD b 0)↔Gens n (InL hs) v:=⟨ziD hl hv,zE⟩
def SharePost (w:World)(n nv nx:Nat)(hs:List (List Int))(p:Nat→Nat)(zs:List Int)(e:Ending)(w':World):Prop:=
 Below w.heap.size w w'∧((Lat hs.length n (fun k b=>(hs.getD k []).getD b 0) (fun b=>zs.getD b 0)∧∃ P,e=.returned (.tuple #[.slice (some ⟨P,0,none⟩) hs.length hs.length,.bool true])∧VecO w w' P (muchL hs p zs) (nx+hs.length *(nv+2)+1)) ∨
  (¬ Lat hs.length n (fun k b=>(hs.getD k []).getD b 0) (fun b=>zs.getD b 0)∧e=.returned (.tuple #[.slice none 0 0,.bool false])))
structure ShareI (w W:World)(n nv nx:Nat)(u:Value)(hs:List (List Int))(p:Nat→Nat)(zs:List Int)(k:Nat)(left:Value):Prop where
 vec:VecN W left (leftL hs p zs k) (nx+k *(nv+2))
 off:∀ b o l c,left=.slice (some ⟨b,o,none⟩) l c→b≠w.heap.size+1
 much:VecO w W (w.heap.size+1) ((muchL hs p zs).take k++List.replicate ((muchL hs p zs).length-k) 0) (nx+hs.length *(nv+2)+1)
 box:Box W w.heap.size (.int .i64 (n:Int)) u
 rest:∀ i,i<k→(leftL hs p zs i).getD (p i) 0%(hs.getD i []).getD (p i) 0=0
theorem ShareI.later{W':World}{hs:List (List Int)}(h:ShareI w W n nv nx u hs p zs k left)(hb:Below W.heap.size W W'):ShareI w W' n nv nx u hs p zs k left:=
 ⟨h.vec.below hb zL,h.off,h.much.later hb,h.box.later hb (by have:=h.much.lt;omega),h.rest⟩
theorem ShareI.step{hs:List (List Int)}(h:ShareI w W n nv nx u hs p zs k left)(hk:k<hs.length){T cap:Nat}(hT:VecN W (.slice (some ⟨T,0,none⟩) (leftL hs p zs (k+1)).length cap) (leftL hs p zs (k+1)) (nx+(k+1) *(nv+2)))(hne:T≠w.heap.size+1)
  (hr:(leftL hs p zs k).getD (p k) 0%(hs.getD k []).getD (p k) 0=0) {rn:Bool} {ro:Option Addr} {rl rc:Nat} (hq:NumL W (.agg #[.bool rn,.slice ro rl rc]) ((muchL hs p zs).getD k 0) (nx+hs.length *(nv+2)+1)):
  ShareI w ((W.setCell ⟨w.heap.size+1,k*2,none⟩ (.bool rn)).setCell ⟨w.heap.size+1,k*2+1,none⟩ (.slice ro rl rc)) n nv nx u hs p zs (k+1) (.slice (some ⟨T,0,none⟩) (leftL hs p zs (k+1)).length cap):=by
 have hml:=zaD hs p zs
 have hfl:=za9 (muchL hs p zs) k (by omega)
 obtain⟨neg0,o0,l0,c0,k0,k1,-⟩:=h.much.at k (by omega)
 have k1':(W.setCell ⟨w.heap.size+1,k*2,none⟩ (.bool rn)).cell? ⟨w.heap.size+1,k*2+1,none⟩=some (.slice o0 l0 c0):=(World.cell?_setCell_other (h:=fun e=>by simp at e) ..).trans k1
 refine⟨(hT.other hne k0 (fun z e=>by cases e)).other hne k1' (fun z e=>by cases e),fun b o l c e=>?_,?_,zeo h.box (by omega) k _ _,fun i hi=>?_⟩
 ·simp only [Value.slice.injEq,Option.some.injEq,Addr.mk.injEq,and_true] at e
  omega
 ·have:=h.much.set (k:=k) (by omega) hq
  rwa [zbq (muchL hs p zs) k (by omega)] at this
 ·by_cases e:i=k
  ·rw [e];exact hr
  ·exact h.rest i (by omega)
theorem zkp{a y s t:Int}(hy:0<y)(h:a=s*y+t)(hl:Left t y):a%y=t:=by
 have h2:=hl.1 hy
 have:t+y*s=a:=by rw [Int.mul_comm];omega
 exact((Int.ediv_emod_unique hy).2 ⟨this,h2.1,h2.2⟩).2
theorem zdV (w:World)(v x:Value)(n nv nx:Nat)(hs:List (List Int))(p:Nat→Nat)(zs:List Int)(hv:∃ u,v=.agg #[.int .i64 (n:Int),u]∧MatN w u hs nv)(hF:FormL n hs p)(hx:VecN w x zs nx)(hz:zs.length=n)(h1:1≤n)(h4:n≤4)(hN:nx+n *(nv+2)≤90000):
  Calls Tryz.prog 89 #[v,x] w fun e w'=>SharePost w n nv nx hs p zs e w':=by
 obtain⟨u,rfl,hu⟩:=hv
 have HU:=hide hu;have HF:=hide hF;have HX:=hide hx;have HSI:=hide (zdU hF hz)
 have hsh:=hF.short
 have hNN:nx+hs.length *(nv+2)≤90000:=Nat.le_trans (Nat.add_le_add_left (Nat.mul_le_mul_right _ hsh) _) hN
 obtain⟨uo,rcap,rfl,-,-⟩:=hu
 clear hx
 have HML:=hide (zaD hs p zs)
 have hmk:=zcc hs.length (by omega)
 have HB0:=hide ((Below.refl w.heap.size w).alloc zL (.cells #[.int .i64 (n:Int),.slice uo hs.length rcap] 55))
 have HS:Hid (ShareI w ((w.alloc (.cells #[.int .i64 (n:Int),.slice uo hs.length rcap] 55)).alloc (.cells (madeCells #[.bool false,.slice none 0 0] (hs.length*2)) 29)) n nv nx (.slice uo hs.length rcap) hs p zs 0 x):=by
  have hm:=VecO.made w (w.alloc (.cells #[.int .i64 (n:Int),.slice uo hs.length rcap] 55)) HB0.out hs.length (nx+hs.length *(nv+2)+1)
  rw [World.size_alloc] at hm
  refine hide ⟨?_,HX.out.off (by omega) (by omega),?_,(zj w _ _ _ _ rfl).later ((Below.refl _ _).alloc (by simp) _:Below (w.heap.size+1) _ _) (by omega),fun i hi=>absurd hi (by omega)⟩
  ·rw [Nat.zero_mul]
   exact HX.out.below hm.below zL
  ·rw [List.take_zero,List.nil_append,Nat.sub_zero,HML.out]
   exact hm
 have HC:=hide HS.out.box
 obtain⟨c0,c1,z0,z1⟩:=(zj w (.int .i64 (n:Int)) (.slice uo hs.length rcap) 55 _ rfl)
 obtain⟨d0,d1,y0,y1⟩:=HC.out
 go_enter Tryz.func89,Tryz.ntmps89
 go_wp2
 clear hmk c0 c1 z0 z1 d0 d1 y0 y1 HC HB0
 go_loopw [21,7] (fun i left wr=>∃ k:Nat,k≤hs.length∧i=.int .i64 k∧Hid (ShareI w wr n nv nx (.slice uo hs.length rcap) hs p zs k left)) (fun i _ _=>hs.length-(intOf i).toNat)
 case atStart=>exact⟨0,Nat.zero_le _,rfl,HS⟩
 case round=>
  clear HS
  obtain⟨k,hk,rfl,HI⟩:=hrel
  have HBE:=hide HI.out.much.below
  by_cases hkl:k<hs.length
  ·have hmat:=HU.out.below HBE.out zL
   obtain⟨rb,roff,_,e,lr0,ru,cu0,hru⟩:=hmat.at k hkl
   simp only [Value.slice.injEq,true_and] at e
   obtain⟨rfl,rfl⟩:=e
   clear hmat
   obtain⟨f1,f2,f3⟩:=HF.out.first hkl
   have hlen:=HF.out.len _ (List.getElem_mem hkl)
   have hll:=zba HF.out hz k (by omega)
   have HLS:Hid (leftL hs p zs (k+1)=List.zipWith (fun x y=>x-y) (leftL hs p zs k) (hs[k].map ((leftL hs p zs k).getD (p k) 0/hs[k].getD (p k) 0*·))):=by
    show _=_
    rw [← zk hkl];rfl
   have HMU:Hid ((muchL hs p zs).getD k 0=(leftL hs p zs k).getD (p k) 0/hs[k].getD (p k) 0):=by
    show _=_
    rw [zdD hs p zs k hkl,← zk hkl];rfl
   have HRE:Hid ((leftL hs p zs k).getD (p k) 0%(hs.getD k []).getD (p k) 0=(leftL hs p zs k).getD (p k) 0%hs[k].getD (p k) 0):=by
    show _=_
    rw [zk hkl]
   have HNO:Hid ((leftL hs p zs k).getD (p k) 0%hs[k].getD (p k) 0≠0→¬ Lat hs.length n (fun k b=>(hs.getD k []).getD b 0) (fun b=>zs.getD b 0)):=by
    intro hne hlat
    have:=(HSI.out.1 hlat).1 k hkl
    rw [zk hkl] at this
    exact hne this
   have hcap:nx+(k+1) *(nv+2)≤nx+hs.length *(nv+2):=Nat.add_le_add_left (Nat.mul_le_mul_right _ (by omega)) _
   have hsucc:nx+(k+1) *(nv+2)=nx+k *(nv+2)+(nv+2):=by rw [Nat.succ_mul];omega
   rw [hsucc] at hcap
   obtain⟨ub,uoff,ucap,rfl⟩:=hru.form (by omega)
   obtain⟨vb,voff,vcap,rfl⟩:=HI.out.vec.form (by omega)
   have HR0:=hide hru
   have HL0:=hide (show w.heap.size<wr.heap.size from by have:=HI.out.much.lt;omega)
   obtain⟨d0,d1,y0,y1⟩:=HI.out.box
   have hqu:p k<hs[k].length:=by omega
   have hql:p k<(leftL hs p zs k).length:=by omega
   have hzl:hs[k].length≤1000:=by omega
   have HP1:=hide f1
   generalize hgq:p k=q at *
   generalize hgu:hs[k]=us at *
   generalize hgl:leftL hs p zs k=ls at *
   generalize hgz:nx+k *(nv+2)=nz at *
   have HGQ:=hide hgq;have HGU:=hide hgu;have HGL:=hide hgl;have HGZ:=hide hgz;have HHL:=hide hlen;have HHZ:=hide hll
   have HUL:Hid (us.length=ls.length):=by show _=_;omega
   clear hgq hgu hgl hgz f1 hlen hll hru
   go_wp2_with fail
   refine(zbQ wr _ us nv (by exact HR0.out) (by omega)).mono ?_
   rintro e w1 ⟨rfl,hb1⟩
   rw [HP1.out]
   have HI1:=hide (HI.out.later hb1)
   have HR1:=hide (HR0.out.below hb1 zL)
   have cu:=(hb1.cell (p:=⟨rb,roff+k,none⟩) lr0).trans cu0
   have lr:=zT lr0 hb1.size
   have lB:=zT HL0.out hb1.size
   clear d0 d1 y0 y1 hb1 HI HR0 cu0 lr0 HL0 HBE
   obtain⟨c0,c1,z0,z1⟩:=HI1.out.box
   have hvec:=HI1.out.vec
   rw [HGL.out,HGZ.out] at hvec
   obtain⟨lv,an,ao,al,ac,a2,a3,na'⟩:=hvec.at q hql
   obtain⟨lu,bn,bo,bl,bc,a6,a7,nb'⟩:=HR1.out.at q hqu
   have NV:=hide na';have NP:=hide nb'
   clear na' nb' hvec
   generalize hgd:ls.getD q 0=d at *
   generalize us.getD q 0=y at *
   have HGD:=hide hgd
   clear hgd
   have hst:=QuoGot.moved nz nv d y
   go_wp2_with fail
   refine zab (by kernel_rfl) (by kernel_rfl) (fun L a' w'=>∃(c:Nat→Value) (G:Nat→Nat),a'=(⟨#[.agg #[.int .i64 (n:Int),.slice (some ⟨rb,roff,none⟩) hs.length rcap],x,.pointer (some ⟨w.heap.size,0,none⟩),undef,u4,u5,.slice (some ⟨w.heap.size+1,0,none⟩) hs.length hs.length,.slice (some ⟨vb,voff,none⟩) ls.length vcap,.int .i64 (k:Int),.int .i64 (q:Int),c 17,c 18,c 21,.pointer (some ⟨w.heap.size,1,none⟩),.slice (some ⟨rb,roff,none⟩) hs.length rcap,.int .i64 (hs.length:Int),.slice (some ⟨w.heap.size+1,0,none⟩) hs.length hs.length,x,.pointer (some ⟨w.heap.size,1,none⟩),.slice (some ⟨rb,roff,none⟩) hs.length rcap,.int .i64 (hs.length:Int),.int .i64 (k:Int),.bool true,.int .i64 (k:Int),.pointer (some ⟨w.heap.size,1,none⟩),.slice (some ⟨rb,roff,none⟩) hs.length rcap,.int .i64 (k:Int),.pointer (some ⟨rb,roff+k,none⟩),.slice (some ⟨ub,uoff,none⟩) us.length ucap,.int .i64 (q:Int),c 13,c 0,c 1,c 2,c 3,c 4,c 5,c 6,c 7,c 8,c 9,c 10,c 11,c 12,c 14,c 15,c 16,u47,u48,u49,u50,u51,u52,u53,u54,u55,u56,u57,u58,u59,u60,u61,u62,u63,u64,u65,u66,undef,undef,undef,undef],[]⟩:Act)∧Tags (D2 12) (FA2 12 [.slice (some ⟨vb,voff,none⟩) ls.length vcap,.int .i64 (q:Int),.pointer (some ⟨vb,voff+q*2,none⟩),.agg #[.bool an,.slice ao al ac],.pointer (some ⟨w.heap.size,1,none⟩),.slice (some ⟨rb,roff,none⟩) hs.length rcap,.int .i64 (k:Int),.pointer (some ⟨rb,roff+k,none⟩),.slice (some ⟨ub,uoff,none⟩) us.length ucap,.int .i64 (q:Int),.pointer (some ⟨ub,uoff+q*2,none⟩),.agg #[.bool bn,.slice bo bl bc]] (QuoGot nz nv d y) (w1).heap.size) (w1) L c w' G) ⟨fun i=>List.getD [u31,u32,u33,u34,u35,u36,u37,u38,u39,u40,u41,u42,u43,u30,u44,u45,u46,u10,u11,undef,undef,u12] i undef,fun _=>0,rfl,Tags.start _ _ _⟩ ?_ ?_
   ·rintro L a' w' i o ⟨c,G,rfl,R⟩ ho hn hdep K hK
    have hi:i<22:=(Array.getElem?_eq_some_iff.1 ho).1
    rcases(by omega:i=0∨i=1∨i=2∨i=3∨i=4∨i=5∨i=6∨i=7∨i=8∨i=9∨i=10∨i=11∨i=12∨i=13∨i=14∨i=15∨i=16∨i=17∨i=18∨i=19∨i=20∨i=21) with rfl | rfl | rfl | rfl | rfl | rfl | rfl | rfl | rfl | rfl | rfl | rfl | rfl | rfl | rfl | rfl | rfl | rfl | rfl | rfl | rfl | rfl
    ·obtain rfl:=zI ho
     have R':=R.plain hn (zN rfl) (FA2.keep hst) (v:=(.slice (some ⟨vb,voff,none⟩) ls.length vcap)) (zd _ _ _)
     clear R
     go_simp
     exact hK.out _ _ ⟨_,_,by simp [upd],R'⟩
    ·obtain rfl:=zI ho
     have R':=R.plain hn (zN rfl) (FA2.keep hst) (v:=(.int .i64 (q:Int))) (zd _ _ _)
     clear R
     go_simp
     exact hK.out _ _ ⟨_,_,by simp [upd],R'⟩
    ·obtain rfl:=zI ho
     have e0:c 0=(.slice (some ⟨vb,voff,none⟩) ls.length vcap):=R.facts 0 (hdep ⟨0,.data⟩ (by simp) rfl)
     have e1:c 1=(.int .i64 (q:Int)):=R.facts 1 (hdep ⟨1,.data⟩ (by simp) rfl)
     have R':=R.plain hn (zN rfl) (FA2.keep hst) (v:=(.pointer (some ⟨vb,voff+q*2,none⟩))) (zd _ _ _)
     clear R
     rw [e0,e1]
     go_simp
     exact hK.out _ _ ⟨_,_,by simp [upd,e0,e1],R'⟩
    ·obtain rfl:=zI ho
     have e2:c 2=(.pointer (some ⟨vb,voff+q*2,none⟩)):=R.facts 2 (hdep ⟨2,.data⟩ (by simp) rfl)
     have q0:=(R.below.cell (p:=⟨vb,voff+q*2,none⟩) lv).trans a2
     have q1:=(R.below.cell (p:=⟨vb,voff+q*2+1,none⟩) lv).trans a3
     have R':=R.plain hn (zN rfl) (FA2.keep hst) (v:=(.agg #[.bool an,.slice ao al ac])) (zd _ _ _)
     clear R
     rw [e2]
     go_simp
     exact hK.out _ _ ⟨_,_,by simp [upd,e2],R'⟩
    ·obtain rfl:=zI ho
     have R':=R.plain hn (zN rfl) (FA2.keep hst) (v:=(.pointer (some ⟨w.heap.size,1,none⟩))) (zd _ _ _)
     clear R
     go_simp
     exact hK.out _ _ ⟨_,_,by simp [upd],R'⟩
    ·obtain rfl:=zI ho
     have e4:c 4=(.pointer (some ⟨w.heap.size,1,none⟩)):=R.facts 4 (hdep ⟨4,.data⟩ (by simp) rfl)
     have q1:=(R.below.cell (p:=⟨w.heap.size,1,none⟩) lB).trans c1
     have R':=R.plain hn (zN rfl) (FA2.keep hst) (v:=(.slice (some ⟨rb,roff,none⟩) hs.length rcap)) (zd _ _ _)
     clear R
     rw [e4]
     go_simp
     exact hK.out _ _ ⟨_,_,by simp [upd,e4],R'⟩
    ·obtain rfl:=zI ho
     have R':=R.plain hn (zN rfl) (FA2.keep hst) (v:=(.int .i64 (k:Int))) (zd _ _ _)
     clear R
     go_simp
     exact hK.out _ _ ⟨_,_,by simp [upd],R'⟩
    ·obtain rfl:=zI ho
     have e5:c 5=(.slice (some ⟨rb,roff,none⟩) hs.length rcap):=R.facts 5 (hdep ⟨5,.data⟩ (by simp) rfl)
     have e6:c 6=(.int .i64 (k:Int)):=R.facts 6 (hdep ⟨6,.data⟩ (by simp) rfl)
     have R':=R.plain hn (zN rfl) (FA2.keep hst) (v:=(.pointer (some ⟨rb,roff+k,none⟩))) (zd _ _ _)
     clear R
     rw [e5,e6]
     go_simp
     exact hK.out _ _ ⟨_,_,by simp [upd,e5,e6],R'⟩
    ·obtain rfl:=zI ho
     have e7:c 7=(.pointer (some ⟨rb,roff+k,none⟩)):=R.facts 7 (hdep ⟨7,.data⟩ (by simp) rfl)
     have q0:=(R.below.cell (p:=⟨rb,roff+k,none⟩) lr).trans cu
     have R':=R.plain hn (zN rfl) (FA2.keep hst) (v:=(.slice (some ⟨ub,uoff,none⟩) us.length ucap)) (zd _ _ _)
     clear R
     rw [e7]
     go_simp
     exact hK.out _ _ ⟨_,_,by simp [upd,e7],R'⟩
    ·obtain rfl:=zI ho
     have R':=R.plain hn (zN rfl) (FA2.keep hst) (v:=(.int .i64 (q:Int))) (zd _ _ _)
     clear R
     go_simp
     exact hK.out _ _ ⟨_,_,by simp [upd],R'⟩
    ·obtain rfl:=zI ho
     have e8:c 8=(.slice (some ⟨ub,uoff,none⟩) us.length ucap):=R.facts 8 (hdep ⟨8,.data⟩ (by simp) rfl)
     have e9:c 9=(.int .i64 (q:Int)):=R.facts 9 (hdep ⟨9,.data⟩ (by simp) rfl)
     have R':=R.plain hn (zN rfl) (FA2.keep hst) (v:=(.pointer (some ⟨ub,uoff+q*2,none⟩))) (zd _ _ _)
     clear R
     rw [e8,e9]
     go_simp
     exact hK.out _ _ ⟨_,_,by simp [upd,e8,e9],R'⟩
    ·obtain rfl:=zI ho
     have e10:c 10=(.pointer (some ⟨ub,uoff+q*2,none⟩)):=R.facts 10 (hdep ⟨10,.data⟩ (by simp) rfl)
     have q0:=(R.below.cell (p:=⟨ub,uoff+q*2,none⟩) lu).trans a6
     have q1:=(R.below.cell (p:=⟨ub,uoff+q*2+1,none⟩) lu).trans a7
     have R':=R.plain hn (zN rfl) (FA2.keep hst) (v:=(.agg #[.bool bn,.slice bo bl bc])) (zd _ _ _)
     clear R
     rw [e10]
     go_simp
     exact hK.out _ _ ⟨_,_,by simp [upd,e10],R'⟩
    ·obtain rfl:=zI ho
     have e3:c 3=(.agg #[.bool an,.slice ao al ac]):=R.facts 3 (hdep ⟨3,.data⟩ (by simp) rfl)
     have e11:c 11=(.agg #[.bool bn,.slice bo bl bc]):=R.facts 11 (hdep ⟨11,.data⟩ (by simp) rfl)
     rw [e3,e11]
     go_simp
     refine(zbo w' _ _ d y nz nv (NV.out.below R.below zL) (NP.out.below R.below zL) (by omega) (by omega)).mono ?_
     rintro e wq ⟨vq,vr,s,t,rfl,m1,m2,m3,m4,hb⟩
     have R':=R.call hn (zN rfl) (FA2.keep hst) hb (v:=.tuple #[vq,vr,.nilIface]) (show QuoGot nz nv d y wq (upd c 12 (.tuple #[vq,vr,.nilIface]) 12) from by rw [zd];exact⟨vq,vr,s,t,rfl,m1,m2,m3,m4⟩)
     clear m1 m2 m3 m4 hb
     clear R
     go_wp2_with fail
     exact hK.out _ _ ⟨_,_,by simp [upd,e3,e11],R'⟩
    ·obtain rfl:=zI ho
     have R':=R.plain hn (zO rfl (hdep ⟨_,.data⟩ (by simp) rfl)) (FA2.keep hst) (v:=c 12) (show upd c 13 (c 12) 13=upd c 13 (c 12) 12 from by rw [zd,ze _ _ (by decide)])
     clear R
     go_simp
     exact hK.out _ _ ⟨_,_,by simp [upd],R'⟩
    ·obtain rfl:=zI ho
     have hm:=hdep ⟨13,.data⟩ (by simp) rfl
     have em:c 13=c 12:=R.facts 13 hm
     obtain⟨vq,vr,s,t,ec,nm1,nm2,-⟩:(QuoGot nz nv d y) w' (c 12):=R.facts 12 (R.closed 13 hm 12 (by simp [D2]))
     rw [ec] at em
     have R':=R.plain hn (zO rfl (hdep ⟨_,.data⟩ (by simp) rfl)) (FA2.keep hst) (v:=vq) (show ∃ u1 u2 u3:Value,upd c 14 vq 13=.tuple #[u1,u2,u3]∧upd c 14 vq 14=u1 from⟨vq,vr,(.nilIface:Value),by rw [ze _ _ (by decide)];exact em,zd _ _ _⟩)
     clear R ec
     rw [em]
     go_simp
     exact hK.out _ _ ⟨_,_,by simp [upd,em],R'⟩
    ·obtain rfl:=zI ho
     have hm:=hdep ⟨13,.data⟩ (by simp) rfl
     have em:c 13=c 12:=R.facts 13 hm
     obtain⟨vq,vr,s,t,ec,nm1,nm2,-⟩:(QuoGot nz nv d y) w' (c 12):=R.facts 12 (R.closed 13 hm 12 (by simp [D2]))
     rw [ec] at em
     have R':=R.plain hn (zO rfl (hdep ⟨_,.data⟩ (by simp) rfl)) (FA2.keep hst) (v:=vr) (show ∃ u1 u2 u3:Value,upd c 15 vr 13=.tuple #[u1,u2,u3]∧upd c 15 vr 15=u2 from⟨vq,vr,(.nilIface:Value),by rw [ze _ _ (by decide)];exact em,zd _ _ _⟩)
     clear R ec
     rw [em]
     go_simp
     exact hK.out _ _ ⟨_,_,by simp [upd,em],R'⟩
    ·obtain rfl:=zI ho
     have hm:=hdep ⟨13,.data⟩ (by simp) rfl
     have em:c 13=c 12:=R.facts 13 hm
     obtain⟨vq,vr,s,t,ec,nm1,nm2,-⟩:(QuoGot nz nv d y) w' (c 12):=R.facts 12 (R.closed 13 hm 12 (by simp [D2]))
     rw [ec] at em
     have R':=R.plain hn (zO rfl (hdep ⟨_,.data⟩ (by simp) rfl)) (FA2.keep hst) (v:=(.nilIface:Value)) (show ∃ u1 u2 u3:Value,upd c 16 (.nilIface:Value) 13=.tuple #[u1,u2,u3]∧upd c 16 (.nilIface:Value) 16=u3 from⟨vq,vr,(.nilIface:Value),by rw [ze _ _ (by decide)];exact em,zd _ _ _⟩)
     clear R ec
     rw [em]
     go_simp
     exact hK.out _ _ ⟨_,_,by simp [upd,em],R'⟩
    ·obtain rfl:=zI ho
     obtain⟨G',R'⟩:=R.alloc hn (zN rfl) (FA2.keep hst) 19 29 (fun W' G' h=>show Made W' G' _ 19 (upd c 17 (ptr w'.heap.size) 17) from by rw [zd];exact h)
     clear R
     go_simp
     exact hK.out _ _ ⟨_,G',by simp [upd],R'⟩
    ·obtain rfl:=zI ho
     obtain⟨G',R'⟩:=R.alloc hn (zN rfl) (FA2.keep hst) 20 29 (fun W' G' h=>show Made W' G' _ 20 (upd c 18 (ptr w'.heap.size) 18) from by rw [zd];exact h)
     clear R
     go_simp
     exact hK.out _ _ ⟨_,G',by simp [upd],R'⟩
    ·obtain rfl:=zI ho
     have hx:=hdep ⟨14,.data⟩ (by simp) rfl
     have hm:=R.closed 14 hx 13 (by simp [D2])
     have em:c 13=c 12:=R.facts 13 hm
     obtain⟨vq,vr,s,t,ec,nm1,nm2,-⟩:(QuoGot nz nv d y) w' (c 12):=R.facts 12 (R.closed 13 hm 12 (by simp [D2]))
     obtain⟨u1,u2,u3,em',ex⟩:∃ u1 u2 u3:Value,c 13=.tuple #[u1,u2,u3]∧c 14=u1:=R.facts 14 hx
     rw [em,ec] at em'
     simp only [Value.tuple.injEq,Array.mk.injEq,List.cons.injEq,and_true] at em'
     obtain⟨rfl,rfl,rfl⟩:=em'
     obtain⟨s,hs⟩:=nm1.nm
     rw [hs] at ex
     obtain⟨B,ea,hC,hB,hG,r,hb⟩:Made w' G _ 19 (c 17):=R.facts 17 (hdep ⟨17,.data⟩ (by simp) rfl)
     have R':=R.store hn (fun j hj=>by simp [D2] at hj;rcases hj with rfl | rfl <;> exact hdep ⟨_,.data⟩ (by simp) rfl) (FA2.keep hst) s hC hB hG hb (fun W' G' h=>show ∃ r:Nm,upd c 19 undef 14=r.v∧Stored W' G' _ 19 (upd c 19 undef 17) r from⟨s,by rw [ze _ _ (by decide)];exact ex,by rw [ze _ _ (by decide),ea];exact h⟩)
     obtain⟨b0,b1,b2,b3⟩:=hb
     obtain⟨sn,so,sl,sc⟩:=s
     dsimp only at *
     clear R em ec
     rw [ea,ex]
     go_simp
     exact hK.out _ _ ⟨_,_,by simp [upd,ea,ex],R'⟩
    ·obtain rfl:=zI ho
     have hx:=hdep ⟨15,.data⟩ (by simp) rfl
     have hm:=R.closed 15 hx 13 (by simp [D2])
     have em:c 13=c 12:=R.facts 13 hm
     obtain⟨vq,vr,s,t,ec,nm1,nm2,-⟩:(QuoGot nz nv d y) w' (c 12):=R.facts 12 (R.closed 13 hm 12 (by simp [D2]))
     obtain⟨u1,u2,u3,em',ex⟩:∃ u1 u2 u3:Value,c 13=.tuple #[u1,u2,u3]∧c 15=u2:=R.facts 15 hx
     rw [em,ec] at em'
     simp only [Value.tuple.injEq,Array.mk.injEq,List.cons.injEq,and_true] at em'
     obtain⟨rfl,rfl,rfl⟩:=em'
     obtain⟨s,hs⟩:=nm2.nm
     rw [hs] at ex
     obtain⟨B,ea,hC,hB,hG,r,hb⟩:Made w' G _ 20 (c 18):=R.facts 18 (hdep ⟨18,.data⟩ (by simp) rfl)
     have R':=R.store hn (fun j hj=>by simp [D2] at hj;rcases hj with rfl | rfl <;> exact hdep ⟨_,.data⟩ (by simp) rfl) (FA2.keep hst) s hC hB hG hb (fun W' G' h=>show ∃ r:Nm,upd c 20 undef 15=r.v∧Stored W' G' _ 20 (upd c 20 undef 18) r from⟨s,by rw [ze _ _ (by decide)];exact ex,by rw [ze _ _ (by decide),ea];exact h⟩)
     obtain⟨b0,b1,b2,b3⟩:=hb
     obtain⟨sn,so,sl,sc⟩:=s
     dsimp only at *
     clear R em ec
     rw [ea,ex]
     go_simp
     exact hK.out _ _ ⟨_,_,by simp [upd,ea,ex],R'⟩
    ·obtain rfl:=zI ho
     have R':=R.plain hn (zO rfl (hdep ⟨_,.data⟩ (by simp) rfl)) (FA2.keep hst) (v:=c 16) (show upd c 21 (c 16) 21=upd c 21 (c 16) 16 from by rw [zd,ze _ _ (by decide)])
     clear R
     go_simp
     exact hK.out _ _ ⟨_,_,by simp [upd],R'⟩
   ·rintro L a' w2 ⟨cc,G,rfl,R⟩ hall
    obtain⟨⟨sn,so,sl,sc⟩,⟨tn,to,tl,tc⟩,u3v,B1,B2,⟨vq,vr,s,t,ec,N1,N2,hps,hleft⟩,e13,e14,e15,l1,l2,s1,s2,d12,x1,x2,hb2⟩:=R.fin2 (fun i hi=>hall i hi)
    simp only [Value.tuple.injEq,Array.mk.injEq,List.cons.injEq,and_true] at ec
    obtain⟨rfl,rfl,-⟩:=ec
    have HQ:=hide (zbC f3 hps hleft)
    have HR:=hide (zkp f3 hps hleft)
    have NQ2:=hide N1
    have NR2:=hide N2
    have HI2:=hide (HI1.out.later hb2)
    have HU2:=hide (HR1.out.below hb2 zL)
    have cu2:=(hb2.cell (p:=⟨rb,roff+k,none⟩) lr).trans cu
    have lr2:=zT lr hb2.size
    have lB2:=zT lB hb2.size
    have HX1:=hide x1
    obtain⟨x20,x21,-,-⟩:=x2
    clear R hall hst N1 N2 hps hleft l1 l2 d12 hb2 cu lr lB a2 a3 a6 a7 lv lu HI1 HR1 NV NP e15 c0 c1 z0 z1 x1
    dsimp only at *
    rw [e13,e14]
    clear e13 e14
    go_wp2_with fail
    refine(zav w2 _ t nv (by exact NR2.out)).mono ?_
    rintro e w3 ⟨rfl,hb3⟩
    have NQ3:=hide (NQ2.out.below hb3 zL)
    have HI3:=hide (HI2.out.later hb3)
    have HU3:=hide (HU2.out.below hb3 zL)
    have e3:=(hb3.cell (p:=⟨rb,roff+k,none⟩) lr2).trans cu2
    have lr3:=zT lr2 hb3.size
    have lB3:=zT lB2 hb3.size
    obtain⟨e0,e1,-,-⟩:=HX1.out.later hb3 s1
    have s13:=zT s1 hb3.size
    obtain⟨-,e2,-,-⟩:=HI3.out.box
    clear NQ2 NR2 HI2 HU2 cu2 lr2 lB2 HX1 x20 x21 s1 s2 hb3
    by_cases ht0:t=0
    ·rw [decide_eq_true ht0]
     go_wp2_with fail
     go_region_held3 (fun w'=>w'.cell? ⟨B1,0,none⟩=some (.bool sn)∧w'.cell? ⟨B1,1,none⟩=some (.slice so sl sc)∧w'.cell? ⟨w.heap.size,1,none⟩=some (.slice (some ⟨rb,roff,none⟩) hs.length rcap)∧w'.cell? ⟨rb,roff+k,none⟩=some (.slice (some ⟨ub,uoff,none⟩) us.length ucap)) (go_keep)
      (first
       |(go_at_call 115;refine(zgo _ _ _ s us (nz+1) nv (by exact NQ3.out.below (Below.refl _ _).drew zL) (by exact HU3.out.below (Below.refl _ _).drew zL) (by have:=HHL.out;omega) (by omega) (by omega)).mono ?_;rintro e w4 ⟨Q,rfl,hq4⟩;have HQ4:=hide hq4;have hb4:Below w3.heap.size w3 w4:=(Below.refl _ _).drew.trans (hq4.below.mono (by simp));have HI4:=hide (HI3.out.later hb4);have HU4:=hide (HU3.out.below hb4 zL);have NQ4:=hide (NQ3.out.below hb4 zL);have f0:=(hb4.cell (p:=⟨B1,0,none⟩) s13).trans e0;have f1:=(hb4.cell (p:=⟨B1,1,none⟩) s13).trans e1;have f2:=(hb4.cell (p:=⟨w.heap.size,1,none⟩) lB3).trans e2;have f3:=(hb4.cell (p:=⟨rb,roff+k,none⟩) lr3).trans e3;have s14:=zT s13 hb4.size;have lB4:=zT lB3 hb4.size;have lr4:=zT lr3 hb4.size;clear hq4 hb4)
       |(go_at_call 114;refine(zk0 _ _ _ ls (us.map (s*·)) (nz+1+nv) (by have h:=HI4.out.vec;rw [HGL.out,HGZ.out] at h;exact h.mono (by omega)) (by have h:=HQ4.out.vec;rw [List.length_map] at h;exact h) (by rw [List.length_map];have:=HUL.out;omega) (by have:=HHZ.out;omega) (by omega)).mono ?_;rintro e w5 ⟨T,rfl,ht5⟩;have HT5:=hide ht5;have hb5:Below w4.heap.size w4 w5:=ht5.below;have HI5:=hide (HI4.out.later hb5);have NQ5:=hide (NQ4.out.below hb5 zL);have g0:=(hb5.cell (p:=⟨B1,0,none⟩) s14).trans f0;have g1:=(hb5.cell (p:=⟨B1,1,none⟩) s14).trans f1;have g2:=(hb5.cell (p:=⟨w.heap.size,1,none⟩) lB4).trans f2;have g3:=(hb5.cell (p:=⟨rb,roff+k,none⟩) lr4).trans f3;clear ht5 hb5))
     have HZL:=hide (show(leftL hs p zs (k+1)).length=ls.length from by rw [zba HF.out hz (k+1) (by omega),HHZ.out])
     have HN:Hid (ShareI w ((w5.setCell ⟨w.heap.size+1,k*2,none⟩ (.bool sn)).setCell ⟨w.heap.size+1,k*2+1,none⟩ (.slice so sl sc)) n nv nx (.slice (some ⟨rb,roff,none⟩) hs.length rcap) hs p zs (k+1) (.slice (some ⟨T,0,none⟩) ls.length ls.length)):=by
      have hv:=HT5.out.vec
      have e:leftL hs p zs (k+1)=List.zipWith (fun x y=>x-y) ls (us.map (s*·)):=by rw [HLS.out,HQ.out]
      rw [← e,HZL.out] at hv
      have hst:=HI5.out.step hkl (T:=T) (cap:=ls.length) (rn:=sn) (ro:=so) (rl:=sl) (rc:=sc) (by rw [HZL.out,hsucc];exact hv.mono (by omega)) (by have:=HT5.out.low;have:=HI4.out.much.lt;omega) (by rw [HGL.out,HGQ.out,HGD.out,HRE.out,HR.out,ht0]) (by rw [HMU.out,HQ.out];exact NQ5.out.mono (by omega))
      rw [HZL.out] at hst
      exact hide hst
     have hfl:=za9 (muchL hs p zs) k (by have:=HML.out;omega)
     obtain⟨neg0,o0,l0,c0',k0,k1,-⟩:=HI5.out.much.at k (by have:=HML.out;omega)
     have t0:=HI5.out.much.thaw (k*2)
     have t1:=HI5.out.much.thaw (k*2+1)
     clear hfl HT5 HI5 HI4 HI3 HU3 HU4 NQ3 NQ4 NQ5 HQ4 HQ HR HZL e0 e1 e2 e3 f0 f1 f2 f3 HLS HMU HRE HNO
     go_wp2
     go_roundw
     case rel=>exact⟨k+1,by omega,by go_num,HN⟩
     case measure=>simp [intOf];omega
    ·rw [decide_eq_false ht0]
     have HBL:=hide HI3.out.much.below
     have HNL:=hide (HNO.out (by rw [HR.out];exact ht0))
     clear HI3 HU3 NQ3 e0 e1 e2 e3
     go_wp2
     exact bodyPost_ret (v:=.tuple #[.slice none 0 0,.bool false]) (by simp [results,Tryz.results89,go_sem]) rfl ⟨HBL.out,.inr ⟨HNL.out,rfl⟩⟩
  ·obtain rfl:k=hs.length:=by omega
   have HV:=hide HI.out.vec
   have HLL:=hide (zba HF.out hz hs.length zL)
   have HRS:=hide HI.out.rest
   have HFU:Hid (VecO w wr (w.heap.size+1) (muchL hs p zs) (nx+hs.length *(nv+2)+1)):=by
    have h:=HI.out.much
    refine hide (VecO.full ?_)
    rw [HML.out] at h ⊢
    exact h
   clear HI
   generalize leftL hs p zs hs.length=ls at *
   obtain⟨vo,vcap,rfl,-,-⟩:=HV.out
   go_wp2_with fail
   refine(zgK wr _ ls (nx+hs.length *(nv+2)) (by exact HV.out) (by have:=HLL.out;omega)).mono ?_
   rintro e w1 ⟨rfl,hb1⟩
   have HF1:=hide (HFU.out.later hb1)
   clear hb1 HFU HV
   by_cases h0:first ls<0
   ·rw [decide_eq_true h0]
    have HLA:=hide (HSI.out.2 ⟨HRS.out,h0⟩)
    clear h0
    go_wp2
    exact bodyPost_ret (v:=.tuple #[.slice (some ⟨w.heap.size+1,0,none⟩) hs.length hs.length,.bool true]) (by simp [results,Tryz.results89,go_sem]) rfl ⟨HF1.out.below,.inl ⟨HLA.out,_,rfl,HF1.out⟩⟩
   ·rw [decide_eq_false h0]
    have HLA:=hide (fun h=>h0 (HSI.out.1 h).2)
    clear h0
    go_wp2
    exact bodyPost_ret (v:=.tuple #[.slice none 0 0,.bool false]) (by simp [results,Tryz.results89,go_sem]) rfl ⟨HF1.out.below,.inr ⟨HLA.out,rfl⟩⟩
theorem zes (w:World)(va vb:Value)(n nv mv:Nat)(hs ks:List (List Int))(ha:LatN w va n hs nv)(hb:LatN w vb n ks mv)(h1:1≤n)(h4:n≤4):
  Calls Tryz.prog 80 #[va,vb] w fun e w'=>e=.returned .nilIface∧Below w.heap.size w w':=by
 have HA:=hide ha;have HB:=hide hb
 obtain⟨⟨u,rfl,⟨uo,ucap,rfl,-,-⟩⟩,-⟩:=ha
 obtain⟨⟨v,rfl,⟨vo,vcap,rfl,-,-⟩⟩,-⟩:=hb
 have HX:=hide (zaR w (.int .i64 (n:Int)) (.slice uo hs.length ucap) (.int .i64 (n:Int)) (.slice vo ks.length vcap) 55 55)
 obtain⟨⟨c0,c1,z0,z1⟩,⟨d0,d1,y0,y1⟩,-,-⟩:=HX.out
 go_enter Tryz.func80,Tryz.ntmps80
 go_wp2_with fail
 clear c0 c1 z0 z1 d0 d1 y0 y1
 generalize ((w.alloc (.cells #[.int .i64 (n:Int),.slice uo hs.length ucap] 55)).alloc (.cells #[.int .i64 (n:Int),.slice vo ks.length vcap] 55))=W0 at *
 refine(zcZ W0 _ n nv hs (by exact HA.out.below HX.out.2.2.1) h1 h4).mono ?_
 rintro e w1 ⟨rfl,hb1⟩
 have HB1:=hide (HX.out.2.2.1.trans (hb1.mono HX.out.2.2.1.size))
 have HC1:=hide (HX.out.1.later hb1 (by have:=HX.out.2.2.2;omega))
 have HD1:=hide (HX.out.2.1.later hb1 HX.out.2.2.2)
 have HL1:=hide (zT HX.out.2.2.2 hb1.size)
 obtain⟨d0,d1,y0,y1⟩:=HD1.out
 clear hb1 HX
 go_wp2_with fail
 refine(zcZ w1 _ n mv ks (by exact HB.out.below HB1.out) h1 h4).mono ?_
 rintro e w2 ⟨rfl,hb2⟩
 have HB2:=hide (HB1.out.trans (hb2.mono HB1.out.size))
 clear d0 d1 y0 y1
 obtain⟨c0,c1,z0,z1⟩:=HC1.out.later hb2 (by have:=HL1.out;omega)
 obtain⟨d0,d1,y0,y1⟩:=HD1.out.later hb2 HL1.out
 clear hb2 HB1 HC1 HD1
 go_wp2
 go_ret
 exact⟨rfl,HB2.out⟩
end Go.Proofs.YtdedolkgcdlmeaaGreatDoor
