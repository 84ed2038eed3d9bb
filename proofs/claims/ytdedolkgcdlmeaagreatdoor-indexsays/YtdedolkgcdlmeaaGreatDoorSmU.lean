import Derived.Test.YtdedolkgcdlmeaaGreatDoorTurnA
set_option maxRecDepth 100000
set_option maxHeartbeats 4000000
set_option linter.unusedSimpArgs false
namespace Go.Proofs.YtdedolkgcdlmeaaGreatDoor
open Go.RowKit Limbs
variable {k h:Nat}{a b c d x y:Int}
theorem zky (m:Nat)(hm:m≤1000)(W:World):(Instr.makeSlice 23 (.int .i64 (m:Int)) (.int .i64 (m:Int))).run Tryz.prog W=.ok (.slice (some ⟨W.heap.size,0,none⟩) m m) (W.alloc (.cells (madeCells #[.slice none 0 0] m) 72)):=by
 obtain⟨i0,hi,hz0,hz1,hz2⟩:=info_parts Tryz.infoVec
 have h:=run_make (P:=Tryz.prog) W 23 72 i0 (.slice none 0 0) (by kernel_rfl) hi hz0 .i64 .i64 m m (by omega) (by omega) (by rw [hz2];omega) (by omega)
 rw [hz1,Int.toNat_natCast,Nat.mul_one] at h
 exact h
def colL (hs:List (List Int))(k:Nat):List Int:=hs.map fun r=>r.getD k 0
theorem zgF (w:World)(va:Value)(n nv:Nat)(hs:List (List Int))(ha:MatN w va hs nv)(hl:∀ r∈hs,r.length=n)(hn:n≤100)(hm:hs.length≤100):
  Calls Tryz.prog 65 #[va,.int .i64 (n:Int)] w fun e w'=>∃ O vs ps,e=.returned (.slice (some ⟨O,0,none⟩) n n)∧OutG w w' O n vs ps nv∧∀ i,i<n→(ps i).map (·.2)=colL hs i:=by
 obtain⟨i0,hi,hz0,hz1,hz2⟩:=info_parts Tryz.infoNum
 have HA:=hide ha;have HL:=hide hl
 obtain⟨ao,acap,rfl,-,-⟩:=ha
 clear hl
 have hmk:=zky n (by omega)
 have HO0:=hide (OutG.start (Below.refl w.heap.size w) n nv)
 go_enter Tryz.func65,Tryz.ntmps65
 go_wp2
 clear hmk
 go_loopw [11] (fun x wr=>∃(k:Nat) (vs:Nat→Value) (ps:Nat→List (Nm × Int)),k≤n∧x=.int .i64 k∧Hid (OutG w wr w.heap.size n vs ps nv)∧Hid (∀ i,i<k→(ps i).map (·.2)=colL hs i)∧Hid (∀ i,k≤i→ps i=[])) (fun x _=>n-(intOf x).toNat)
 case atStart=>exact⟨0,_,_,Nat.zero_le _,rfl,HO0,hide (fun i hi=>absurd hi (Nat.not_lt_zero i)),hide (fun _ _=>rfl)⟩
 case round=>
  clear HO0
  obtain⟨k,vs,ps,hk,rfl,HO,HD,HE⟩:=hrel
  by_cases hkl:k<n
  ·go_wp2
   go_loopw [16] (fun y wr=>∃(q:Nat) (vs:Nat→Value) (ps:Nat→List (Nm × Int)),q≤hs.length∧y=.int .i64 q∧Hid (OutG w wr w.heap.size n vs ps nv)∧Hid (∀ i,i<k→(ps i).map (·.2)=colL hs i)∧Hid ((ps k).map (·.2)=colL (hs.take q) k)∧Hid (∀ i,k<i→ps i=[])) (fun y _=>hs.length-(intOf y).toNat)
   case atStart=>exact⟨0,_,_,Nat.zero_le _,rfl,HO,HD,hide (by rw [HE.out k zL];rfl),hide (fun i hi=>HE.out i (Nat.le_of_lt hi))⟩
   case round=>
    clear HO HD HE vs ps
    obtain⟨q,vs,ps,hq,rfl,HO,HD,HM,HE⟩:=hrel
    by_cases hql:q<hs.length
    ·obtain⟨rb,roff,_,e,lr,ru,cu,hru⟩:=HA.out.at q hql
     simp only [Value.slice.injEq,true_and] at e
     obtain⟨rfl,rfl⟩:=e
     have hul:hs[q].length=n:=HL.out _ (List.getElem_mem hql)
     have HTK:Hid (colL (hs.take (q+1)) k=colL (hs.take q) k++[hs[q].getD k 0]):=by
      show _=_
      unfold colL
      rw [List.take_succ_eq_append_getElem hql,List.map_append];rfl
     obtain⟨vb,voff,vcap,rfl⟩:=hru.form (by omega)
     obtain⟨lv,neg,lo,ll,lc,z0,z1,nz⟩:=hru.at k (by omega)
     have c9:=(HO.out.low.cell (p:=⟨rb,roff+q,none⟩) lr).trans cu
     have c12:=(HO.out.low.cell (p:=⟨vb,voff+k*2,none⟩) lv).trans z0
     have c13:=(HO.out.low.cell (p:=⟨vb,voff+k*2+1,none⟩) lv).trans z1
     have HNZ:Hid (NumL w (Nm.val ⟨neg,lo,ll,lc⟩) (hs[q].getD k 0) nv):=nz
     have HPL:Hid ((ps k).length=q):=by
      have h1:=congrArg List.length HM.out
      unfold colL at h1
      rw [List.length_map,List.length_map,List.length_take] at h1
      show _=_
      omega
     rw [hul] at c9
     clear hru cu z0 z1 nz hul
     generalize hs[q].getD k 0=z at *
     have c5:=HO.out.cell k hkl
     have HC5:=hide c5
     obtain⟨vo,vl,vc,hvk⟩:∃ vo vl vc,vs k=.slice vo vl vc:=by
      rcases(HO.out.grow k hkl).1.2 with⟨e1,-⟩ |⟨g',cap',cur,e1,-⟩
      ·exact⟨_,_,_,e1⟩
      ·exact⟨_,_,_,e1⟩
     rw [hvk] at c5
     have hOlt:=HO.out.lt
     have hfO:=HO.out.thaw k
     have HVK:=hide hvk
     clear hvk
     have HOA:=hide (HO.out.later (W':=wr.drew.alloc (.cells #[.bool neg,.slice lo ll lc] 29)) ((Below.refl _ _).drew.alloc zL _))
     have hrb:rb<wr.heap.size:=zT lr HO.out.low.size
     have hvb:vb<wr.heap.size:=zT lv HO.out.low.size
     have HRB:Hid (some rb≠(vs k).ownBlock):=fun e=>by have:=((HO.out.grow k hkl).1.lt rb e.symm).1;omega
     have HVB:Hid (some vb≠(vs k).ownBlock):=fun e=>by have:=((HO.out.grow k hkl).1.lt vb e.symm).1;omega
     have HON:=hide (HO.out.own_ne hkl)
     have hws:=HO.out.low.size
     go_wp2_with fail
     refine zw (S:=(fun w'=>w'.cell? ⟨w.heap.size,k,none⟩=some (.slice vo vl vc)∧w'.cell? ⟨rb,roff+q,none⟩=some (.slice (some ⟨vb,voff,none⟩) n vcap)∧w'.cell? ⟨vb,voff+k*2,none⟩=some (.bool neg)∧w'.cell? ⟨vb,voff+k*2+1,none⟩=some (.slice lo ll lc))) (k:=16) (by kernel_rfl) (by exact⟨c5,c9,c12,c13⟩) (fun hHeld=>?_)
     refine zf 0 19 [16] ?_
     try simp only [zA]
     refine zf 1 20 [16] ?_
     try simp only [zA]
     refine zf 2 21 [16] ?_
     try simp only [zA]
     refine zf 3 22 [16] ?_
     try simp only [zA]
     refine zf 4 23 [16] ?_
     try simp only [zA]
     refine zf 5 24 [16] ?_
     try simp only [zA]
     refine zf 6 25 [16] ?_
     try simp only [zA]
     refine zf 7 26 [16] ?_
     try simp only [zA]
     refine zf 8 27 [16] ?_
     try simp only [zA]
     refine zf 9 28 [16] ?_
     try simp only [zA]
     refine zf 10 29 [16] ?_
     try simp only [zA]
     refine zf 11 30 [16] ?_
     try simp only [zA]
     refine zf 12 31 [16] ?_
     try simp only [zA]
     refine zg 13 (by kernel_rfl) rfl (fun K hK=>?_)
     go_simp
     have hbA:Below wr.heap.size wr (wr.drew.alloc (.cells #[.bool neg,.slice lo ll lc] 29)):=(Below.refl _ _).drew.alloc zL _
     have d5:=(hbA.cell (p:=⟨w.heap.size,k,none⟩) hOlt).trans c5
     have d9:=(hbA.cell (p:=⟨rb,roff+q,none⟩) hrb).trans c9
     have d12:=(hbA.cell (p:=⟨vb,voff+k*2,none⟩) hvb).trans c12
     have d13:=(hbA.cell (p:=⟨vb,voff+k*2+1,none⟩) hvb).trans c13
     refine hK.out _ _ (fun _=>⟨d5,d9,d12,d13⟩) ?_
     clear hK K
     try simp only [zA]
     refine zg 14 (by kernel_rfl) rfl (fun K hK=>?_)
     refine step_append_lies _ rfl (.tmp 24) (.tmp 32) 72 rfl w.heap.size 29 i0 (.agg #[.bool false,.slice none 0 0]) 2 32 (by kernel_rfl) hi hz0 hz1 hz2 rfl (by decide) (.slice vo vl vc) (ps k).length ((ps k).flatMap ncells) rfl (by have:=(HOA.out.grow k hkl).1;rw [HVK.out] at this;exact this) ⟨wr.heap.size,0,none⟩ 1 1 [.bool neg,.slice lo ll lc] rfl rfl (World.news_of_block (heap_alloc_new wr.drew _)) (fun u hu=>by simp only [List.mem_cons,List.mem_nil_iff,or_false] at hu;rcases hu with rfl | rfl <;> rfl) (by decide) (by unfold maxLen;have:=HPL.out;omega) (by have:=HPL.out;omega) (by simp;omega) (wr.heap.size+1) (by simp) ?_
     intro g5 cap5 w5 hown5 hgrow5 hat5 hlt5
     have HO5:=hide hown5;have HG5:=hide hgrow5;have HA5:=hide hat5
     clear hown5 hgrow5 hat5 hlt5
     have e5:=HG5.out.cell d5 (by rw [← HVK.out];exact HON.out)
     have e9:=HG5.out.cell d9 (by rw [← HVK.out];exact HRB.out)
     have e12:=HG5.out.cell d12 (by rw [← HVK.out];exact HVB.out)
     have e13:=HG5.out.cell d13 (by rw [← HVK.out];exact HVB.out)
     refine hK.out _ _ (fun _=>⟨e5,e9,e12,e13⟩) ?_
     clear hK K
     try simp only [zA]
     have hHeld5:(fun w'=>w'.cell? ⟨w.heap.size,k,none⟩=some (.slice vo vl vc)∧w'.cell? ⟨rb,roff+q,none⟩=some (.slice (some ⟨vb,voff,none⟩) n vcap)∧w'.cell? ⟨vb,voff+k*2,none⟩=some (.bool neg)∧w'.cell? ⟨vb,voff+k*2+1,none⟩=some (.slice lo ll lc)) w5:=⟨e5,e9,e12,e13⟩
     clear hHeld
     refine zf 15 34 [16] ?_
     try simp only [zA]
     have HP:=hide (HOA.out.push hkl [(⟨neg,lo,ll,lc⟩,z)] (fun p hp=>by rw [List.mem_singleton] at hp;subst hp;exact HNZ.out.below HOA.out.low zL) (fun i hi p hp=>by rw [List.mem_singleton] at hp;subst hp;exact HOA.out.old HNZ.out hi) (L:=(ps k).length+1) rfl (by have:=HO5.out;simpa [ncells] using this) (by rw [HVK.out];exact HG5.out) (by rw [HVK.out];exact HA5.out.imp id fun h=>by rw [h];simp))
     have ef:w5.frozen? ⟨w.heap.size,k,none⟩=false:=by
      have h1:=HOA.out.thaw k
      rw [World.frozen?_of_block (a:=⟨w.heap.size,k,none⟩) (HG5.out.block w.heap.size HOA.out.lt (by rw [← HVK.out];exact HON.out))]
      exact h1
     refine zg 16 (by kernel_rfl) rfl (fun K hK=>?_)
     go_simp
     refine hK.out _ _ (fun h=>absurd h (by decide)) ?_
     clear hK K
     try simp only [zA]
     refine zt (by kernel_rfl) ?_
     have HD':Hid (∀ i,i<k→(updN ps k (ps k++[(⟨neg,lo,ll,lc⟩,z)]) i).map (·.2)=colL hs i):=fun i hi=>by rw [zaz _ _ _ (by omega)];exact HD.out i hi
     have HM':Hid ((updN ps k (ps k++[(⟨neg,lo,ll,lc⟩,z)]) k).map (·.2)=colL (hs.take (q+1)) k):=by
      show _=_
      rw [zaS,List.map_append,HM.out,HTK.out];rfl
     have HE':Hid (∀ i,k<i→updN ps k (ps k++[(⟨neg,lo,ll,lc⟩,z)]) i=[]):=fun i hi=>by rw [zaz _ _ _ (by omega)];exact HE.out i hi
     clear c5 c9 c12 c13 d5 d9 d12 d13 e5 e9 e12 e13 ef HO5 HG5 HA5 HOA HO HD HM HE hHeld5
     go_wp2
     go_roundw
     case rel=>exact⟨q+1,_,_,by omega,by go_num,HP,HD',HM',HE'⟩
     case measure=>simp [intOf];omega
    ·obtain rfl:q=hs.length:=by omega
     rw [List.take_length] at HM
     have HD':Hid (∀ i,i<k+1→(ps i).map (·.2)=colL hs i):=fun i hi=>by
      by_cases e:i=k
      ·rw [e];exact HM.out
      ·exact HD.out i (by omega)
     clear HD HM
     go_wp2
     go_roundw
     case rel=>exact⟨k+1,_,_,by omega,by go_num,HO,HD',hide (fun i hi=>HE.out i (by omega))⟩
     case measure=>simp [intOf];omega
  ·obtain rfl:k=n:=by omega
   go_wp2
   go_ret
   exact⟨_,_,_,rfl,HO.out,HD.out⟩
def EqM (r:Nat)(A B:Nat→Nat→Int):Prop:=∀ i j,i<r→j<r→A i j=B i j
def scM (e:Int):Nat→Nat→Int:=fun i j=>if i=j then e else 0
def trM (A:Nat→Nat→Int):Nat→Nat→Int:=fun i j=>A j i
section
variable {r:Nat}{A A' B B' C T U U' V V':Nat→Nat→Int}{e:Int}
theorem EqM.refl (A:Nat→Nat→Int):EqM r A A:=fun _ _ _ _=>rfl
theorem EqM.symm (h:EqM r A B):EqM r B A:=fun i j hi hj=>(h i j hi hj).symm
theorem EqM.trans (h:EqM r A B)(k:EqM r B C):EqM r A C:=fun i j hi hj=>(h i j hi hj).trans (k i j hi hj)
theorem EqM.mul (h:EqM r A A')(k:EqM r B B'):EqM r (mulM r A B) (mulM r A' B'):=fun i j hi hj=>zm fun q hq=>by rw [h i q hi hq,k q j hq hj]
theorem EqM.tr (h:EqM r A B):EqM r (trM A) (trM B):=fun i j hi hj=>h j i hj hi
theorem zbb (r:Nat)(A B C:Nat→Nat→Int):mulM r (mulM r A B) C=mulM r A (mulM r B C):=by
 funext i j
 show sumN r (fun k=>sumN r (fun l=>A i l*B l k)*C k j)=sumN r (fun l=>A i l*sumN r (fun k=>B l k*C k j))
 have e1:sumN r (fun k=>sumN r (fun l=>A i l*B l k)*C k j)=sumN r (fun k=>sumN r (fun l=>A i l *(B l k*C k j))):=zm fun k _=>by
  rw [Int.mul_comm,← zaj]
  exact zm fun l _=>by rw [Int.mul_comm,Int.mul_assoc]
 rw [e1,zcQ]
 exact zm fun l _=>by rw [zaj]
theorem zjL (r:Nat)(A:Nat→Nat→Int)(e:Int):EqM r (mulM r A (scM e)) (fun i j=>A i j*e):=fun i j hi hj=>by
 show sumN r (fun k=>A i k*scM e k j)=_
 rw [zQ r j hj _ fun k hk hne=>by rw [scM,if_neg hne,Int.mul_zero],scM,if_pos rfl]
theorem zkE (r:Nat)(A:Nat→Nat→Int)(e:Int):EqM r (mulM r (scM e) A) (fun i j=>A i j*e):=fun i j hi hj=>by
 show sumN r (fun k=>scM e i k*A k j)=_
 rw [zQ r i hi _ fun k hk hne=>by rw [scM,if_neg (Ne.symm hne),Int.zero_mul],scM,if_pos rfl,Int.mul_comm]
theorem zcH (r:Nat)(A:Nat→Nat→Int):EqM r (mulM r A (scM 1)) A:=(zjL r A 1).trans fun _ _ _ _=>Int.mul_one _
theorem zbA (r:Nat)(A:Nat→Nat→Int):EqM r (mulM r (scM 1) A) A:=(zkE r A 1).trans fun _ _ _ _=>Int.mul_one _
theorem zcS (r:Nat)(A B:Nat→Nat→Int):trM (mulM r A B)=mulM r (trM B) (trM A):=by
 funext i j
 exact zm fun k _=>Int.mul_comm _ _
theorem zgD (e:Int):trM (scM e)=scM e:=by
 funext i j
 show(if j=i then e else 0)=if i=j then e else 0
 by_cases h:i=j
 ·rw [if_pos h,if_pos h.symm]
 ·rw [if_neg h,if_neg (Ne.symm h)]
def InvM (r:Nat)(U U':Nat→Nat→Int):Prop:=EqM r (mulM r U U') (scM 1)∧EqM r (mulM r U' U) (scM 1)
theorem InvM.one (r:Nat):InvM r (scM 1) (scM 1):=⟨zcH r _,zcH r _⟩
theorem InvM.symm (h:InvM r U U'):InvM r U' U:=⟨h.2,h.1⟩
theorem InvM.tr (h:InvM r U U'):InvM r (trM U) (trM U'):=by
 refine⟨?_,?_⟩
 ·rw [← zcS,← zgD];exact h.2.tr
 ·rw [← zcS,← zgD];exact h.1.tr
theorem mid (h:EqM r (mulM r U' U) (scM 1)):EqM r (mulM r (mulM r V U') (mulM r U B)) (mulM r V B):=by
 have e1:mulM r (mulM r V U') (mulM r U B)=mulM r V (mulM r (mulM r U' U) B):=by rw [zbb,zbb]
 rw [e1]
 exact(EqM.refl V).mul ((h.mul (EqM.refl B)).trans (zbA r B))
theorem InvM.mul (h:InvM r U U')(k:InvM r V V'):InvM r (mulM r U V) (mulM r V' U'):=
 ⟨(mid k.1).trans h.1,(mid h.2).trans k.2⟩
def Equ (r:Nat)(A B:Nat→Nat→Int):Prop:=∃ U U' V V',InvM r U U'∧InvM r V V'∧EqM r B (mulM r (mulM r U A) V)
theorem Equ.rows (h:InvM r U U')(k:EqM r B (mulM r U A)):Equ r A B:=⟨U,U',scM 1,scM 1,h,.one r,k.trans (zcH r _).symm⟩
theorem Equ.cols (h:InvM r V V')(k:EqM r B (mulM r A V)):Equ r A B:=⟨scM 1,scM 1,V,V',.one r,h,k.trans ((zbA r A).symm.mul (EqM.refl V))⟩
theorem Equ.of (h:EqM r A B):Equ r A B:=.rows (.one r) (h.symm.trans (zbA r A).symm)
theorem Equ.refl (A:Nat→Nat→Int):Equ r A A:=.of (EqM.refl A)
theorem Equ.trans (h:Equ r A B)(k:Equ r B C):Equ r A C:=by
 obtain⟨U,U',V,V',hu,hv,e⟩:=h
 obtain⟨X,X',Y,Y',hx,hy,e2⟩:=k
 refine⟨mulM r X U,mulM r U' X',mulM r V Y,mulM r Y' V',hx.mul hu,hv.mul hy,e2.trans ?_⟩
 refine(((EqM.refl X).mul e).mul (EqM.refl Y)).trans ?_
 have:mulM r (mulM r X (mulM r (mulM r U A) V)) Y=mulM r (mulM r (mulM r X U) A) (mulM r V Y):=by simp only [zbb]
 rw [this]
 exact EqM.refl _
theorem Equ.tr (h:Equ r A B):Equ r (trM A) (trM B):=by
 obtain⟨U,U',V,V',hu,hv,e⟩:=h
 refine⟨trM V,trM V',trM U,trM U',hv.tr,hu.tr,e.tr.trans ?_⟩
 rw [zcS,zcS,zbb]
 exact EqM.refl _
theorem Equ.symm (h:Equ r A B):Equ r B A:=by
 obtain⟨U,U',V,V',hu,hv,e⟩:=h
 refine⟨U',U,V',V,hu.symm,hv.symm,?_⟩
 refine EqM.symm ((((EqM.refl U').mul e).mul (EqM.refl V')).trans ?_)
 have:mulM r (mulM r U' (mulM r (mulM r U A) V)) V'=mulM r (mulM r U' U) (mulM r A (mulM r V V')):=by simp only [zbb]
 rw [this]
 exact(hu.2.mul (((EqM.refl A).mul hv.1).trans (zcH r A))).trans (zbA r A)
def FreeM (r:Nat)(A:Nat→Nat→Int):Prop:=∀ x:Nat→Int,(∀ j,j<r→sumN r (fun k=>x k*A k j)=0)→∀ k,k<r→x k=0
theorem FreeM.cancel (f:FreeM r A){X Y:Nat→Nat→Int}(h:EqM r (mulM r X A) (mulM r Y A)):EqM r X Y:=fun i k hi hk=>by
 have:=f (fun q=>X i q+- Y i q) (fun j hj=>by
  have e1:sumN r (fun q=>(X i q+- Y i q)*A q j)=sumN r (fun q=>X i q*A q j)+- sumN r (fun q=>Y i q*A q j):=by
   rw [← zch,← zbg]
   exact zm fun q _=>by rw [Int.add_mul,Int.neg_mul]
  rw [e1]
  have e2:sumN r (fun q=>X i q*A q j)=sumN r (fun q=>Y i q*A q j):=h i j hi hj
  omega) k hk
 omega
theorem zjb (fA:FreeM r A)(fB:FreeM r B)(h:EqM r A (mulM r C B))(k:EqM r B (mulM r T A)):InvM r C T:=by
 refine⟨fA.cancel ?_,fB.cancel ?_⟩
 ·refine EqM.trans ?_ (zbA r A).symm
  rw [zbb]
  exact((EqM.refl C).mul k.symm).trans h.symm
 ·refine EqM.trans ?_ (zbA r B).symm
  rw [zbb]
  exact((EqM.refl T).mul h.symm).trans k.symm
theorem ze2 (h:∀ i j,i<r→j<r→j<i→A i j=0)(p:∀ i,i<r→A i i≠0):FreeM r A:=fun x hx=>by
 have key:∀ m k,k<m→k<r→x k=0:=fun m=>by
  induction m with
  | zero=>intro k hk;omega
  | succ m ih=>
   intro k hk hr
   by_cases hm:k<m
   ·exact ih k hm hr
   ·have e:=hx k hr
    rw [zQ r k hr _ fun i hi hne=>by
     by_cases hik:i<k
     ·rw [ih i (by omega) hi,Int.zero_mul]
     ·rw [h i k hi hr (by omega),Int.mul_zero]] at e
    rcases Int.mul_eq_zero.1 e with e | e
    ·exact e
    ·exact absurd e (p k hr)
 exact fun k hk=>key (k+1) k (by omega) hk
theorem ziz (h:∀ i j,i<r→j<r→i<j→A i j=0)(p:∀ i,i<r→A i i≠0):FreeM r A:=fun x hx=>by
 have key:∀ m k,k<r→r-k≤m→x k=0:=fun m=>by
  induction m with
  | zero=>intro k hk h0;omega
  | succ m ih=>
   intro k hk h0
   have e:=hx k hk
   rw [zQ r k hk _ fun i hi hne=>by
    by_cases hik:k<i
    ·rw [ih i hi (by omega),Int.zero_mul]
    ·rw [h i k hi hk (by omega),Int.mul_zero]] at e
   rcases Int.mul_eq_zero.1 e with e | e
   ·exact e
   ·exact absurd e (p k hk)
 exact fun k hk=>key r k hk (by omega)
def dgM (f:Nat→Int):Nat→Nat→Int:=fun i j=>if i=j then f i else 0
theorem zlm (f:Nat→Int):trM (dgM f)=dgM f:=by
 funext i j
 show(if j=i then f j else 0)=if i=j then f i else 0
 by_cases h:i=j
 ·rw [if_pos h,if_pos h.symm,h]
 ·rw [if_neg h,if_neg (Ne.symm h)]
def twoM (k h:Nat)(a b c d:Int):Nat→Nat→Int:=fun i j=>if i=k then (if j=k then a else if j=h then b else 0) else if i=h then (if j=k then c else if j=h then d else 0) else if i=j then 1 else 0
def blkM (f:Nat→Int)(k h:Nat)(a b c d:Int):Nat→Nat→Int:=fun i j=>if i=k then (if j=k then a else if j=h then b else 0) else if i=h then (if j=k then c else if j=h then d else 0) else if i=j then f i else 0
theorem zci {f:Nat→Int}(hkh:k<h)(hh:h<r)(a b c d x y z u:Int):EqM r (mulM r (twoM k h a b c d) (blkM f k h x y z u)) (blkM f k h (a*x+b*z) (a*y+b*u) (c*x+d*z) (c*y+d*u)):=fun i j hi hj=>by
 show sumN r (fun q=>twoM k h a b c d i q*blkM f k h x y z u q j)=_
 by_cases e1:i=k
 ·subst e1
  rw [zcR r i h hkh hh _ fun q hq n1 n2=>by rw [twoM,if_pos rfl,if_neg n1,if_neg n2,Int.zero_mul]]
  have n:¬ h=i:=by omega
  simp only [twoM,blkM,if_true,if_neg n]
  by_cases e2:j=i
  ·simp only [e2,if_true]
  ·simp only [if_neg e2]
   by_cases e3:j=h
   ·simp only [e3,if_true]
   ·simp only [if_neg e3,Int.mul_zero,Int.add_zero]
 ·by_cases e4:i=h
  ·subst e4
   rw [zcR r k i hkh hh _ fun q hq n1 n2=>by rw [twoM,if_neg e1,if_pos rfl,if_neg n1,if_neg n2,Int.zero_mul]]
   simp only [twoM,blkM,if_true,if_neg e1]
   by_cases e2:j=k
   ·simp only [e2,if_true]
   ·simp only [if_neg e2]
    by_cases e3:j=i
    ·simp only [e3,if_true]
    ·simp only [if_neg e3,Int.mul_zero,Int.add_zero]
  ·rw [zQ r i hi _ fun q hq hne=>by rw [twoM,if_neg e1,if_neg e4,if_neg (Ne.symm hne),Int.zero_mul]]
   simp only [twoM,blkM,if_neg e1,if_neg e4,if_true,Int.one_mul]
theorem zgG (k h:Nat)(hkh:k<h):twoM k h 1 0 0 1=scM 1:=by
 funext i j
 unfold twoM scM
 by_cases e1:i=k
 ·subst e1
  rw [if_pos rfl]
  by_cases e2:j=i
  ·rw [if_pos e2,if_pos e2.symm]
  ·rw [if_neg e2,if_neg (Ne.symm e2)]
   split <;> rfl
 ·rw [if_neg e1]
  by_cases e4:i=h
  ·subst e4
   rw [if_pos rfl]
   by_cases e2:j=i
   ·rw [if_pos e2,if_pos e2.symm,if_neg (by omega)]
   ·rw [if_neg e2,if_neg (Ne.symm e2)]
    split <;> rfl
  ·rw [if_neg e4]
theorem zcT (k h:Nat)(a b c d:Int):twoM k h a b c d=blkM (fun _=>1) k h a b c d:=rfl
theorem zd2(hkh:k<h)(hh:h<r){z u:Int}(h1:a*x+b*z=1)(h2:a*y+b*u=0)(h3:c*x+d*z=0)(h4:c*y+d*u=1)(h5:x*a+y*c=1)(h6:x*b+y*d=0)(h7:z*a+u*c=0)(h8:z*b+u*d=1):InvM r (twoM k h a b c d) (twoM k h x y z u):=by
 refine⟨?_,?_⟩
 ·have e:=zci (f:=fun _=>1) hkh hh a b c d x y z u
  rw [h1,h2,h3,h4,← zcT,← zcT,zgG k h hkh] at e
  exact e
 ·have e:=zci (f:=fun _=>1) hkh hh x y z u a b c d
  rw [h5,h6,h7,h8,← zcT,← zcT,zgG k h hkh] at e
  exact e
theorem zgC (f:Nat→Int)(hkh:k<h)(a b c d:Int):trM (blkM f k h a b c d)=blkM f k h a c b d:=by
 funext i j
 show blkM f k h a b c d j i=_
 unfold blkM
 repeat' split
 all_goals first | rfl | omega | exact congrArg f (by omega)
theorem zhg {f:Nat→Int}(hkh:k<h)(hh:h<r){g l p q:Int}(hg:g=x*a+y*b)(hp:a=p*g)(hq:b=q*g)(hl:l=p*b):Equ r (blkM f k h a 0 0 b) (blkM f k h g 0 0 l):=by
 have s1:Equ r (blkM f k h a 0 0 b) (blkM f k h a (y*b) 0 b):=.rows (zd2 (a:=1) (b:=y) (c:=0) (d:=1) (x:=1) (y:=-y) (z:=0) (u:=1) hkh hh (by omega) (by omega) (by omega) (by omega) (by omega) (by omega) (by omega) (by omega)) (by
  have e:=zci (r:=r) (f:=f) hkh hh 1 y 0 1 a 0 0 b
  simp only [Int.one_mul,Int.mul_zero,Int.add_zero,Int.zero_mul,Int.zero_add] at e
  exact e.symm)
 have hxp:x*p=p*x:=Int.mul_comm x p
 have hxx:x *(p*x)=p*x*x:=Int.mul_comm x (p*x)
 have hpp:p*x*p=p *(p*x):=Int.mul_comm (p*x) p
 have s2:Equ r (blkM f k h a 0 (y*b) b) (blkM f k h g b 0 l):=.rows (zd2 (a:=x) (b:=1) (c:=p*x-1) (d:=p) (x:=p) (y:=-1) (z:=1-p*x) (u:=x) hkh hh
   (by omega) (by omega)
   (by rw [Int.sub_mul,Int.mul_sub];omega)
   (by omega)
   (by omega) (by omega)
   (by rw [Int.sub_mul,Int.mul_sub];omega)
   (by omega)) (by
  have e:=zci (r:=r) (f:=f) hkh hh x 1 (p*x-1) p a 0 (y*b) b
  have e1:x*a+1 *(y*b)=g:=by rw [Int.one_mul,hg]
  have e2:x*0+1*b=b:=by omega
  have e3:(p*x-1)*a+p *(y*b)=0:=by
   have:p *(x*a+y*b)=a:=by rw [← hg,← hp]
   rw [Int.mul_add] at this
   rw [Int.sub_mul,Int.one_mul,Int.mul_assoc]
   omega
  have e4:(p*x-1)*0+p*b=l:=by rw [hl];omega
  rw [e1,e2,e3,e4] at e
  exact e.symm)
 have s3:Equ r (blkM f k h g 0 b l) (blkM f k h g 0 0 l):=.rows (zd2 (a:=1) (b:=0) (c:=-q) (d:=1) (x:=1) (y:=0) (z:=q) (u:=1) hkh hh (by omega) (by omega) (by omega) (by omega) (by omega) (by omega) (by omega) (by omega)) (by
  have e:=zci (r:=r) (f:=f) hkh hh 1 0 (-q) 1 g 0 b l
  have e1:-q*g+1*b=0:=by rw [hq,Int.neg_mul];omega
  rw [e1] at e
  simp only [Int.one_mul,Int.mul_zero,Int.add_zero,Int.zero_mul,Int.zero_add] at e
  exact e.symm)
 have t2:=s2.tr
 rw [zgC f hkh,zgC f hkh] at t2
 exact(s1.trans t2).trans s3
theorem zha {f g:Nat→Int}(e:∀ i,i≠k→i≠h→f i=g i):blkM f k h a b c d=blkM g k h a b c d:=by
 funext i j
 unfold blkM
 by_cases e1:i=k
 ·rw [if_pos e1,if_pos e1]
 ·by_cases e2:i=h
  ·rw [if_neg e1,if_neg e1,if_pos e2,if_pos e2]
  ·rw [if_neg e1,if_neg e1,if_neg e2,if_neg e2,e i e1 e2]
theorem zeM (zs:List Int)(hkh:k<h):dgM (fun i=>zs.getD i 0)=blkM (fun i=>zs.getD i 0) k h (zs.getD k 0) 0 0 (zs.getD h 0):=by
 funext i j
 unfold dgM blkM
 by_cases e1:i=k
 ·subst e1
  rw [if_pos rfl]
  by_cases e2:j=i
  ·rw [if_pos e2,if_pos e2.symm]
  ·rw [if_neg e2,if_neg (Ne.symm e2)]
   split <;> rfl
 ·rw [if_neg e1]
  by_cases e4:i=h
  ·subst e4
   rw [if_pos rfl]
   by_cases e2:j=i
   ·rw [if_pos e2,if_pos e2.symm,if_neg (by omega)]
   ·rw [if_neg e2,if_neg (Ne.symm e2)]
    split <;> rfl
  ·rw [if_neg e4]
theorem zih {F G:List (List Int)}(fF:FreeM r (ent F))(fG:FreeM r (ent G))(lF:F.length=r)(lG:G.length=r)(kF:∀ u∈F,u.length=r)(kG:∀ u∈G,u.length=r)(a:Alikes r (InL F) (InL G)):Equ r (ent G) (ent F):=by
 obtain⟨C,hC⟩:=zX (r:=r) (n:=r) (mm:=r) (H:=ent F) (M:=ent G) fun k hk=>by
  have hm:F.getD k []∈F:=zr (by omega)
  have g:=zE ((a _).1 (.base hm (kF _ hm)))
  rw [lG] at g
  exact g
 obtain⟨T,hT⟩:=zX (r:=r) (n:=r) (mm:=r) (H:=ent G) (M:=ent F) fun k hk=>by
  have hm:G.getD k []∈G:=zr (by omega)
  have g:=zE ((a _).2 (.base hm (kG _ hm)))
  rw [lF] at g
  exact g
 have hC':EqM r (ent F) (mulM r C (ent G)):=fun i j hi hj=>hC i j hi hj
 have hT':EqM r (ent G) (mulM r T (ent F)):=fun i j hi hj=>hT i j hi hj
 exact .rows (zjb fF fG hC' hT') hC'
theorem Sq.free {H:List (List Int)}(S:Sq r H):FreeM r (ent H):=ze2 (fun i j hi hj h=>S.low hi h) fun i hi=>by have:=S.pos hi;omega
theorem Sq.free_cols {H:List (List Int)}(S:Sq r H):FreeM r (ent (colsL H r)):=ziz (fun i j hi hj h=>by rw [zaw S hi hj];exact S.low hj h) fun i hi=>by rw [zaw S hi hi];have:=S.pos hi;omega
theorem Sq.cols_equ {H H':List (List Int)}(S:Sq r H)(S':Sq r H')(a:Alikes r (InL H') (InL (colsL H r))):Equ r (trM (ent H)) (ent H'):=by
 have e:EqM r (trM (ent H)) (ent (colsL H r)):=fun i j hi hj=>(zaw S hi hj).symm
 exact(Equ.of e).trans (zih S'.free S.free_cols S'.len (zZ H r) S'.form.len (fun u hu=>by rw [zaW H r u hu,S.len]) a)
end
end Go.Proofs.YtdedolkgcdlmeaaGreatDoor
