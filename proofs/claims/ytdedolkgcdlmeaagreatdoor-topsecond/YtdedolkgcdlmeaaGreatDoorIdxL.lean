import Derived.Test.YtdedolkgcdlmeaaGreatDoorTurnA
import Derived.Test.YtdedolkgcdlmeaaGreatDoorSmV
import Derived.Test.YtdedolkgcdlmeaaGreatDoorDetB
import Derived.Test.YtdedolkgcdlmeaaGreatDoorFormB
import Derived.Test.YtdedolkgcdlmeaaGreatDoorHermite
import Derived.Test.YtdedolkgcdlmeaaGreatDoorSmU
import Derived.Test.YtdedolkgcdlmeaaGreatDoorSmD
namespace Go.Proofs.YtdedolkgcdlmeaaGreatDoor
open Go.RowKit Limbs
theorem zkB (m:Nat)(hm:m≤1000)(W:World):(Instr.makeSlice 23 (.int .i64 (m:Int)) (.int .i64 (m:Int))).run Tryz.prog W=.ok (.slice (some ⟨W.heap.size,0,none⟩) m m) (W.alloc (.cells (madeCells #[.slice none 0 0] m) 72)):=by
 obtain⟨i0,hi,hz0,hz1,hz2⟩:=info_parts Tryz.infoVec
 have h:=run_make (P:=Tryz.prog) W 23 72 i0 (.slice none 0 0) (by kernel_rfl) hi hz0 .i64 .i64 m m (by omega) (by omega) (by rw [hz2];omega) (by omega)
 rw [hz1,Int.toNat_natCast,Nat.mul_one] at h
 exact h
def colL (hs:List (List Int))(k:Nat):List Int:=hs.map fun r=>r.getD k 0
set_option linter.unusedSimpArgs false in
set_option maxRecDepth 100000 in
set_option maxHeartbeats 4000000 in
theorem zgV (w:World)(va:Value)(n nv:Nat)(hs:List (List Int))(ha:MatN w va hs nv)(hl:∀ r∈hs,r.length=n)(hn:n≤100)(hm:hs.length≤100):
  Calls Tryz.prog 65 #[va,.int .i64 (n:Int)] w fun e w'=>∃ O vs ps,e=.returned (.slice (some ⟨O,0,none⟩) n n)∧OutG w w' O n vs ps nv∧∀ i,i < n→(ps i).map (·.2)=colL hs i:=by
 obtain⟨i0,hi,hz0,hz1,hz2⟩:=info_parts Tryz.infoNum
 have HA:=hide ha;have HL:=hide hl
 obtain⟨ao,acap,rfl,-,-⟩:=ha
 clear hl
 have hmk:=zkB n (by omega)
 have HO0:=hide (OutG.start (Below.refl w.heap.size w) n nv)
 go_enter Tryz.func65,Tryz.ntmps65
 go_wp2
 clear hmk
 go_loopw [11] (fun x wr=>∃(k:Nat) (vs:Nat→Value) (ps:Nat→List (Nm × Int)),k≤n∧x=.int .i64 k∧Hid (OutG w wr w.heap.size n vs ps nv)∧Hid (∀ i,i < k→(ps i).map (·.2)=colL hs i)∧Hid (∀ i,k≤i→ps i=[])) (fun x _=>n - (intOf x).toNat)
 case atStart=>exact⟨0,_,_,Nat.zero_le _,rfl,HO0,hide (fun i hi=>absurd hi (Nat.not_lt_zero i)),hide (fun _ _=>rfl)⟩
 case round=>
  clear HO0
  obtain⟨k,vs,ps,hk,rfl,HO,HD,HE⟩:=hrel
  by_cases hkl:k < n
  ·go_wp2
   go_loopw [16] (fun y wr=>∃(q:Nat) (vs:Nat→Value) (ps:Nat→List (Nm × Int)),q≤hs.length∧y=.int .i64 q∧Hid (OutG w wr w.heap.size n vs ps nv)∧Hid (∀ i,i < k→(ps i).map (·.2)=colL hs i)∧Hid ((ps k).map (·.2)=colL (hs.take q) k)∧Hid (∀ i,k < i→ps i=[])) (fun y _=>hs.length - (intOf y).toNat)
   case atStart=>exact⟨0,_,_,Nat.zero_le _,rfl,HO,HD,hide (by rw [HE.out k zL];rfl),hide (fun i hi=>HE.out i (Nat.le_of_lt hi))⟩
   case round=>
    clear HO HD HE vs ps
    obtain⟨q,vs,ps,hq,rfl,HO,HD,HM,HE⟩:=hrel
    by_cases hql:q < hs.length
    ·obtain⟨rb,roff,_,e,lr,ru,cu,hru⟩:=HA.out.at q hql
     simp only [Value.slice.injEq,true_and] at e
     obtain⟨rfl,rfl⟩:=e
     have hul:hs[q].length=n:=HL.out _ (List.getElem_mem hql)
     have HTK:Hid (colL (hs.take (q+1)) k=colL (hs.take q) k ++ [hs[q].getD k 0]):=by
      show _=_
      unfold colL
      rw [List.take_succ_eq_append_getElem hql,List.map_append];rfl
     obtain⟨vb,voff,vcap,rfl⟩:=hru.form (by omega)
     obtain⟨lv,neg,lo,ll,lc,z0,z1,nz⟩:=hru.at k (by omega)
     have c9:=(HO.out.low.cell (p:=⟨rb,roff+q,none⟩) lr).trans cu
     have c12:=(HO.out.low.cell (p:=⟨vb,voff+k * 2,none⟩) lv).trans z0
     have c13:=(HO.out.low.cell (p:=⟨vb,voff+k * 2+1,none⟩) lv).trans z1
     have HNZ:Hid (NumL w (Nm.val ⟨neg,lo,ll,lc⟩) (hs[q].getD k 0) nv):=nz
     have HPL:Hid ((ps k).length=q):=by
      have h1:=congrArg List.length HM.out
      unfold colL at h1
      rw [List.length_map,List.length_map,List.length_take] at h1
      show _=_
      omega
     rw [hul] at c9
     clear hru cu z0 z1 nz hul
     generalize hs[q].getD k 0=z at *
     have c5:=HO.out.cell k hkl
     have HC5:=hide c5
     obtain⟨vo,vl,vc,hvk⟩:∃ vo vl vc,vs k=.slice vo vl vc:=by
      rcases(HO.out.grow k hkl).1.2 with⟨e1,-⟩ |⟨g',cap',cur,e1,-⟩
      ·exact⟨_,_,_,e1⟩
      ·exact⟨_,_,_,e1⟩
     rw [hvk] at c5
     have hOlt:=HO.out.lt
     have hfO:=HO.out.thaw k
     have HVK:=hide hvk
     clear hvk
     have HOA:=hide (HO.out.later (W':=wr.drew.alloc (.cells #[.bool neg,.slice lo ll lc] 29)) ((Below.refl _ _).drew.alloc zL _))
     have hrb:rb < wr.heap.size:=zT lr HO.out.low.size
     have hvb:vb < wr.heap.size:=zT lv HO.out.low.size
     have HRB:Hid (some rb≠(vs k).ownBlock):=fun e=>by have:=((HO.out.grow k hkl).1.lt rb e.symm).1;omega
     have HVB:Hid (some vb≠(vs k).ownBlock):=fun e=>by have:=((HO.out.grow k hkl).1.lt vb e.symm).1;omega
     have HON:=hide (HO.out.own_ne hkl)
     have hws:=HO.out.low.size
     go_wp2_with fail
     refine zt (S:=(fun w'=>w'.cell? ⟨w.heap.size,k,none⟩=some (.slice vo vl vc)∧w'.cell? ⟨rb,roff+q,none⟩=some (.slice (some ⟨vb,voff,none⟩) n vcap)∧w'.cell? ⟨vb,voff+k * 2,none⟩=some (.bool neg)∧w'.cell? ⟨vb,voff+k * 2+1,none⟩=some (.slice lo ll lc))) (k:=16) (by kernel_rfl) (by exact⟨c5,c9,c12,c13⟩) (fun hHeld=>?_)
     refine zn (v:=?_) 0 19 [16] rfl rfl (by kernel_rfl) (by kernel_rfl) (by kernel_rfl) (by kernel_rfl) (by kernel_rfl) (fun _ _ _ h=>h) (by rfl) ?_ (by assumption) ?_
     rotate_left
     ·(intro w hSw;(try dsimp only at hSw);obtain⟨hS1,hS2,hS3,hS4⟩:=hSw;go_simp;with_reducible rfl)
     try simp only [zA]
     refine zn (v:=?_) 1 20 [16] rfl rfl (by kernel_rfl) (by kernel_rfl) (by kernel_rfl) (by kernel_rfl) (by kernel_rfl) (fun _ _ _ h=>h) (by rfl) ?_ (by assumption) ?_
     rotate_left
     ·(intro w hSw;(try dsimp only at hSw);obtain⟨hS1,hS2,hS3,hS4⟩:=hSw;go_simp;with_reducible rfl)
     try simp only [zA]
     refine zn (v:=?_) 2 21 [16] rfl rfl (by kernel_rfl) (by kernel_rfl) (by kernel_rfl) (by kernel_rfl) (by kernel_rfl) (fun _ _ _ h=>h) (by rfl) ?_ (by assumption) ?_
     rotate_left
     ·(intro w hSw;(try dsimp only at hSw);obtain⟨hS1,hS2,hS3,hS4⟩:=hSw;go_simp;with_reducible rfl)
     try simp only [zA]
     refine zn (v:=?_) 3 22 [16] rfl rfl (by kernel_rfl) (by kernel_rfl) (by kernel_rfl) (by kernel_rfl) (by kernel_rfl) (fun _ _ _ h=>h) (by rfl) ?_ (by assumption) ?_
     rotate_left
     ·(intro w hSw;(try dsimp only at hSw);obtain⟨hS1,hS2,hS3,hS4⟩:=hSw;go_simp;with_reducible rfl)
     try simp only [zA]
     refine zn (v:=?_) 4 23 [16] rfl rfl (by kernel_rfl) (by kernel_rfl) (by kernel_rfl) (by kernel_rfl) (by kernel_rfl) (fun _ _ _ h=>h) (by rfl) ?_ (by assumption) ?_
     rotate_left
     ·(intro w hSw;(try dsimp only at hSw);obtain⟨hS1,hS2,hS3,hS4⟩:=hSw;go_simp;with_reducible rfl)
     try simp only [zA]
     refine zn (v:=?_) 5 24 [16] rfl rfl (by kernel_rfl) (by kernel_rfl) (by kernel_rfl) (by kernel_rfl) (by kernel_rfl) (fun _ _ _ h=>h) (by rfl) ?_ (by assumption) ?_
     rotate_left
     ·(intro w hSw;(try dsimp only at hSw);obtain⟨hS1,hS2,hS3,hS4⟩:=hSw;go_simp;with_reducible rfl)
     try simp only [zA]
     refine zn (v:=?_) 6 25 [16] rfl rfl (by kernel_rfl) (by kernel_rfl) (by kernel_rfl) (by kernel_rfl) (by kernel_rfl) (fun _ _ _ h=>h) (by rfl) ?_ (by assumption) ?_
     rotate_left
     ·(intro w hSw;(try dsimp only at hSw);obtain⟨hS1,hS2,hS3,hS4⟩:=hSw;go_simp;with_reducible rfl)
     try simp only [zA]
     refine zn (v:=?_) 7 26 [16] rfl rfl (by kernel_rfl) (by kernel_rfl) (by kernel_rfl) (by kernel_rfl) (by kernel_rfl) (fun _ _ _ h=>h) (by rfl) ?_ (by assumption) ?_
     rotate_left
     ·(intro w hSw;(try dsimp only at hSw);obtain⟨hS1,hS2,hS3,hS4⟩:=hSw;go_simp;with_reducible rfl)
     try simp only [zA]
     refine zn (v:=?_) 8 27 [16] rfl rfl (by kernel_rfl) (by kernel_rfl) (by kernel_rfl) (by kernel_rfl) (by kernel_rfl) (fun _ _ _ h=>h) (by rfl) ?_ (by assumption) ?_
     rotate_left
     ·(intro w hSw;(try dsimp only at hSw);obtain⟨hS1,hS2,hS3,hS4⟩:=hSw;go_simp;with_reducible rfl)
     try simp only [zA]
     refine zn (v:=?_) 9 28 [16] rfl rfl (by kernel_rfl) (by kernel_rfl) (by kernel_rfl) (by kernel_rfl) (by kernel_rfl) (fun _ _ _ h=>h) (by rfl) ?_ (by assumption) ?_
     rotate_left
     ·(intro w hSw;(try dsimp only at hSw);obtain⟨hS1,hS2,hS3,hS4⟩:=hSw;go_simp;with_reducible rfl)
     try simp only [zA]
     refine zn (v:=?_) 10 29 [16] rfl rfl (by kernel_rfl) (by kernel_rfl) (by kernel_rfl) (by kernel_rfl) (by kernel_rfl) (fun _ _ _ h=>h) (by rfl) ?_ (by assumption) ?_
     rotate_left
     ·(intro w hSw;(try dsimp only at hSw);obtain⟨hS1,hS2,hS3,hS4⟩:=hSw;go_simp;with_reducible rfl)
     try simp only [zA]
     refine zn (v:=?_) 11 30 [16] rfl rfl (by kernel_rfl) (by kernel_rfl) (by kernel_rfl) (by kernel_rfl) (by kernel_rfl) (fun _ _ _ h=>h) (by rfl) ?_ (by assumption) ?_
     rotate_left
     ·(intro w hSw;(try dsimp only at hSw);obtain⟨hS1,hS2,hS3,hS4⟩:=hSw;go_simp;with_reducible rfl)
     try simp only [zA]
     refine zn (v:=?_) 12 31 [16] rfl rfl (by kernel_rfl) (by kernel_rfl) (by kernel_rfl) (by kernel_rfl) (by kernel_rfl) (fun _ _ _ h=>h) (by rfl) ?_ (by assumption) ?_
     rotate_left
     ·(intro w hSw;(try dsimp only at hSw);obtain⟨hS1,hS2,hS3,hS4⟩:=hSw;go_simp;with_reducible rfl)
     try simp only [zA]
     refine zf 13 (by kernel_rfl) rfl (fun K hK=>?_)
     go_simp
     have hbA:Below wr.heap.size wr (wr.drew.alloc (.cells #[.bool neg,.slice lo ll lc] 29)):=(Below.refl _ _).drew.alloc zL _
     have d5:=(hbA.cell (p:=⟨w.heap.size,k,none⟩) hOlt).trans c5
     have d9:=(hbA.cell (p:=⟨rb,roff+q,none⟩) hrb).trans c9
     have d12:=(hbA.cell (p:=⟨vb,voff+k * 2,none⟩) hvb).trans c12
     have d13:=(hbA.cell (p:=⟨vb,voff+k * 2+1,none⟩) hvb).trans c13
     refine hK.out _ _ (fun _=>⟨d5,d9,d12,d13⟩) ?_
     clear hK K
     try simp only [zA]
     refine zf 14 (by kernel_rfl) rfl (fun K hK=>?_)
     refine step_append_lies _ rfl (.tmp 24) (.tmp 32) 72 rfl w.heap.size 29 i0 (.agg #[.bool false,.slice none 0 0]) 2 32 (by kernel_rfl) hi hz0 hz1 hz2 rfl (by decide) (.slice vo vl vc) (ps k).length ((ps k).flatMap ncells) rfl (by have:=(HOA.out.grow k hkl).1;rw [HVK.out] at this;exact this) ⟨wr.heap.size,0,none⟩ 1 1 [.bool neg,.slice lo ll lc] rfl rfl (World.news_of_block (heap_alloc_new wr.drew _)) (fun u hu=>by simp only [List.mem_cons,List.mem_nil_iff,or_false] at hu;rcases hu with rfl | rfl <;> rfl) (by decide) (by unfold maxLen;have:=HPL.out;omega) (by have:=HPL.out;omega) (by simp;omega) (wr.heap.size+1) (by simp) ?_
     intro g5 cap5 w5 hown5 hgrow5 hat5 hlt5
     have HO5:=hide hown5;have HG5:=hide hgrow5;have HA5:=hide hat5
     clear hown5 hgrow5 hat5 hlt5
     have e5:=HG5.out.cell d5 (by rw [← HVK.out];exact HON.out)
     have e9:=HG5.out.cell d9 (by rw [← HVK.out];exact HRB.out)
     have e12:=HG5.out.cell d12 (by rw [← HVK.out];exact HVB.out)
     have e13:=HG5.out.cell d13 (by rw [← HVK.out];exact HVB.out)
     refine hK.out _ _ (fun _=>⟨e5,e9,e12,e13⟩) ?_
     clear hK K
     try simp only [zA]
     have hHeld5:(fun w'=>w'.cell? ⟨w.heap.size,k,none⟩=some (.slice vo vl vc)∧w'.cell? ⟨rb,roff+q,none⟩=some (.slice (some ⟨vb,voff,none⟩) n vcap)∧w'.cell? ⟨vb,voff+k * 2,none⟩=some (.bool neg)∧w'.cell? ⟨vb,voff+k * 2+1,none⟩=some (.slice lo ll lc)) w5:=⟨e5,e9,e12,e13⟩
     clear hHeld
     refine zn (v:=?_) 15 34 [16] rfl rfl (by kernel_rfl) (by kernel_rfl) (by kernel_rfl) (by kernel_rfl) (by kernel_rfl) (fun _ _ _ h=>h) (by rfl) ?_ (by assumption) ?_
     rotate_left
     ·(intro w hSw;(try dsimp only at hSw);obtain⟨hS1,hS2,hS3,hS4⟩:=hSw;go_simp;with_reducible rfl)
     try simp only [zA]
     have HP:=hide (HOA.out.push hkl [(⟨neg,lo,ll,lc⟩,z)] (fun p hp=>by rw [List.mem_singleton] at hp;subst hp;exact HNZ.out.below HOA.out.low zL) (fun i hi p hp=>by rw [List.mem_singleton] at hp;subst hp;exact HOA.out.old HNZ.out hi) (L:=(ps k).length+1) rfl (by have:=HO5.out;simpa [ncells] using this) (by rw [HVK.out];exact HG5.out) (by rw [HVK.out];exact HA5.out.imp id fun h=>by rw [h];simp))
     have ef:w5.frozen? ⟨w.heap.size,k,none⟩=false:=by
      have h1:=HOA.out.thaw k
      rw [World.frozen?_of_block (a:=⟨w.heap.size,k,none⟩) (HG5.out.block w.heap.size HOA.out.lt (by rw [← HVK.out];exact HON.out))]
      exact h1
     refine zf 16 (by kernel_rfl) rfl (fun K hK=>?_)
     go_simp
     refine hK.out _ _ (fun h=>absurd h (by decide)) ?_
     clear hK K
     try simp only [zA]
     refine zq (by kernel_rfl) ?_
     have HD':Hid (∀ i,i < k→(updN ps k (ps k ++ [(⟨neg,lo,ll,lc⟩,z)]) i).map (·.2)=colL hs i):=fun i hi=>by rw [zax _ _ _ (by omega)];exact HD.out i hi
     have HM':Hid ((updN ps k (ps k ++ [(⟨neg,lo,ll,lc⟩,z)]) k).map (·.2)=colL (hs.take (q+1)) k):=by
      show _=_
      rw [zaN,List.map_append,HM.out,HTK.out];rfl
     have HE':Hid (∀ i,k < i→updN ps k (ps k ++ [(⟨neg,lo,ll,lc⟩,z)]) i=[]):=fun i hi=>by rw [zax _ _ _ (by omega)];exact HE.out i hi
     clear c5 c9 c12 c13 d5 d9 d12 d13 e5 e9 e12 e13 ef HO5 HG5 HA5 HOA HO HD HM HE hHeld5
     go_wp2
     go_roundw
     case rel=>exact⟨q+1,_,_,by omega,by go_num,HP,HD',HM',HE'⟩
     case measure=>simp [intOf];omega
    ·obtain rfl:q=hs.length:=by omega
     rw [List.take_length] at HM
     have HD':Hid (∀ i,i < k+1→(ps i).map (·.2)=colL hs i):=fun i hi=>by
      by_cases e:i=k
      ·rw [e];exact HM.out
      ·exact HD.out i (by omega)
     clear HD HM
     go_wp2
     go_roundw
     case rel=>exact⟨k+1,_,_,by omega,by go_num,HO,HD',hide (fun i hi=>HE.out i (by omega))⟩
     case measure=>simp [intOf];omega
  ·obtain rfl:k=n:=by omega
   go_wp2
   go_ret
   exact⟨_,_,_,rfl,HO.out,HD.out⟩
def Dual (ks:List (List Int))(n:Nat):Prop:=∀ i,i < ks.length→∃ w:Nat→Int,∀ l,l < ks.length→sumN n (fun j=>ent ks l j * w j)=if l=i then 1 else 0
theorem VecO.ones {w W:World}{P r n:Nat}(h:VecO w W P (List.replicate r 1) n):VecO w W P (List.replicate r 1) 2:=
 ⟨h.vec.tight fun j hj=>by rw [List.length_replicate] at hj;rw [zj3 r j hj];decide,h.low,h.below,h.blk⟩
def SmPost (w:World)(r:Nat)(e:Ending)(w':World):Prop:=
 ∃ P,e=.returned (.tuple #[.slice (some ⟨P,0,none⟩) r r,.nilIface])∧VecO w w' P (List.replicate r 1) 2
theorem zdn {r v:Nat}(hr:r≤16):facP r (bp v) < bp (r * v+2):=by
 by_cases h0:r=0
 ·subst h0
  show(1:Int) < bp (0 * v+2)
  rw [Nat.zero_mul]
  decide
 ·have h1:=zdo (v:=v) (Nat.le_refl r) hr
  have h2:=ziG r (B:=bp v) (by have:=zD v;omega)
  have h3:=Int.mul_le_mul_of_nonneg_right (show(1:Int)≤(r:Int) by omega) h2
  omega
theorem zf8 {n:Nat}{hs:List (List Int)}{p:Nat→Nat}(F:FormL n hs p){A:Nat→Nat→Int}(hA:Equ hs.length A (dgM fun i=>(pivL hs p).getD i 0)):ChI hs.length (pivL hs p) (prodN hs.length (fun k=>ent hs k (p k))) A 0 1:=
 ⟨zcJ hs p,fun j hj=>by rw [zcb hs p j hj];exact F.form.pos j hj,zcc fun i hi=>zcb hs p i hi,fun i hi=>absurd hi (Nat.not_lt_zero i),fun j h1 h2=>absurd h2 (by omega),hA⟩
def SmithPost (w:World)(n:Nat)(ms:List (List Int))(e:Ending)(w':World):Prop:=
 ∃(P M:Nat) (ys:List Int) (hs fs:List (List Int)) (p:Nat→Nat) (D:Int),e=.returned (.tuple #[.slice (some ⟨P,0,none⟩) hs.length hs.length,.nilIface])∧FormL n hs p∧Alikes n (InL hs) (InL ms)∧VecO w w' P ys M∧ChI hs.length ys D (ent fs) hs.length (hs.length+1)∧TurnF n hs fs∧D < bp M∧(hs.length=n→D=diag n hs)∧M≤100000
def RoomS (n nv:Nat):Prop:=nbK n (n * nv+2) nv n≤100000∧∀ r,r≤n→nbK r (r *(n * nv+2)+2) (n * nv+2) r≤100000∧(r < n→nbK r (r *(r *(n * nv+2)+2)+2) (r *(n * nv+2)+2) r≤100000)
theorem zfN {n S0 nv B:Nat}(hn1:1≤n)(hN:nbK n S0 nv n≤B):S0≤B:=by
 have h1:nbK n S0 nv 1≤nbK n S0 nv n:=zcE hn1
 have h2:nbK n S0 nv 1=nv+(n - 0+1) *(S0+3):=rfl
 have h3:(n - 0+1) *(S0+3)=n *(S0+3)+(S0+3):=by rw [Nat.sub_zero,Nat.succ_mul]
 omega
theorem zkm (r v:Nat)(f:Nat→Int)(h:∀ i,i < r→0 < f i∧f i < bp v):0 < prodN r f∧prodN r f≤bp (r * v):=by
 induction r with
 | zero=>rw [Nat.zero_mul];exact⟨Int.zero_lt_one,Int.le_refl (1:Int)⟩
 | succ r ih=>
  obtain⟨h1,h2⟩:=ih fun i hi=>h i (by omega)
  obtain⟨h3,h4⟩:=h r (by omega)
  rw [prodN]
  refine⟨Int.mul_pos h1 h3,?_⟩
  rw [Nat.succ_mul,zbg]
  exact Int.mul_le_mul h2 (Int.le_of_lt h4) (Int.le_of_lt h3) (by have:=zD (r * v);omega)
theorem zcW (k:Nat):bp k < bp (k+2):=by
 have e:bp (k+2)=4294967296 *(4294967296 * bp k):=rfl
 have:=zD k
 rw [e];omega
theorem VecO.fit {w W:World}{P M N r low hi:Nat}{zs:List Int}{D:Int}{A:Nat→Nat→Int}(h:VecO w W P zs N)(C:ChI r zs D A low hi)(hD:D < bp M):VecO w W P zs M:=
 ⟨h.vec.tight fun j hj=>by
  have hj':j < r:=by rw [← C.len];exact hj
  have h1:=C.pos j hj';have h2:=C.one_le hj'
  unfold ab
  rw [if_neg (by omega)]
  omega,h.low,h.below,h.blk⟩
theorem zh3 {w:World}{v:Value}{hs:List (List Int)}{n N:Nat}(h:MatN w v hs N)(hl:∀ r∈hs,r.length=n):∀ us∈colsL hs n,∀ j,j < hs.length→absI (us.getD j 0)≤bp N:=fun us hus j hj=>by
 obtain⟨i,hi,rfl⟩:=List.mem_map.1 hus
 rw [List.mem_range] at hi
 rw [zbs _ _ _ hj,zp hj]
 exact Int.le_of_lt (h.abs _ (List.getElem_mem hj) i (by rw [hl _ (List.getElem_mem hj)];exact hi))
theorem zgJ {w:World}{v:Value}{H:List (List Int)}{r N M:Nat}(h:MatN w v H N)(S:Sq r H)(hD:diag r H < bp M):MatN w v H M:=h.tight fun zs hz j hj=>by
 obtain⟨k,hk,e⟩:=List.getElem_of_mem hz
 have hl:=S.form.len zs hz
 have h1:=S.ent_le (k:=k) (b:=j) (by rw [← S.len];exact hk) (by omega)
 unfold ent at h1
 rw [zp hk,e] at h1
 unfold ab
 rw [if_neg (by omega)]
 omega
theorem zf9 {n:Nat}{hs:List (List Int)}{p:Nat→Nat}(F:FormL n hs p)(hl:hs.length=n):prodN hs.length (fun k=>ent hs k (p k))=diag n hs:=by
 unfold diag
 rw [hl]
 exact zcc fun i hi=>by rw [zkZ F hl i hi]
set_option linter.unusedSimpArgs false in
set_option maxRecDepth 100000 in
set_option maxHeartbeats 3200000 in
theorem zkV (w:World)(v:Value)(ms:List (List Int))(n nv:Nat)(hv:MatN w v ms nv)(hr:∀ us∈ms,us.length=n)(hn1:1≤n)(hn:n≤8)(hm:ms.length≤12)(hR:RoomS n nv):
  Calls Tryz.prog 19 #[v,.int .i64 (n:Int)] w fun e w'=>SmithPost w n ms e w':=by
 have HC:=hide (zcZ w v ms n nv hv hn1 hn hm hr)
 have HV:=hide hv;have HR:=hide hr;have HRO:=hide hR
 obtain⟨ao,cap,rfl,-,-⟩:=hv
 clear hr hR
 go_enter Tryz.func19,Tryz.ntmps19
 go_wp2_with fail
 refine HC.out.mono ?_
 rintro e w1 ⟨rfl,hbe1⟩
 have HE1:=hide hbe1
 clear hbe1 HC
 go_wp2_with fail
 refine(zdN w1 _ ms n nv (HV.out.below HE1.out zL) HR.out hn1 (by omega) (by omega) HRO.out.1).mono ?_
 rintro e w2 ⟨u2,hs,p,rfl,h1,h2,h3,h4,h5⟩
 have HU2:=hide h1;have HF:=hide h4;have HA:=hide h5
 have HE2:=hide (HE1.out.trans (h3.mono HE1.out.size))
 obtain⟨ho,hcap,rfl,-,-⟩:=h1
 obtain⟨hr1,hr2⟩:=HRO.out.2 hs.length h2
 have HR1:=hide hr1
 clear h3 h5 HE1 hr1
 have HDN:Hid (hs.length=n→diag n hs < bp (n * nv+2)):=fun hl=>by
  have h6:=(zbB HF.out hl).bound HA.out HR.out (B:=bp nv) (by have:=zD nv;omega) (fun us hus j hj=>Int.le_of_lt (HV.out.abs us hus j (by rw [HR.out us hus];exact hj)))
  have h7:=zdn (r:=n) (v:=nv) (by omega)
  omega
 generalize hN0:n * nv+2=N0 at *
 have hN02:2≤N0:=by omega
 have hN03:N0≤100000:=zfN hn1 (by have:=HRO.out.1;rw [hN0] at this;exact this)
 obtain⟨M,hM2,hM3,HR2,HPB,HCB⟩:∃ M,2≤M∧M≤100000∧Hid (nbK hs.length (hs.length * M+2) M hs.length≤100000)∧Hid (prodN hs.length (fun k=>ent hs k (p k))≤bp (hs.length * N0)→prodN hs.length (fun k=>ent hs k (p k)) < bp M)∧Hid (∀ D:Int,D < bp (hs.length * N0+2)→(hs.length=n→D=diag n hs)→D < bp M):=by
  by_cases hl:hs.length=n
  ·refine⟨N0,hN02,hN03,?_,fun _=>?_,fun D _ h=>?_⟩
   ·exact HR1.out
   ·rw [zf9 HF.out hl];exact HDN.out hl
   ·rw [h hl];exact HDN.out hl
  ·have h8:=zcW (hs.length * N0)
   refine⟨hs.length * N0+2,by omega,?_,hr2 (by omega),fun h=>Int.lt_of_le_of_lt h h8,fun D h _=>h⟩
   by_cases h0:hs.length=0
   ·rw [h0];omega
   ·exact zfN (by omega) HR1.out
 obtain⟨WW,hWW⟩:∃ WW:Nat,WW=2 *(bp M).toNat+2:=⟨_,rfl⟩
 have HWW:=hide hWW
 clear hWW hN0 hr2 h4
 go_wp2
 go_loopg [7,8,29] (WW ^ hs.length) (fun gk u pl t wr=>(gk=WW ^ hs.length∧t=undef∧pl=.int .i64 n∧Hid (MatN wr u hs N0)∧Hid (Below w.heap.size w wr))∨(∃ H,t=.int .i64 (hs.length:Int)∧pl=.int .i64 (hs.length:Int)∧Hid (gk=muS WW hs.length H)∧Hid (MatN wr u H M)∧Hid (Sq hs.length H)∧Hid (diag hs.length H < bp M)∧Hid (hs.length=n→diag hs.length H=diag n hs)∧Hid (∃ gs,TurnF n hs gs∧(Equ hs.length (ent gs) (ent H)∨Equ hs.length (trM (ent gs)) (ent H)))∧Hid (Below w.heap.size w wr)))
 case atStart=>exact .inl ⟨rfl,rfl,rfl,HU2,HE2⟩
 case round=>
  clear HU2 HE2
  rcases hrel with⟨hgk,rfl,rfl,HU,HE⟩ |⟨H,rfl,rfl,HGK,HU,HSQ,HDI,HEQ,HTG,HE⟩
  ·have HGK:=hide hgk
   clear hgk
   have HPA:=hide (zgb wr _ n N0 hs p HU.out HF.out (by omega) (by omega))
   go_wp2_with fail
   refine HPA.out.mono ?_
   rintro e w3 ⟨r,rfl,hr,hb3⟩
   have HU3:=hide (HU.out.below hb3 zL)
   have HE3:=hide (HE.out.trans (hb3.mono HE.out.size))
   clear hb3 HPA HU HE
   cases r with
   | true=>
    obtain⟨gs,hgs,hge⟩:=zhl HF.out (hr.1 rfl)
    have HGS:=hide hgs
    have HCH:=hide (zf8 HF.out hge)
    clear hgs hge
    have HDB:Hid (prodN hs.length (fun k=>ent hs k (p k)) < bp M):=by
     have h3:=zkm hs.length N0 (fun k=>ent hs k (p k)) fun i hi=>by
      have h4:=HF.out.form.pos i hi
      have h5:=HU3.out.abs _ (List.getElem_mem hi) (p i) (by rw [HF.out.len _ (List.getElem_mem hi)];exact HF.out.form.lt i hi)
      have h6:0 < ent hs i (p i):=h4
      have h7:ent hs i (p i)=hs[i].getD (p i) 0:=by unfold ent;rw [zp hi]
      rw [← h7] at h5
      unfold ab at h5
      rw [if_neg (by omega)] at h5
      exact⟨h6,h5⟩
     exact HPB.out h3.2
    clear hr
    go_wp2_with fail
    refine(zgc w3 _ n N0 hs p HU3.out HF.out (by omega) (by omega)).mono ?_
    rintro e w4 ⟨P,rfl,hv4⟩
    rw [zcJ]
    have HV4:=hide ((hv4.fit HCH.out HDB.out).since HE3.out)
    clear hv4
    go_wp2_with fail
    refine(zeF w w4 P hs.length M _ _ _ HV4.out HCH.out HDB.out (by omega) hM2 hM3).mono ?_
    rintro e w5 ⟨ys,rfl,hv5,hc5⟩
    have HP:=hide (show SmithPost w n ms (.returned (.tuple #[.slice (some ⟨P,0,none⟩) hs.length hs.length,.nilIface])) w5 from⟨P,M,ys,hs,gs,p,_,rfl,HF.out,HA.out,hv5,hc5,HGS.out,HDB.out,fun h=>zf9 HF.out h,hM3⟩)
    clear hv5 hc5 HV4
    go_wp2
    go_ret2
    exact HP.out
   | false=>
    have hlen:1≤hs.length:=by
     by_cases h0:hs.length=0
     ·exact absurd (hr.2 fun i hi=>by omega) (by decide)
     ·omega
    clear hr
    obtain⟨uo,ucap,hu,-,-⟩:=HU3.out
    subst hu
    go_wp2_with fail
    refine(zgV w3 _ n N0 hs HU3.out HF.out.len (by omega) (by omega)).mono ?_
    rintro e w4 ⟨O,vs,ps,rfl,ho4,hp4⟩
    have HM4:=hide (ho4.mat (colsL hs n) (zQ hs n) (fun i hi=>by rw [hp4 i hi,zaR hs n i hi];rfl))
    have HE4:=hide (HE3.out.trans (ho4.low.mono HE3.out.size))
    clear ho4 hp4 HE3
    go_wp2_with fail
    refine(zdN w4 _ (colsL hs n) hs.length N0 HM4.out (zaS hs n) hlen (by omega) (by rw [zQ];omega) HR1.out).mono ?_
    rintro e w5 ⟨u5,fs,p5,rfl,g1,g2,g3,g4,g5⟩
    have hsq:Sq hs.length fs:=zbB g4 (zh4 HF.out g5 g2)
    have HSQ:=hide hsq
    have HTF:Hid (TurnF n hs fs):=⟨hsq.len,g4.len,hsq.free,g5⟩
    have HEQ:Hid (hs.length=n→diag hs.length fs=diag n hs):=fun hl=>by
     have s0:=zbB HF.out hl
     rw [hl] at g4 g5 ⊢
     exact(s0.step g4 g5).2
    have HDI:Hid (diag hs.length fs < bp M):=by
     have h1:=hsq.bound g5 (zaS hs n) (B:=bp N0) (by have:=zD N0;omega) (zh3 HU3.out HF.out.len)
     have h2:=zdn (r:=hs.length) (v:=N0) (by omega)
     exact HCB.out _ (by omega) HEQ.out
    have HU5:=hide (zgJ g1 hsq HDI.out)
    have HE5:=hide (HE4.out.trans (g3.mono HE4.out.size))
    clear g1 g2 g3 g4 g5 HE4 HM4 hsq
    go_wp2
    go_roundg (muS WW hs.length fs)
    case measure=>
     rw [HGK.out]
     refine zjg hs.length (zeP HSQ.out ?_)
     have h1:=HDI.out;have h2:=HWW.out;have h3:=HSQ.out.one_le
     omega
    case rel=>exact .inr ⟨fs,rfl,rfl,hide rfl,HU5,HSQ,HDI,HEQ,⟨fs,HTF.out,.inl (.refl _)⟩,HE5⟩
  ·have HID:=hide HSQ.out.form
   have HIL:=hide HSQ.out.len
   have HPA:=hide (zgb wr _ hs.length M H (fun k=>k) HU.out HID.out (by omega) (by rw [HIL.out];omega))
   go_wp2_with fail
   refine HPA.out.mono ?_
   rintro e w3 ⟨r,rfl,hr,hb3⟩
   have HU3:=hide (HU.out.below hb3 zL)
   have HE3:=hide (HE.out.trans (hb3.mono HE.out.size))
   clear hb3 HPA HU HE
   cases r with
   | true=>
    obtain⟨gs,hgs,hge⟩:=HTG.out
    have HTF:=hide hgs
    have hge2:=ziD HSQ.out (fun k hk=>hr.1 rfl k (by rw [HIL.out];exact hk)) hge
    clear hgs hge
    have hch:=zf8 HID.out (A:=ent gs) (by rw [HIL.out];exact hge2)
    rw [HIL.out] at hch
    have HCH:=hide hch
    clear hr hch hge2
    go_wp2_with fail
    refine(zgc w3 _ hs.length M H (fun k=>k) HU3.out HID.out (by omega) (by rw [HIL.out];omega)).mono ?_
    rintro e w4 ⟨P,rfl,hv4⟩
    rw [zcJ,HIL.out]
    have HV4:=hide (hv4.since HE3.out)
    clear hv4
    go_wp2_with fail
    refine(zeF w w4 P hs.length M _ _ _ HV4.out HCH.out HDI.out (by omega) hM2 hM3).mono ?_
    rintro e w5 ⟨ys,rfl,hv5,hc5⟩
    have HP:=hide (show SmithPost w n ms (.returned (.tuple #[.slice (some ⟨P,0,none⟩) hs.length hs.length,.nilIface])) w5 from⟨P,M,ys,hs,gs,p,_,rfl,HF.out,HA.out,hv5,hc5,HTF.out,HDI.out,HEQ.out,hM3⟩)
    clear hv5 hc5 HV4
    go_wp2
    go_ret2
    exact HP.out
   | false=>
    have HNO:Hid (¬ ∀ k,k < hs.length→rowAl hs.length H k):=fun h=>by
     have:=hr.2 fun i hi b h1 h2=>h i (by rw [← HIL.out];exact hi) b h1 h2
     cases this
    have hlen:1≤hs.length:=by
     by_cases h0:hs.length=0
     ·exact absurd (fun k hk=>by omega) HNO.out
     ·omega
    clear hr
    obtain⟨uo,ucap,hu,-,-⟩:=HU3.out
    subst hu
    go_wp2_with fail
    refine(zgV w3 _ hs.length M H HU3.out HID.out.len (by omega) (by rw [HIL.out];omega)).mono ?_
    rintro e w4 ⟨O,vs,ps,rfl,ho4,hp4⟩
    have HM4:=hide (ho4.mat (colsL H hs.length) (zQ H hs.length) (fun i hi=>by rw [hp4 i hi,zaR H hs.length i hi];rfl))
    have HE4:=hide (HE3.out.trans (ho4.low.mono HE3.out.size))
    clear ho4 hp4 HE3
    go_wp2_with fail
    rw [HIL.out]
    refine(zdN w4 _ (colsL H hs.length) hs.length M HM4.out (fun us h=>by rw [zaS H hs.length us h,HIL.out]) hlen (by omega) (by rw [zQ];omega) HR2.out).mono ?_
    rintro e w5 ⟨u5,fs,p5,rfl,g1,g2,g3,g4,g5⟩
    obtain⟨s1,s2⟩:=HSQ.out.step g4 g5
    have HS1:=hide s1
    have HTG1:=hide (ziE HSQ.out s1 g5 HTG.out)
    have HMU:Hid (muS WW hs.length fs < muS WW hs.length H):=zjQ HSQ.out s1 s2 g5 (by have h1:=HDI.out;have h2:=HWW.out;have h3:=HSQ.out.one_le;omega) HNO.out
    have HD1:Hid (diag hs.length fs < bp M):=by show _ < _;rw [s2];exact HDI.out
    have HEQ1:Hid (hs.length=n→diag hs.length fs=diag n hs):=fun h=>by rw [s2];exact HEQ.out h
    have HU5:=hide (zgJ g1 s1 HD1.out)
    have HE5:=hide (HE4.out.trans (g3.mono HE4.out.size))
    clear g1 g2 g3 g4 g5 HE4 HM4 s1 s2
    go_wp2
    go_roundg (muS WW hs.length fs)
    case measure=>rw [HGK.out];exact HMU.out
    case rel=>exact .inr ⟨fs,rfl,rfl,hide rfl,HU5,HS1,HD1,HEQ1,HTG1,HE5⟩
def muchM (hs ks:List (List Int))(p:Nat→Nat):List (List Int):=hs.map (muchL ks p)
theorem za9 (hs ks:List (List Int))(p:Nat→Nat):(muchM hs ks p).length=hs.length:=by simp [muchM]
theorem za8 (hs ks:List (List Int))(p:Nat→Nat):∀ r∈muchM hs ks p,r.length=ks.length:=fun r hr=>by
 obtain⟨u,-,rfl⟩:=List.mem_map.1 hr
 exact zaZ ks p u
theorem zjR (hs ks:List (List Int))(p:Nat→Nat)(i:Nat)(hi:i < hs.length):(muchM hs ks p).getD i []=muchL ks p (hs.getD i []):=by
 rw [zp (by rw [za9];exact hi),zp hi]
 simp [muchM]
section
variable {n:Nat}{hs ks:List (List Int)}{ph pk:Nat→Nat}
theorem zdK (G:FormL n ks pk)(hl:∀ r∈hs,r.length=n)(hin:∀ r∈hs,Gens n (InL ks) r)(i b:Nat)(hi:i < hs.length)(hb:b < n):ent hs i b=sumN ks.length (fun k=>ent (muchM hs ks pk) i k * ent ks k b):=by
 have hm:hs.getD i []∈hs:=zr hi
 have:=zfM G (hl _ hm) (zx (hin _ hm)) b hb
 unfold ent
 rw [this,zjR hs ks pk i hi]
theorem zjS (F:FormL n hs ph)(G:FormL n ks pk)(hin:∀ r∈hs,Gens n (InL ks) r){fa:List (List Int)}{pa:Nat→Nat}(A:FormL ks.length fa pa)(a:Alikes ks.length (InL fa) (InL (muchM hs ks pk))):fa.length=hs.length:=by
 have h1:=zfd A a
 rw [za9] at h1
 obtain⟨T,hT⟩:=zJ (r:=hs.length) (n:=ks.length) (mm:=fa.length) (H:=ent (muchM hs ks pk)) (M:=ent fa) fun i hi=>by
  have hm:(muchM hs ks pk).getD i []∈muchM hs ks pk:=zr (by rw [za9];exact hi)
  exact zx ((a _).2 (.base hm (za8 hs ks pk _ hm)))
 have h2:=zbx hs.length fa.length n (ent hs) (fun k b=>sumN ks.length (fun j=>ent fa k j * ent ks j b)) T ph F.form.lt (fun i k hi hki=>F.form.zero i (ph k) hi (F.form.inc k i hki hi)) (fun i hi=>F.form.pos i hi)
  (fun i b hi hb=>by
   rw [zdK G F.len hin i b hi hb]
   have e1:sumN ks.length (fun k=>ent (muchM hs ks pk) i k * ent ks k b)=sumN ks.length (fun k=>sumN fa.length (fun j=>T i j *(ent fa j k * ent ks k b))):=zg fun k hk=>by
    rw [hT i k hi hk,Int.mul_comm,← zC]
    exact zg fun j _=>by rw [Int.mul_comm,Int.mul_assoc]
   rw [e1,zaG]
   exact zg fun j _=>by rw [zC])
 omega
theorem zeT {r:Nat}{A fa:List (List Int)}(hA:A.length=r)(hl:∀ u∈A,u.length=r)(S:Sq r fa)(a:Alikes r (InL fa) (InL A)):absI (det r (ent A))=diag r fa:=by
 obtain⟨C,hC⟩:=zJ (r:=r) (n:=r) (mm:=r) (H:=ent fa) (M:=ent A) fun k hk=>by
  have hm:fa.getD k []∈fa:=zr (by rw [S.len];exact hk)
  have g:=zx ((a _).1 (.base hm (S.form.len _ hm)))
  rw [hA] at g
  exact g
 obtain⟨T,hT⟩:=zJ (r:=r) (n:=r) (mm:=r) (H:=ent A) (M:=ent fa) fun k hk=>by
  have hm:A.getD k []∈A:=zr (by rw [hA];exact hk)
  have g:=zx ((a _).2 (.base hm (hl _ hm)))
  rw [S.len] at g
  exact g
 have d1:det r (ent fa)=diag r fa:=zaB r _ fun i b hi hb=>S.low hi hb
 have e1:diag r fa=det r C * det r (ent A):=by
  rw [← d1,← zaA]
  exact zm fun x y hx hy=>hC x y hx hy
 have e2:det r (ent A)=det r T * diag r fa:=by
  rw [← d1,← zaA]
  exact zm fun x y hx hy=>hT x y hx hy
 have o:=S.one_le
 have a1:=congrArg absI e1;have a2:=congrArg absI e2
 rw [zaj,zad (show 0≤diag r fa by omega)] at a1 a2
 have n1:=zak (det r C);have n2:=zak (det r T);have n3:=zak (det r (ent A))
 have c1:1≤absI (det r C):=by
  rcases Int.lt_or_eq_of_le n1 with h | h
  ·omega
  ·rw [← h,Int.zero_mul] at a1;omega
 have hA1:1≤absI (det r (ent A)):=by
  rcases Int.lt_or_eq_of_le n3 with h | h
  ·omega
  ·rw [← h,Int.mul_zero] at a1;omega
 have c2:1≤absI (det r T):=by
  rcases Int.lt_or_eq_of_le n2 with h | h
  ·omega
  ·rw [← h,Int.zero_mul] at a2;omega
 have g1:=Int.mul_le_mul_of_nonneg_right c1 n3
 have g2:=Int.mul_le_mul_of_nonneg_right c2 (show 0≤diag r fa by omega)
 omega
end
theorem zhb (n:Nat)(f g:Nat→Int)(h:∀ i,i < n→absI (f i)≤g i):absI (sumN n f)≤sumN n g:=by
 induction n with
 | zero=>exact Int.le_refl _
 | succ n ih=>
  have h1:=ih fun i hi=>h i (by omega)
  have h2:=h n (by omega)
  have h3:=zcT (sumN n f) (f n)
  show absI (sumN n f+f n)≤sumN n g+g n
  omega
theorem zk6 (k:Nat)(B:Int):sumN k (fun j=>2 ^ j * B)=2 ^ k * B - B:=by
 induction k with
 | zero=>show(0:Int)=2 ^ 0 * B - B;rw [Int.pow_zero,Int.one_mul];omega
 | succ k ih=>
  show sumN k (fun j=>2 ^ j * B)+2 ^ k * B=2 ^ (k+1) * B - B
  rw [ih,Int.pow_succ,Int.mul_comm (2 ^ k) 2,Int.mul_assoc]
  omega
theorem zfK {n:Nat}{ks:List (List Int)}{pk:Nat→Nat}(G:FormL n ks pk){zs:List Int}(hz:zs.length=n)(hin:Gens n (InL ks) zs){B:Int}(hB:∀ b,b < n→absI (zs.getD b 0)≤B)(k:Nat)(hk:k < ks.length):absI ((muchL ks pk zs).getD k 0)≤2 ^ k * B:=by
 induction k using Nat.strongRecOn with
 | _ k ih=>
  have hs:=zfM G hz (zx hin) (pk k) (G.form.lt k hk)
  have hq:=G.form.pos k hk
  rw [show ks.length=(k+1)+(ks.length - (k+1)) by omega,zgO (k+1) _ _ fun j h1 h2=>by
   have:(ks.getD j []).getD (pk k) 0=0:=G.form.zero j (pk k) (by omega) (G.form.inc k j (by omega) (by omega))
   rw [this,Int.mul_zero]] at hs
  have e1:sumN (k+1) (fun j=>(muchL ks pk zs).getD j 0 *(ks.getD j []).getD (pk k) 0)=sumN k (fun j=>(muchL ks pk zs).getD j 0 *(ks.getD j []).getD (pk k) 0)+(muchL ks pk zs).getD k 0 *(ks.getD k []).getD (pk k) 0:=rfl
  rw [e1] at hs
  have hB0:=hB (pk k) (G.form.lt k hk)
  have hBn:0≤B:=Int.le_trans (zak _) hB0
  generalize hqq:(ks.getD k []).getD (pk k) 0=q at *
  have hlow:absI (sumN k (fun j=>(muchL ks pk zs).getD j 0 *(ks.getD j []).getD (pk k) 0))≤(2 ^ k * B - B) * q:=by
   refine Int.le_trans (zhb k _ (fun j=>q *(2 ^ j * B)) fun j hj=>?_) ?_
   ·rw [zaj]
    have h1:=ih j hj (by omega)
    have h2:=G.form.red j k hj hk
    rw [hqq] at h2
    rw [zad h2.1,Int.mul_comm q]
    exact Int.mul_le_mul h1 (Int.le_of_lt h2.2) h2.1 (Int.le_trans (zak _) h1)
   ·rw [zC,zk6,Int.mul_comm];exact Int.le_refl _
  have e2:(muchL ks pk zs).getD k 0 * q=zs.getD (pk k) 0+-(sumN k (fun j=>(muchL ks pk zs).getD j 0 *(ks.getD j []).getD (pk k) 0)):=by omega
  have h3:=zcT (zs.getD (pk k) 0) (-(sumN k (fun j=>(muchL ks pk zs).getD j 0 *(ks.getD j []).getD (pk k) 0)))
  rw [← e2,zaj,zaK,zad (Int.le_of_lt hq)] at h3
  have h4:B≤B * q:=by
   have:=Int.mul_le_mul_of_nonneg_left (show 1≤q by omega) hBn
   omega
  have h5:absI ((muchL ks pk zs).getD k 0) * q≤2 ^ k * B * q:=by
   rw [Int.sub_mul] at hlow
   omega
  exact Int.le_of_mul_le_mul_right h5 hq
def prodL:List Int→Int
 | []=>1
 | x :: t=>x * prodL t
theorem zkk (l:List Int)(x:Int):prodL (l ++ [x])=prodL l * x:=by
 induction l with
 | nil=>show x * 1=1 * x;rw [Int.mul_one,Int.one_mul]
 | cons y t ih=>show y * prodL (t ++ [x])=y * prodL t * x;rw [ih,Int.mul_assoc]
theorem zkl (l:List Int)(k:Nat)(hk:k≤l.length):prodN k (fun j=>l.getD j 0)=prodL (l.take k):=by
 induction k with
 | zero=>rfl
 | succ k ih=>
  rw [prodN,ih (by omega),List.take_succ_eq_append_getElem (by omega),zkk,List.getD_eq_getElem?_getD,List.getElem?_eq_getElem (by omega),Option.getD_some]
theorem zki (l:List Int)(h:∀ x∈l,0 < x):prodL (l.filter fun y=>decide (1 < y))=prodL l:=by
 induction l with
 | nil=>rfl
 | cons x t ih=>
  have h0:=h x (by simp)
  have h1:=ih fun y hy=>h y (by simp [hy])
  by_cases e:1 < x
  ·rw [List.filter_cons_of_pos (by simpa using e)]
   show x * prodL _=x * prodL t
   rw [h1]
  ·obtain rfl:x=1:=by omega
   rw [List.filter_cons_of_neg (by simp)]
   show prodL _=1 * prodL t
   rw [h1,Int.one_mul]
end Go.Proofs.YtdedolkgcdlmeaaGreatDoor
