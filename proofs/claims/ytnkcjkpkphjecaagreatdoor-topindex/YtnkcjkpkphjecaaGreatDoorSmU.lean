import Derived.Test.YtnkcjkpkphjecaaGreatDoorKerT
import Derived.Test.YtnkcjkpkphjecaaGreatDoorBeside
import Derived.Test.YtnkcjkpkphjecaaGreatDoorGrowV
import Derived.Test.YtnkcjkpkphjecaaGreatDoorFold
import Derived.Test.YtnkcjkpkphjecaaGreatDoorVecW
import Derived.Test.YtnkcjkpkphjecaaGreatDoorSmT
namespace Go.Proofs.YtnkcjkpkphjecaaGreatDoor
open Go.RowKit Limbs
theorem VecN.drop0 {W:World}{b off cap:Nat}{us:List Int}{nv n m:Nat}(h:VecN W (.slice (some ⟨b,off,none⟩) us.length cap) us nv)(hn:n+m=us.length):VecN W (.slice (some ⟨b,off+n * 2,none⟩) m (cap - n)) (us.drop n) nv:=by
 by_cases hm:0 < m
 ·exact h.drop hn hm
 ·have hl:(us.drop n).length=m:=by rw [List.length_drop];omega
  exact⟨_,_,by rw [hl],by rw [hl];omega,fun h0=>absurd h0 (by rw [hl];exact hm)⟩
def aloneTo (hs:List (List Int))(p:Nat→Nat)(n k:Nat):Prop:=∀ i,i < k→∀ b,p i < b→b < n→ent hs i b=0
theorem zg1 {us:List Int}{f n:Nat}(hl:us.length=n):first (us.drop (f+1)) < 0↔∀ b,f < b→b < n→us.getD b 0=0:=by
 rw [zdr]
 constructor
 ·intro h b h1 h2
  have:=h (b - (f+1)) (by rw [List.length_drop];omega)
  rw [zbH,show f+1+(b - (f+1))=b by omega] at this
  exact this
 ·intro h b hb
  rw [List.length_drop] at hb
  rw [zbH]
  exact h _ (by omega) (by omega)
set_option linter.unusedSimpArgs false in
set_option maxRecDepth 100000 in
set_option maxHeartbeats 3200000 in
theorem zfX (w:World)(va:Value)(n nv:Nat)(hs:List (List Int))(p:Nat→Nat)(ha:MatN w va hs nv)(F:FormL n hs p)(hn:n≤100)(hm:hs.length≤100):
  Calls Tryz.prog 66 #[va] w fun e w'=>∃ r:Bool,e=.returned (.bool r)∧(r=true↔aloneTo hs p n hs.length)∧Below w.heap.size w w':=by
 have HA:=hide ha;have HF:=hide F
 obtain⟨ao,acap,rfl,-,-⟩:=ha
 clear F
 go_enter Tryz.func66,Tryz.ntmps66
 go_wp2
 go_loopw [6] (fun x wr=>∃ k:Nat,k≤hs.length∧x=.int .i64 k∧Hid (aloneTo hs p n k)∧Hid (Below w.heap.size w wr)) (fun x _=>hs.length - (intOf x).toNat)
 case atStart=>exact⟨0,Nat.zero_le _,rfl,hide (fun i hi=>absurd hi (Nat.not_lt_zero i)),hide (Below.refl _ _)⟩
 case round=>
  obtain⟨k,hk,rfl,HAL,HBE⟩:=hrel
  by_cases hkl:k < hs.length
  ·obtain⟨rb,roff,_,e,lr,ru,cu,hru⟩:=HA.out.at k hkl
   simp only [Value.slice.injEq,true_and] at e
   obtain⟨rfl,rfl⟩:=e
   have hul:hs[k].length=n:=HF.out.len _ (List.getElem_mem hkl)
   obtain⟨hf1,hf2,hf3⟩:=HF.out.first hkl
   have HE:Hid (∀ b,ent hs k b=hs[k].getD b 0):=fun b=>by unfold ent;rw [zk hkl]
   have hpn:p k < n:=hf2
   generalize hs[k]=us at *
   obtain⟨vb,voff,vcap,rfl⟩:=hru.form (by omega)
   have hcap:n≤vcap:=by
    obtain⟨_,_,e,h1,-⟩:=hru
    simp only [Value.slice.injEq,true_and] at e
    omega
   have HU:=hide ((hru.below HBE.out zL).below (Below.refl wr.heap.size wr).drew zL)
   have HD:Hid (VecN wr.drew (.slice (if vcap=p k+1 then some ⟨vb,voff,none⟩ else some ⟨vb,voff+(p k+1) * 2,none⟩) (n - (p k+1)) (vcap - (p k+1))) (us.drop (p k+1)) nv):=by
    by_cases hvc:vcap=p k+1
    ·rw [if_pos hvc]
     have hl:(us.drop (p k+1)).length=n - (p k+1):=by rw [List.length_drop];omega
     exact⟨_,_,by rw [hl],by rw [hl];omega,fun h0=>absurd h0 (by rw [hl];omega)⟩
    ·rw [if_neg hvc]
     exact HU.out.drop0 (n:=p k+1) (m:=n - (p k+1)) (by omega)
   have HDL:Hid ((us.drop (p k+1)).length≤100):=by
    show _≤_
    rw [List.length_drop];omega
   have HAD:=hide (zg1 (us:=us) (f:=p k) hul)
   have c1:=(HBE.out.cell (p:=⟨rb,roff+k,none⟩) lr).trans cu
   have HFI:=hide (zbg wr.drew _ us nv HU.out (by omega))
   rw [hf1,hul] at HFI
   have hrb:rb < wr.heap.size:=zT lr HBE.out.size
   rw [hul] at c1
   clear hru cu hf1 hf2 hf3 hul HU
   generalize hpk:p k=f at *
   obtain⟨f1,hf1⟩:∃ f1:Nat,f1=f+1:=⟨_,rfl⟩
   have g1:f1≤n:=by omega
   have g2:IntKind.i64.wrap ((f:Int)+1)=(f1:Int):=by rw [IntKind.wrap_i64];omega
   rw [← hf1] at HD HAD HDL
   have HF1:=hide hf1;have HPK:=hide hpk
   clear hf1 hpk
   go_wp2_with fail
   refine zp (S:=(fun w'=>w'.cell? ⟨rb,roff+k,none⟩=some (.slice (some ⟨vb,voff,none⟩) n vcap))) (k:=13) (by kernel_rfl) (by exact c1) (fun hHeld=>?_)
   refine zc (v:=?_) 0 9 [] rfl rfl (by kernel_rfl) (by kernel_rfl) (by kernel_rfl) (by kernel_rfl) (by kernel_rfl) (fun _ _ _ h=>h) (by rfl) ?_ (by assumption) ?_
   rotate_left
   ·(intro w hSw;(try dsimp only at hSw);go_simp;with_reducible rfl)
   try simp only [zA]
   refine zc (v:=?_) 1 10 [] rfl rfl (by kernel_rfl) (by kernel_rfl) (by kernel_rfl) (by kernel_rfl) (by kernel_rfl) (fun _ _ _ h=>h) (by rfl) ?_ (by assumption) ?_
   rotate_left
   ·(intro w hSw;(try dsimp only at hSw);go_simp;with_reducible rfl)
   try simp only [zA]
   refine zc (v:=?_) 2 11 [] rfl rfl (by kernel_rfl) (by kernel_rfl) (by kernel_rfl) (by kernel_rfl) (by kernel_rfl) (fun _ _ _ h=>h) (by rfl) ?_ (by assumption) ?_
   rotate_left
   ·(intro w hSw;(try dsimp only at hSw);go_simp;with_reducible rfl)
   try simp only [zA]
   refine zc (v:=?_) 3 12 [] rfl rfl (by kernel_rfl) (by kernel_rfl) (by kernel_rfl) (by kernel_rfl) (by kernel_rfl) (fun _ _ _ h=>h) (by rfl) ?_ (by assumption) ?_
   rotate_left
   ·(intro w hSw;(try dsimp only at hSw);go_simp;with_reducible rfl)
   try simp only [zA]
   refine zc (v:=?_) 4 13 [] rfl rfl (by kernel_rfl) (by kernel_rfl) (by kernel_rfl) (by kernel_rfl) (by kernel_rfl) (fun _ _ _ h=>h) (by rfl) ?_ (by assumption) ?_
   rotate_left
   ·(intro w hSw;(try dsimp only at hSw);go_simp;with_reducible rfl)
   try simp only [zA]
   refine zc (v:=?_) 5 14 [] rfl rfl (by kernel_rfl) (by kernel_rfl) (by kernel_rfl) (by kernel_rfl) (by kernel_rfl) (fun _ _ _ h=>h) (by rfl) ?_ (by assumption) ?_
   rotate_left
   ·(intro w hSw;(try dsimp only at hSw);go_simp;with_reducible rfl)
   try simp only [zA]
   refine zc (v:=?_) 6 15 [] rfl rfl (by kernel_rfl) (by kernel_rfl) (by kernel_rfl) (by kernel_rfl) (by kernel_rfl) (fun _ _ _ h=>h) (by rfl) ?_ (by assumption) ?_
   rotate_left
   ·(intro w hSw;(try dsimp only at hSw);go_simp;with_reducible rfl)
   try simp only [zA]
   refine zc (v:=?_) 7 16 [] rfl rfl (by kernel_rfl) (by kernel_rfl) (by kernel_rfl) (by kernel_rfl) (by kernel_rfl) (fun _ _ _ h=>h) (by rfl) ?_ (by assumption) ?_
   rotate_left
   ·(intro w hSw;(try dsimp only at hSw);go_simp;with_reducible rfl)
   try simp only [zA]
   refine zf 8 (by kernel_rfl) rfl (fun K hK=>?_)
   go_simp
   refine HFI.out.mono ?_
   rintro e w1 ⟨rfl,hb1⟩
   have hb1':Below wr.heap.size wr w1:=(Below.refl _ _).drew.trans hb1
   have c2:=(hb1'.cell (p:=⟨rb,roff+k,none⟩) hrb).trans c1
   have HD1:=hide (HD.out.below hb1 zL)
   have HB1:=hide (HBE.out.trans (hb1'.mono HBE.out.size))
   clear hb1 hb1' HFI HD
   go_wp2_with fail
   refine hK.out _ _ (fun _=>c2) ?_
   clear hK K hHeld
   try simp only [zA]
   have hHeld1:(fun w'=>w'.cell? ⟨rb,roff+k,none⟩=some (.slice (some ⟨vb,voff,none⟩) n vcap)) w1:=c2
   refine zc (v:=?_) 9 18 [] rfl rfl (by kernel_rfl) (by kernel_rfl) (by kernel_rfl) (by kernel_rfl) (by kernel_rfl) (fun _ _ _ h=>h) (by rfl) ?_ (by assumption) ?_
   rotate_left
   ·(intro w hSw;(try dsimp only at hSw);go_simp;with_reducible rfl)
   try simp only [zA]
   refine zc (v:=?_) 10 19 [] rfl rfl (by kernel_rfl) (by kernel_rfl) (by kernel_rfl) (by kernel_rfl) (by kernel_rfl) (fun _ _ _ h=>h) (by rfl) ?_ (by assumption) ?_
   rotate_left
   ·(intro w hSw;(try dsimp only at hSw);go_simp;with_reducible rfl)
   try simp only [zA]
   generalize (if vcap=f1 then some (⟨vb,voff,none⟩:Addr) else some ⟨vb,voff+f1 * 2,none⟩)=ad at *
   refine zf 11 (by kernel_rfl) rfl (fun K hK=>?_)
   go_simp
   refine(zgH w1 _ _ nv (by exact HD1.out) (by have:=HDL.out;omega)).mono ?_
   rintro e w2 ⟨rfl,hb2⟩
   have c3:=(hb2.cell (p:=⟨rb,roff+k,none⟩) (zT lr HB1.out.size)).trans c2
   have HB2:=hide (HB1.out.trans (hb2.mono HB1.out.size))
   clear hb2
   go_wp2_with fail
   refine hK.out _ _ (fun _=>c3) ?_
   clear hK K hHeld1
   try simp only [zA]
   have hHeld2:(fun w'=>w'.cell? ⟨rb,roff+k,none⟩=some (.slice (some ⟨vb,voff,none⟩) n vcap)) w2:=c3
   refine zc (v:=?_) 12 21 [] rfl rfl (by kernel_rfl) (by kernel_rfl) (by kernel_rfl) (by kernel_rfl) (by kernel_rfl) (fun _ _ _ h=>h) (by rfl) ?_ (by assumption) ?_
   rotate_left
   ·(intro w hSw;(try dsimp only at hSw);go_simp;with_reducible rfl)
   try simp only [zA]
   refine zl (by kernel_rfl) ?_
   clear c1 c2 c3 hHeld2 HB1 HD1
   generalize hbz:decide (first (us.drop f1) < 0)=bz
   cases bz with
   | true=>
    have HAL':Hid (aloneTo hs p n (k+1)):=fun i hi b h1 h2=>by
     by_cases e:i=k
     ·subst e
      rw [HE.out b]
      exact HAD.out.1 (of_decide_eq_true hbz) b (by have:=HPK.out;omega) h2
     ·exact HAL.out i (by omega) b h1 h2
    clear hbz
    go_wp2
    go_roundw
    case rel=>exact⟨k+1,by omega,by go_num,HAL',HB2⟩
    case measure=>simp [intOf];omega
   | false=>
    have HNO:Hid (¬ aloneTo hs p n hs.length):=fun h=>of_decide_eq_false hbz (HAD.out.2 fun b h1 h2=>by
     have:=h k hkl b (by have:=HPK.out;omega) h2
     rwa [HE.out b] at this)
    clear hbz
    go_wp2
    go_ret
    exact⟨false,rfl,⟨fun h=>(by cases h),fun h=>absurd h HNO.out⟩,HB2.out⟩
  ·obtain rfl:k=hs.length:=by omega
   go_wp2
   go_ret
   exact⟨true,rfl,⟨fun _=>HAL.out,fun _=>rfl⟩,HBE.out⟩
def pivL (hs:List (List Int))(p:Nat→Nat):List Int:=(List.range hs.length).map fun k=>ent hs k (p k)
theorem zcK (hs:List (List Int))(p:Nat→Nat):(pivL hs p).length=hs.length:=by simp [pivL]
theorem zbU (hs:List (List Int))(p:Nat→Nat)(k:Nat)(hk:k < hs.length):(pivL hs p).getD k 0=ent hs k (p k):=zam _ _ k hk
theorem zjZ (m:Nat)(hm:m≤1000)(W:World):(Instr.makeSlice 52 (.int .i64 (m:Int)) (.int .i64 (m:Int))).run Tryz.prog W=.ok (.slice (some ⟨W.heap.size,0,none⟩) m m) (W.alloc (.cells (madeCells #[.bool false,.slice none 0 0] (m * 2)) 42)):=by
 obtain⟨i0,hi,hz0,hz1,hz2⟩:=info_parts Tryz.infoNum
 have h:=run_make (P:=Tryz.prog) W 52 42 i0 (.agg #[.bool false,.slice none 0 0]) (by kernel_rfl) hi hz0 .i64 .i64 m m (by omega) (by omega) (by rw [hz2];omega) (by omega)
 rw [hz1,Int.toNat_natCast] at h
 exact h
set_option linter.unusedSimpArgs false in
set_option maxRecDepth 100000 in
set_option maxHeartbeats 3200000 in
theorem zfY (w:World)(va:Value)(n nv:Nat)(hs:List (List Int))(p:Nat→Nat)(ha:MatN w va hs nv)(F:FormL n hs p)(hn:n≤100)(hm:hs.length≤100):
  Calls Tryz.prog 69 #[va] w fun e w'=>VecPost w (pivL hs p) nv e w':=by
 have HA:=hide ha;have HF:=hide F
 obtain⟨ao,acap,rfl,-,-⟩:=ha
 have hpl:=zcK hs p
 have hmk:=zjZ hs.length (by omega)
 have HI:=hide (VecO.made w w (Below.refl _ _) (pivL hs p).length nv)
 rw [hpl] at HI
 clear F
 go_enter Tryz.func69,Tryz.ntmps69
 go_wp2
 clear hmk
 go_loopw [10] (fun x wr=>∃ k:Nat,k≤hs.length∧x=.int .i64 k∧Hid (VecO w wr w.heap.size ((pivL hs p).take k ++ List.replicate ((pivL hs p).length - k) 0) nv)) (fun x _=>hs.length - (intOf x).toNat)
 case atStart=>exact⟨0,Nat.zero_le _,rfl,hide (by rw [hpl];exact HI.out)⟩
 case round=>
  clear HI
  obtain⟨k,hk,rfl,HI⟩:=hrel
  by_cases hkl:k < hs.length
  ·obtain⟨rb,roff,_,e,lr,ru,cu,hru⟩:=HA.out.at k hkl
   simp only [Value.slice.injEq,true_and] at e
   obtain⟨rfl,rfl⟩:=e
   have hul:hs[k].length=n:=HF.out.len _ (List.getElem_mem hkl)
   obtain⟨hf1,hf2,hf3⟩:=HF.out.first hkl
   have hz:(pivL hs p).getD k 0=hs[k].getD (p k) 0:=by rw [zbU hs p k hkl];unfold ent;rw [zk hkl]
   have HFS:=hide (zaQ (pivL hs p) k (by omega))
   rw [hz] at HFS
   have hfl:=zaE (pivL hs p) k (by omega)
   clear hz
   generalize hs[k]=us at *
   obtain⟨vb,voff,vcap,rfl⟩:=hru.form (by omega)
   obtain⟨lv,neg,lo,ll,lc,z0,z1,nz⟩:=hru.at (p k) (by omega)
   have hb0:=HI.out.below
   have HU:=hide ((hru.below hb0 zL).below (Below.refl wr.heap.size wr).drew zL)
   have c1:=(hb0.cell (p:=⟨rb,roff+k,none⟩) lr).trans cu
   have c2:=(hb0.cell (p:=⟨vb,voff+p k * 2,none⟩) lv).trans z0
   have c3:=(hb0.cell (p:=⟨vb,voff+p k * 2+1,none⟩) lv).trans z1
   have HNZ:=hide (nz.below hb0 zL)
   have HFI:=hide (zbg wr.drew _ us nv HU.out (by omega))
   rw [hf1,hul] at HFI
   have hrb:rb < wr.heap.size:=zT lr hb0.size
   have hvb:vb < wr.heap.size:=zT lv hb0.size
   rw [hul] at c1
   have hpn:p k < n:=hf2
   clear hru cu z0 z1 nz hf1 hf2 hf3 hul HU hb0
   generalize us.getD (p k) 0=z at *
   generalize hpk:p k=f at *
   go_wp2_with fail
   refine zp (S:=(fun w'=>w'.cell? ⟨rb,roff+k,none⟩=some (.slice (some ⟨vb,voff,none⟩) n vcap)∧w'.cell? ⟨vb,voff+f * 2,none⟩=some (.bool neg)∧w'.cell? ⟨vb,voff+f * 2+1,none⟩=some (.slice lo ll lc))) (k:=14) (by kernel_rfl) (by exact⟨c1,c2,c3⟩) (fun hHeld=>?_)
   refine zc (v:=?_) 0 13 [14] rfl rfl (by kernel_rfl) (by kernel_rfl) (by kernel_rfl) (by kernel_rfl) (by kernel_rfl) (fun _ _ _ h=>h) (by rfl) ?_ (by assumption) ?_
   rotate_left
   ·(intro w hSw;(try dsimp only at hSw);obtain⟨hS1,hS2,hS3⟩:=hSw;go_simp;with_reducible rfl)
   try simp only [zA]
   refine zc (v:=?_) 1 14 [14] rfl rfl (by kernel_rfl) (by kernel_rfl) (by kernel_rfl) (by kernel_rfl) (by kernel_rfl) (fun _ _ _ h=>h) (by rfl) ?_ (by assumption) ?_
   rotate_left
   ·(intro w hSw;(try dsimp only at hSw);obtain⟨hS1,hS2,hS3⟩:=hSw;go_simp;with_reducible rfl)
   try simp only [zA]
   refine zc (v:=?_) 2 15 [14] rfl rfl (by kernel_rfl) (by kernel_rfl) (by kernel_rfl) (by kernel_rfl) (by kernel_rfl) (fun _ _ _ h=>h) (by rfl) ?_ (by assumption) ?_
   rotate_left
   ·(intro w hSw;(try dsimp only at hSw);obtain⟨hS1,hS2,hS3⟩:=hSw;go_simp;with_reducible rfl)
   try simp only [zA]
   refine zc (v:=?_) 3 16 [14] rfl rfl (by kernel_rfl) (by kernel_rfl) (by kernel_rfl) (by kernel_rfl) (by kernel_rfl) (fun _ _ _ h=>h) (by rfl) ?_ (by assumption) ?_
   rotate_left
   ·(intro w hSw;(try dsimp only at hSw);obtain⟨hS1,hS2,hS3⟩:=hSw;go_simp;with_reducible rfl)
   try simp only [zA]
   refine zc (v:=?_) 4 17 [14] rfl rfl (by kernel_rfl) (by kernel_rfl) (by kernel_rfl) (by kernel_rfl) (by kernel_rfl) (fun _ _ _ h=>h) (by rfl) ?_ (by assumption) ?_
   rotate_left
   ·(intro w hSw;(try dsimp only at hSw);obtain⟨hS1,hS2,hS3⟩:=hSw;go_simp;with_reducible rfl)
   try simp only [zA]
   refine zc (v:=?_) 5 18 [14] rfl rfl (by kernel_rfl) (by kernel_rfl) (by kernel_rfl) (by kernel_rfl) (by kernel_rfl) (fun _ _ _ h=>h) (by rfl) ?_ (by assumption) ?_
   rotate_left
   ·(intro w hSw;(try dsimp only at hSw);obtain⟨hS1,hS2,hS3⟩:=hSw;go_simp;with_reducible rfl)
   try simp only [zA]
   refine zc (v:=?_) 6 19 [14] rfl rfl (by kernel_rfl) (by kernel_rfl) (by kernel_rfl) (by kernel_rfl) (by kernel_rfl) (fun _ _ _ h=>h) (by rfl) ?_ (by assumption) ?_
   rotate_left
   ·(intro w hSw;(try dsimp only at hSw);obtain⟨hS1,hS2,hS3⟩:=hSw;go_simp;with_reducible rfl)
   try simp only [zA]
   refine zc (v:=?_) 7 20 [14] rfl rfl (by kernel_rfl) (by kernel_rfl) (by kernel_rfl) (by kernel_rfl) (by kernel_rfl) (fun _ _ _ h=>h) (by rfl) ?_ (by assumption) ?_
   rotate_left
   ·(intro w hSw;(try dsimp only at hSw);obtain⟨hS1,hS2,hS3⟩:=hSw;go_simp;with_reducible rfl)
   try simp only [zA]
   refine zc (v:=?_) 8 21 [14] rfl rfl (by kernel_rfl) (by kernel_rfl) (by kernel_rfl) (by kernel_rfl) (by kernel_rfl) (fun _ _ _ h=>h) (by rfl) ?_ (by assumption) ?_
   rotate_left
   ·(intro w hSw;(try dsimp only at hSw);obtain⟨hS1,hS2,hS3⟩:=hSw;go_simp;with_reducible rfl)
   try simp only [zA]
   refine zc (v:=?_) 9 22 [14] rfl rfl (by kernel_rfl) (by kernel_rfl) (by kernel_rfl) (by kernel_rfl) (by kernel_rfl) (fun _ _ _ h=>h) (by rfl) ?_ (by assumption) ?_
   rotate_left
   ·(intro w hSw;(try dsimp only at hSw);obtain⟨hS1,hS2,hS3⟩:=hSw;go_simp;with_reducible rfl)
   try simp only [zA]
   refine zf 10 (by kernel_rfl) rfl (fun K hK=>?_)
   go_simp
   refine HFI.out.mono ?_
   rintro e w1 ⟨rfl,hb1⟩
   have hb1':Below wr.heap.size wr w1:=(Below.refl _ _).drew.trans hb1
   have d1:=(hb1'.cell (p:=⟨rb,roff+k,none⟩) hrb).trans c1
   have d2:=(hb1'.cell (p:=⟨vb,voff+f * 2,none⟩) hvb).trans c2
   have d3:=(hb1'.cell (p:=⟨vb,voff+f * 2+1,none⟩) hvb).trans c3
   have HI2:=hide (HI.out.later hb1')
   have HN1:=hide (HNZ.out.below hb1' zL)
   clear hb1 hb1' HFI HI HNZ
   go_wp2_with fail
   refine hK.out _ _ (fun _=>⟨d1,d2,d3⟩) ?_
   clear hK K hHeld
   try simp only [zA]
   have hHeld1:(fun w'=>w'.cell? ⟨rb,roff+k,none⟩=some (.slice (some ⟨vb,voff,none⟩) n vcap)∧w'.cell? ⟨vb,voff+f * 2,none⟩=some (.bool neg)∧w'.cell? ⟨vb,voff+f * 2+1,none⟩=some (.slice lo ll lc)) w1:=⟨d1,d2,d3⟩
   refine zc (v:=?_) 11 24 [14] rfl rfl (by kernel_rfl) (by kernel_rfl) (by kernel_rfl) (by kernel_rfl) (by kernel_rfl) (fun _ _ _ h=>h) (by rfl) ?_ (by assumption) ?_
   rotate_left
   ·(intro w hSw;(try dsimp only at hSw);obtain⟨hS1,hS2,hS3⟩:=hSw;go_simp;with_reducible rfl)
   try simp only [zA]
   refine zc (v:=?_) 12 25 [14] rfl rfl (by kernel_rfl) (by kernel_rfl) (by kernel_rfl) (by kernel_rfl) (by kernel_rfl) (fun _ _ _ h=>h) (by rfl) ?_ (by assumption) ?_
   rotate_left
   ·(intro w hSw;(try dsimp only at hSw);obtain⟨hS1,hS2,hS3⟩:=hSw;go_simp;with_reducible rfl)
   try simp only [zA]
   refine zc (v:=?_) 13 26 [14] rfl rfl (by kernel_rfl) (by kernel_rfl) (by kernel_rfl) (by kernel_rfl) (by kernel_rfl) (fun _ _ _ h=>h) (by rfl) ?_ (by assumption) ?_
   rotate_left
   ·(intro w hSw;(try dsimp only at hSw);obtain⟨hS1,hS2,hS3⟩:=hSw;go_simp;with_reducible rfl)
   try simp only [zA]
   obtain⟨neg0,o0,l0,c0',k0,k1,-⟩:=HI2.out.at k (by omega)
   have f0:=HI2.out.thaw (k * 2)
   have f1:=HI2.out.thaw (k * 2+1)
   have hP:=HI2.out.lt
   have HN:=hide (HI2.out.set (k:=k) (by omega) HN1.out)
   rw [HFS.out] at HN
   refine zf 14 (by kernel_rfl) rfl (fun K hK=>?_)
   go_simp
   refine hK.out _ _ (fun h=>absurd h (by decide)) ?_
   clear hK K
   try simp only [zA]
   refine zl (by kernel_rfl) ?_
   clear c1 c2 c3 d1 d2 d3 k0 k1 f0 f1 hHeld1 HI2 HN1 HFS
   go_wp2
   go_roundw
   case rel=>exact⟨k+1,by omega,by go_num,HN⟩
   case measure=>simp [intOf];omega
  ·obtain rfl:k=hs.length:=by omega
   rw [← hpl] at HI
   have HFF:=hide HI.out.full
   rw [hpl] at HI
   clear HI
   go_wp2
   go_ret
   exact⟨_,by rw [hpl];rfl,HFF.out⟩
end Go.Proofs.YtnkcjkpkphjecaaGreatDoor
/- Moves of a region that draws its order: what is held is asked behind some operations alone; operations that read no memory are taken first wherever they stand. -/
namespace Go.Proofs.YtnkcjkpkphjecaaGreatDoor
open Go
section
variable {P:Program}{ops:Array Oper}{Q:Exit→Act→World→Prop}{md:Region.Mode}{S:World→Prop}{A:Nat→Bool}
def wpUp (P:Program)(md:Region.Mode)(ops:Array Oper)(Q:Exit→Act→World→Prop)(S:World→Prop)(A:Nat→Bool):Nat→Array Bool→Act→World→Prop
 | 0=>fun listed a w=>Region.ready md ops listed=[]∧Q .normal a w
 | fuel+1=>fun listed a w=>(Region.ready md ops listed=[]→Q .normal a w) ∧
   ∀ j,j∈Region.ready md ops listed→wpOp P ops Q j (fun a' w'=>(A j=true→S w')∧wpUp P md ops Q S A fuel (listed.setIfInBounds j true) a' w') a w
theorem zg4 (fuel:Nat):∀(listed:Array Bool) (a:Act) (w:World),wpUp P md ops Q S A fuel listed a w→wpAny P md ops Q fuel listed a w:=by
 induction fuel with
 | zero=>exact fun _ _ _ h=>h
 | succ fuel ih=>exact fun _ _ _ h=>⟨h.1,fun j hj=>wpOp_mono (fun a' w' h'=>ih _ a' w' h'.2) (h.2 j hj)⟩
def waitsA (md:Region.Mode)(ops:Array Oper)(A:Nat→Bool)(listed:Array Bool)(i:Nat)(ds:List Nat):Bool:=
 ((List.range ops.size).all fun j=>A j || ds.contains j || listed.getD j false) &&
  ds.all fun j=>!listed.getD j false && match ops[j]? with
   | some o=>o.after.any fun e=>Region.binds md e && (e.on == i || ds.contains e.on)
   | none=>true
theorem zk4 {i:Nat}{oi:Oper}{v:Value}(hi:ops[i]?=some oi)(hsel:∀(j:Nat) (o:Oper) cs b,ops[j]?=some o→o.op≠.select cs b)
  (hQ:∀ c a w,Q (.panic c) (a.put oi.dst v) w→Q (.panic c) a w) (ds:List Nat) (hds:∀ j,j∈ds→∀ o,ops[j]?=some o→∃ e∈o.after,Region.binds md e=true∧(e.on=i∨e.on∈ds)) (fuel:Nat):
  ∀(listed:Array Bool) (a:Act) (w:World),(∀ j o,ops[j]?=some o→listed.getD j true=false→j ∉ ds→A j=true) →
   (∀ j oj,ops[j]?=some oj→j≠i→listed.getD j true=false→(∀ e∈oj.after,Region.binds md e=true→e.on≠i)→oi.apart ops oj=true) →
   i∈Region.ready md ops listed→(∀ j∈ds,listed.getD j false=false)→YieldsIf P ops S oi v a→S w →
   wpUp P md ops Q S A fuel (listed.setIfInBounds i true) (a.put oi.dst v) w→wpUp P md ops Q S A (fuel+1) listed a w:=by
 induction fuel with
 | zero=>
  intro listed a w _ _ hr _ hy hS H
  refine⟨fun h0=>absurd hr (by rw [h0];exact List.not_mem_nil),fun j hj=>?_⟩
  by_cases e:j=i
  ·subst e;exact hy.wpOp hi hS ⟨fun _=>hS,H⟩
  ·have:=ready_mono hj e
   rw [H.1] at this
   cases this
 | succ fuel ih=>
  intro listed a w hlow hfree hr hun hy hS H
  refine⟨fun h0=>absurd hr (by rw [h0];exact List.not_mem_nil),fun j hj=>?_⟩
  by_cases e:j=i
  ·subst e;exact hy.wpOp hi hS ⟨fun _=>hS,H⟩
  ·obtain⟨hj0,oj,hoj,hall⟩:=mem_ready.1 hj
   have hi0:=(mem_ready.1 hr).1
   have hi1:listed.getD i false=true→False:=fun h=>by
    by_cases hl:i < listed.size
    ·simp [hl] at hi0 h;rw [hi0] at h;cases h
    ·simp [Array.getElem?_eq_none (Nat.le_of_not_lt hl)] at h
   have hnd:j ∉ ds:=fun hd=>by
    obtain⟨ed,hed,hbd,hon⟩:=hds j hd oj hoj
    have h1:=hall ed hed hbd
    rcases hon with hon | hon
    ·rw [hon] at h1;exact hi1 h1
    ·rw [hun _ hon] at h1;cases h1
   have hnot:∀ ed∈oj.after,Region.binds md ed=true→ed.on≠i:=fun ed hed hbd heq=>hi1 (by have:=hall ed hed hbd;rwa [heq] at this)
   have h2:=wpOp_putIf hoj (hfree j oj hoj e hj0 hnot) (fun cs b=>hsel i oi cs b hi) (fun cs b=>hsel j oj cs b hoj) hQ hy (H.2 j (ready_mono hj e))
   refine wpOp_mono (fun a' w' h3=>?_) h2
   have hS':=h3.2.1 (hlow j oj hoj hj0 hnd)
   have hback:∀ m,(listed.setIfInBounds j true).getD m true=false→listed.getD m true=false:=fun m hmu=>by
    by_cases ejm:j=m
    ·subst ejm;exact hj0
    ·rwa [getD_set_ne true ejm] at hmu
   refine⟨h3.2.1,ih (listed.setIfInBounds j true) a' w' (fun m om hm hmu=>hlow m om hm (hback m hmu)) (fun m om hm hmi hmu hmn=>hfree m om hm hmi (hback m hmu) hmn) (ready_mono hr (Ne.symm e)) (fun d hd=>?_) h3.1 hS' ?_⟩
   ·rw [getD_set_ne (i:=j) (j:=d) false (fun e'=>hnd (by rw [e'];exact hd))]
    exact hun d hd
   ·rw [Array.setIfInBounds_comm _ _ e]
    exact h3.2.2
theorem zk5 {i:Nat}{oi:Oper}{v:Value}(hi:ops[i]?=some oi)(hsel:∀(j:Nat) (o:Oper) cs b,ops[j]?=some o→o.op≠.select cs b)
  (hQ:∀ c a w,Q (.panic c) (a.put oi.dst v) w→Q (.panic c) a w) (hA:A i=false) (fuel:Nat):
  ∀(listed:Array Bool) (a:Act) (w:World),
   (∀ j oj,ops[j]?=some oj→j≠i→listed.getD j true=false→(∀ e∈oj.after,Region.binds md e=true→e.on≠i)→oi.apart ops oj=true) →
   i∈Region.ready md ops listed→YieldsIf P ops (fun _=>True) oi v a →
   wpUp P md ops Q S A fuel (listed.setIfInBounds i true) (a.put oi.dst v) w→wpUp P md ops Q S A (fuel+1) listed a w:=by
 have hno:A i=true→S=S→∀ w,S w:=fun h=>by rw [hA] at h;cases h
 induction fuel with
 | zero=>
  intro listed a w _ hr hy H
  refine⟨fun h0=>absurd hr (by rw [h0];exact List.not_mem_nil),fun j hj=>?_⟩
  by_cases e:j=i
  ·subst e;exact hy.wpOp hi trivial ⟨fun h=>hno h rfl w,H⟩
  ·have:=ready_mono hj e
   rw [H.1] at this
   cases this
 | succ fuel ih=>
  intro listed a w hfree hr hy H
  refine⟨fun h0=>absurd hr (by rw [h0];exact List.not_mem_nil),fun j hj=>?_⟩
  by_cases e:j=i
  ·subst e;exact hy.wpOp hi trivial ⟨fun h=>hno h rfl w,H⟩
  ·obtain⟨hj0,oj,hoj,hall⟩:=mem_ready.1 hj
   have hi0:=(mem_ready.1 hr).1
   have hi1:listed.getD i false=true→False:=fun h=>by
    by_cases hl:i < listed.size
    ·simp [hl] at hi0 h;rw [hi0] at h;cases h
    ·simp [Array.getElem?_eq_none (Nat.le_of_not_lt hl)] at h
   have hnot:∀ ed∈oj.after,Region.binds md ed=true→ed.on≠i:=fun ed hed hbd heq=>hi1 (by have:=hall ed hed hbd;rwa [heq] at this)
   have h2:=wpOp_putIf hoj (hfree j oj hoj e hj0 hnot) (fun cs b=>hsel i oi cs b hi) (fun cs b=>hsel j oj cs b hoj) hQ hy (H.2 j (ready_mono hj e))
   refine wpOp_mono (fun a' w' h3=>?_) h2
   refine⟨h3.2.1,ih (listed.setIfInBounds j true) a' w' (fun m om hm hmi hmu hmn=>hfree m om hm hmi ?_ hmn) (ready_mono hr (Ne.symm e)) h3.1 ?_⟩
   ·by_cases ejm:j=m
    ·subst ejm;exact hj0
    ·rwa [getD_set_ne true ejm] at hmu
   ·rw [Array.setIfInBounds_comm _ _ e]
    exact h3.2.2
theorem zk8 {listed:Array Bool}{i:Nat}{ds:List Nat}(h:waitsA md ops A listed i ds=true):
  (∀ j o,ops[j]?=some o→listed.getD j true=false→j ∉ ds→A j=true)∧(∀ j∈ds,listed.getD j false=false)∧∀ j,j∈ds→∀ o,ops[j]?=some o→∃ e∈o.after,Region.binds md e=true∧(e.on=i∨e.on∈ds):=by
 simp only [waitsA,Bool.and_eq_true,List.all_eq_true] at h
 refine⟨fun j o hj hl hn=>?_,fun j hj=>?_,fun j hj o ho=>?_⟩
 ·have h1:=h.1 j (List.mem_range.2 (Array.getElem?_eq_some_iff.1 hj).1)
  simp only [Bool.or_eq_true,List.contains_iff_mem] at h1
  rcases h1 with(h1 | h1) | h1
  ·exact h1
  ·exact absurd h1 hn
  ·by_cases hs:j < listed.size
   ·simp [hs] at hl h1;rw [hl] at h1;cases h1
   ·simp [Array.getElem?_eq_none (Nat.le_of_not_lt hs)] at h1
 ·have:=(h.2 j hj).1
  simpa using this
 ·have h2:=(h.2 j hj).2
  rw [ho] at h2
  obtain⟨e,he,hb⟩:=Array.any_eq_true'.1 h2
  simp only [Bool.and_eq_true,Bool.or_eq_true,beq_iff_eq,List.contains_iff_mem] at hb
  exact⟨e,he,hb.1,hb.2⟩
theorem zeb (i d:Nat)(ds:List Nat){oi:Oper}{v:Value}{fuel:Nat}{listed:Array Bool}{a:Act}{w:World}(hi:ops[i]?=some oi)(hd:oi.dst=some d)
  (hs:Region.noSelect ops=true) (hf:Region.free md ops listed i=true) (hr:(Region.ready md ops listed).contains i=true) (hw:waitsA md ops A listed i ds=true)
  (hQ:∀ c a w,Q (.panic c) (a.put (some d) v) w→Q (.panic c) a w) (hwt:Region.wanted oi (yielded ops a.tmps)=true) (hy:∀ w,S w→(execOp a.eval oi).run P w=.ok (.value v) w) (hS:S w)
  (h:wpUp P md ops Q S A fuel (listed.setIfInBounds i true) (a.put (some d) v) w):wpUp P md ops Q S A (fuel+1) listed a w:=
 have hw':=zk8 hw
 zk4 hi (Region.noSelect_spec hs) (by rw [hd];exact hQ) ds hw'.2.2 fuel listed a w hw'.1 (Region.free_spec hi hf) (by simpa using hr)
  hw'.2.1 (.inl ⟨hwt,hy⟩) hS (by rw [hd];exact h)
theorem zB (i d:Nat){oi:Oper}{v:Value}{fuel:Nat}{listed:Array Bool}{a:Act}{w:World}(hi:ops[i]?=some oi)(hd:oi.dst=some d)
  (hs:Region.noSelect ops=true) (hf:Region.free md ops listed i=true) (hr:(Region.ready md ops listed).contains i=true) (hA:A i=false)
  (hQ:∀ c a w,Q (.panic c) (a.put (some d) v) w→Q (.panic c) a w) (hwt:Region.wanted oi (yielded ops a.tmps)=true) (hy:∀ w,(execOp a.eval oi).run P w=.ok (.value v) w)
  (h:wpUp P md ops Q S A fuel (listed.setIfInBounds i true) (a.put (some d) v) w):wpUp P md ops Q S A (fuel+1) listed a w:=
 zk5 hi (Region.noSelect_spec hs) (by rw [hd];exact hQ) hA fuel listed a w (Region.free_spec hi hf) (by simpa using hr) (.inl ⟨hwt,fun w _=>hy w⟩) (by rw [hd];exact h)
theorem zbv (i:Nat){o:Oper}{fuel:Nat}{listed:Array Bool}{a:Act}{w:World}(hr:Region.ready md ops listed=[i])(ho:ops[i]?=some o)
  (h:∀ K':Act→World→Prop,Shut (∀ a w,(A i=true→S w)→wpUp P md ops Q S A fuel (listed.setIfInBounds i true) a w→K' a w)→if Region.wanted o (yielded ops a.tmps)=true then Oper.wp P o a w K' Q else K' (a.put o.dst undef) w):
  wpUp P md ops Q S A (fuel+1) listed a w:=by
 refine⟨fun h0=>absurd (hr.symm.trans h0) (by simp),fun j hj=>?_⟩
 rw [hr] at hj
 obtain rfl:j=i:=by simpa using hj
 exact wpOp_step ho (fun K' hK=>h K' (fun a w hS hW=>hK a w ⟨hS,hW⟩))
theorem zgE {fuel:Nat}{listed:Array Bool}{a:Act}{w:World}(hr:Region.ready md ops listed=[])(h:Q .normal a w):wpUp P md ops Q S A fuel listed a w:=by
 cases fuel with
 | zero=>exact⟨hr,h⟩
 | succ fuel=>exact⟨fun _=>h,fun j hj=>by rw [hr] at hj;cases hj⟩
theorem zgF {id:Nat}{a:Act}{w:World}(hm:P.follows .mixedOrders=true)(hS:S w.drew)
  (h:S w.drew→wpUp P .any ops Q S A ops.size (Array.replicate ops.size false) a w.drew):(Code.region id ops true).wp P Q a w:=
 wp_region_any hm (zg4 _ _ _ _ (h hS))
end
end Go.Proofs.YtnkcjkpkphjecaaGreatDoor
/- mat.common of 1 and 1; mat.chained of nothing but 1. -/
namespace Go.Proofs.YtnkcjkpkphjecaaGreatDoor
open Go.RowKit Limbs
theorem Box.alloc {W:World}{B:Nat}{u0 u1:Value}(h:Box W B u0 u1)(hB:B < W.heap.size)(ob:Obj):Box (W.alloc ob) B u0 u1:=h.later ((Below.refl W.heap.size W).alloc zL ob) hB
theorem NumL.one {w:World}{v:Value}{n:Nat}(h:NumL w v 1 n):NumL w v 1 2:=h.tight (by decide)
theorem zjz (r k:Nat)(hk:k < r):(List.replicate r (1:Int)).getD k 0=1:=by
 rw [List.getD_eq_getElem?_getD,List.getElem?_replicate,if_pos hk];rfl
end Go.Proofs.YtnkcjkpkphjecaaGreatDoor
/- mat.Smith of what rows make nought of: nothing but 1. -/
namespace Go.Proofs.YtnkcjkpkphjecaaGreatDoor
open Go.RowKit Limbs
def Dual (ks:List (List Int))(n:Nat):Prop:=∀ i,i < ks.length→∃ w:Nat→Int,∀ l,l < ks.length→sumN n (fun j=>ent ks l j * w j)=if l=i then 1 else 0
theorem VecO.ones {w W:World}{P r n:Nat}(h:VecO w W P (List.replicate r 1) n):VecO w W P (List.replicate r 1) 2:=
 ⟨h.vec.tight fun j hj=>by rw [List.length_replicate] at hj;rw [zjz r j hj];decide,h.low,h.below,h.blk⟩
def SmPost (w:World)(r:Nat)(e:Ending)(w':World):Prop:=
 ∃ P,e=.returned (.tuple #[.slice (some ⟨P,0,none⟩) r r,.nilIface])∧VecO w w' P (List.replicate r 1) 2
end Go.Proofs.YtnkcjkpkphjecaaGreatDoor
/- Square tables, and others that are as they are but for rows and places that were put together. No Go in it. -/
namespace Go.Proofs.YtnkcjkpkphjecaaGreatDoor
open Go.RowKit Limbs
def EqM (r:Nat)(A B:Nat→Nat→Int):Prop:=∀ i j,i < r→j < r→A i j=B i j
def scM (e:Int):Nat→Nat→Int:=fun i j=>if i=j then e else 0
def trM (A:Nat→Nat→Int):Nat→Nat→Int:=fun i j=>A j i
section
variable {r:Nat}{A A' B B' C T U U' V V':Nat→Nat→Int}{e:Int}
theorem EqM.refl (A:Nat→Nat→Int):EqM r A A:=fun _ _ _ _=>rfl
theorem EqM.symm (h:EqM r A B):EqM r B A:=fun i j hi hj=>(h i j hi hj).symm
theorem EqM.trans (h:EqM r A B)(k:EqM r B C):EqM r A C:=fun i j hi hj=>(h i j hi hj).trans (k i j hi hj)
theorem EqM.mul (h:EqM r A A')(k:EqM r B B'):EqM r (mulM r A B) (mulM r A' B'):=fun i j hi hj=>zj fun q hq=>by rw [h i q hi hq,k q j hq hj]
theorem EqM.tr (h:EqM r A B):EqM r (trM A) (trM B):=fun i j hi hj=>h j i hj hi
theorem zaU (r:Nat)(A B C:Nat→Nat→Int):mulM r (mulM r A B) C=mulM r A (mulM r B C):=by
 funext i j
 show sumN r (fun k=>sumN r (fun l=>A i l * B l k) * C k j)=sumN r (fun l=>A i l * sumN r (fun k=>B l k * C k j))
 have e1:sumN r (fun k=>sumN r (fun l=>A i l * B l k) * C k j)=sumN r (fun k=>sumN r (fun l=>A i l *(B l k * C k j))):=zj fun k _=>by
  rw [Int.mul_comm,← zI]
  exact zj fun l _=>by rw [Int.mul_comm,Int.mul_assoc]
 rw [e1,zcR]
 exact zj fun l _=>by rw [zI]
theorem zjo (r:Nat)(A:Nat→Nat→Int)(e:Int):EqM r (mulM r A (scM e)) (fun i j=>A i j * e):=fun i j hi hj=>by
 show sumN r (fun k=>A i k * scM e k j)=_
 rw [zK r j hj _ fun k hk hne=>by rw [scM,if_neg hne,Int.mul_zero],scM,if_pos rfl]
theorem zj9 (r:Nat)(A:Nat→Nat→Int)(e:Int):EqM r (mulM r (scM e) A) (fun i j=>A i j * e):=fun i j hi hj=>by
 show sumN r (fun k=>scM e i k * A k j)=_
 rw [zK r i hi _ fun k hk hne=>by rw [scM,if_neg (Ne.symm hne),Int.zero_mul],scM,if_pos rfl,Int.mul_comm]
theorem zcA (r:Nat)(A:Nat→Nat→Int):EqM r (mulM r A (scM 1)) A:=(zjo r A 1).trans fun _ _ _ _=>Int.mul_one _
theorem zbn (r:Nat)(A:Nat→Nat→Int):EqM r (mulM r (scM 1) A) A:=(zj9 r A 1).trans fun _ _ _ _=>Int.mul_one _
theorem zcS (r:Nat)(A B:Nat→Nat→Int):trM (mulM r A B)=mulM r (trM B) (trM A):=by
 funext i j
 exact zj fun k _=>Int.mul_comm _ _
theorem zgz (e:Int):trM (scM e)=scM e:=by
 funext i j
 show(if j=i then e else 0)=if i=j then e else 0
 by_cases h:i=j
 ·rw [if_pos h,if_pos h.symm]
 ·rw [if_neg h,if_neg (Ne.symm h)]
def InvM (r:Nat)(U U':Nat→Nat→Int):Prop:=EqM r (mulM r U U') (scM 1)∧EqM r (mulM r U' U) (scM 1)
theorem InvM.one (r:Nat):InvM r (scM 1) (scM 1):=⟨zcA r _,zcA r _⟩
theorem InvM.symm (h:InvM r U U'):InvM r U' U:=⟨h.2,h.1⟩
theorem InvM.tr (h:InvM r U U'):InvM r (trM U) (trM U'):=by
 refine⟨?_,?_⟩
 ·rw [← zcS,← zgz];exact h.2.tr
 ·rw [← zcS,← zgz];exact h.1.tr
theorem mid (h:EqM r (mulM r U' U) (scM 1)):EqM r (mulM r (mulM r V U') (mulM r U B)) (mulM r V B):=by
 have e1:mulM r (mulM r V U') (mulM r U B)=mulM r V (mulM r (mulM r U' U) B):=by rw [zaU,zaU]
 rw [e1]
 exact(EqM.refl V).mul ((h.mul (EqM.refl B)).trans (zbn r B))
theorem InvM.mul (h:InvM r U U')(k:InvM r V V'):InvM r (mulM r U V) (mulM r V' U'):=
 ⟨(mid k.1).trans h.1,(mid h.2).trans k.2⟩
def Equ (r:Nat)(A B:Nat→Nat→Int):Prop:=∃ U U' V V',InvM r U U'∧InvM r V V'∧EqM r B (mulM r (mulM r U A) V)
theorem Equ.rows (h:InvM r U U')(k:EqM r B (mulM r U A)):Equ r A B:=⟨U,U',scM 1,scM 1,h,.one r,k.trans (zcA r _).symm⟩
theorem Equ.cols (h:InvM r V V')(k:EqM r B (mulM r A V)):Equ r A B:=⟨scM 1,scM 1,V,V',.one r,h,k.trans ((zbn r A).symm.mul (EqM.refl V))⟩
theorem Equ.of (h:EqM r A B):Equ r A B:=.rows (.one r) (h.symm.trans (zbn r A).symm)
theorem Equ.refl (A:Nat→Nat→Int):Equ r A A:=.of (EqM.refl A)
theorem Equ.trans (h:Equ r A B)(k:Equ r B C):Equ r A C:=by
 obtain⟨U,U',V,V',hu,hv,e⟩:=h
 obtain⟨X,X',Y,Y',hx,hy,e2⟩:=k
 refine⟨mulM r X U,mulM r U' X',mulM r V Y,mulM r Y' V',hx.mul hu,hv.mul hy,e2.trans ?_⟩
 refine(((EqM.refl X).mul e).mul (EqM.refl Y)).trans ?_
 have:mulM r (mulM r X (mulM r (mulM r U A) V)) Y=mulM r (mulM r (mulM r X U) A) (mulM r V Y):=by simp only [zaU]
 rw [this]
 exact EqM.refl _
theorem Equ.tr (h:Equ r A B):Equ r (trM A) (trM B):=by
 obtain⟨U,U',V,V',hu,hv,e⟩:=h
 refine⟨trM V,trM V',trM U,trM U',hv.tr,hu.tr,e.tr.trans ?_⟩
 rw [zcS,zcS,zaU]
 exact EqM.refl _
theorem Equ.symm (h:Equ r A B):Equ r B A:=by
 obtain⟨U,U',V,V',hu,hv,e⟩:=h
 refine⟨U',U,V',V,hu.symm,hv.symm,?_⟩
 refine EqM.symm ((((EqM.refl U').mul e).mul (EqM.refl V')).trans ?_)
 have:mulM r (mulM r U' (mulM r (mulM r U A) V)) V'=mulM r (mulM r U' U) (mulM r A (mulM r V V')):=by simp only [zaU]
 rw [this]
 exact(hu.2.mul (((EqM.refl A).mul hv.1).trans (zcA r A))).trans (zbn r A)
def FreeM (r:Nat)(A:Nat→Nat→Int):Prop:=∀ x:Nat→Int,(∀ j,j < r→sumN r (fun k=>x k * A k j)=0)→∀ k,k < r→x k=0
theorem FreeM.cancel (f:FreeM r A){X Y:Nat→Nat→Int}(h:EqM r (mulM r X A) (mulM r Y A)):EqM r X Y:=fun i k hi hk=>by
 have:=f (fun q=>X i q+- Y i q) (fun j hj=>by
  have e1:sumN r (fun q=>(X i q+- Y i q) * A q j)=sumN r (fun q=>X i q * A q j)+- sumN r (fun q=>Y i q * A q j):=by
   rw [← zcQ,← zaK]
   exact zj fun q _=>by rw [Int.add_mul,Int.neg_mul]
  rw [e1]
  have e2:sumN r (fun q=>X i q * A q j)=sumN r (fun q=>Y i q * A q j):=h i j hi hj
  omega) k hk
 omega
theorem ziQ (fA:FreeM r A)(fB:FreeM r B)(h:EqM r A (mulM r C B))(k:EqM r B (mulM r T A)):InvM r C T:=by
 refine⟨fA.cancel ?_,fB.cancel ?_⟩
 ·refine EqM.trans ?_ (zbn r A).symm
  rw [zaU]
  exact((EqM.refl C).mul k.symm).trans h.symm
 ·refine EqM.trans ?_ (zbn r B).symm
  rw [zaU]
  exact((EqM.refl T).mul h.symm).trans k.symm
theorem ze0 (h:∀ i j,i < r→j < r→j < i→A i j=0)(p:∀ i,i < r→A i i≠0):FreeM r A:=fun x hx=>by
 have key:∀ m k,k < m→k < r→x k=0:=fun m=>by
  induction m with
  | zero=>intro k hk;omega
  | succ m ih=>
   intro k hk hr
   by_cases hm:k < m
   ·exact ih k hm hr
   ·have e:=hx k hr
    rw [zK r k hr _ fun i hi hne=>by
     by_cases hik:i < k
     ·rw [ih i (by omega) hi,Int.zero_mul]
     ·rw [h i k hi hr (by omega),Int.mul_zero]] at e
    rcases Int.mul_eq_zero.1 e with e | e
    ·exact e
    ·exact absurd e (p k hr)
 exact fun k hk=>key (k+1) k (by omega) hk
theorem zis (h:∀ i j,i < r→j < r→i < j→A i j=0)(p:∀ i,i < r→A i i≠0):FreeM r A:=fun x hx=>by
 have key:∀ m k,k < r→r - k≤m→x k=0:=fun m=>by
  induction m with
  | zero=>intro k hk h0;omega
  | succ m ih=>
   intro k hk h0
   have e:=hx k hk
   rw [zK r k hk _ fun i hi hne=>by
    by_cases hik:k < i
    ·rw [ih i hi (by omega),Int.zero_mul]
    ·rw [h i k hi hk (by omega),Int.mul_zero]] at e
   rcases Int.mul_eq_zero.1 e with e | e
   ·exact e
   ·exact absurd e (p k hk)
 exact fun k hk=>key r k hk (by omega)
def Kills (r:Nat)(A:Nat→Nat→Int)(e:Int):Prop:=∃ C,EqM r (mulM r C A) (scM e)∧EqM r (mulM r A C) (scM e)
def dgM (f:Nat→Int):Nat→Nat→Int:=fun i j=>if i=j then f i else 0
theorem zkT (f:Nat→Int):trM (dgM f)=dgM f:=by
 funext i j
 show(if j=i then f j else 0)=if i=j then f i else 0
 by_cases h:i=j
 ·rw [if_pos h,if_pos h.symm,h]
 ·rw [if_neg h,if_neg (Ne.symm h)]
def twoM (k h:Nat)(a b c d:Int):Nat→Nat→Int:=fun i j=>if i=k then (if j=k then a else if j=h then b else 0) else if i=h then (if j=k then c else if j=h then d else 0) else if i=j then 1 else 0
def blkM (f:Nat→Int)(k h:Nat)(a b c d:Int):Nat→Nat→Int:=fun i j=>if i=k then (if j=k then a else if j=h then b else 0) else if i=h then (if j=k then c else if j=h then d else 0) else if i=j then f i else 0
theorem zb8 {f:Nat→Int}{k h:Nat}(hkh:k < h)(hh:h < r)(a b c d x y z u:Int):EqM r (mulM r (twoM k h a b c d) (blkM f k h x y z u)) (blkM f k h (a * x+b * z) (a * y+b * u) (c * x+d * z) (c * y+d * u)):=fun i j hi hj=>by
 show sumN r (fun q=>twoM k h a b c d i q * blkM f k h x y z u q j)=_
 by_cases e1:i=k
 ·subst e1
  rw [zd1 r i h hkh hh _ fun q hq n1 n2=>by rw [twoM,if_pos rfl,if_neg n1,if_neg n2,Int.zero_mul]]
  have n:¬ h=i:=by omega
  simp only [twoM,blkM,if_true,if_neg n]
  by_cases e2:j=i
  ·simp only [e2,if_true]
  ·simp only [if_neg e2]
   by_cases e3:j=h
   ·simp only [e3,if_true]
   ·simp only [if_neg e3,Int.mul_zero,Int.add_zero]
 ·by_cases e4:i=h
  ·subst e4
   rw [zd1 r k i hkh hh _ fun q hq n1 n2=>by rw [twoM,if_neg e1,if_pos rfl,if_neg n1,if_neg n2,Int.zero_mul]]
   simp only [twoM,blkM,if_true,if_neg e1]
   by_cases e2:j=k
   ·simp only [e2,if_true]
   ·simp only [if_neg e2]
    by_cases e3:j=i
    ·simp only [e3,if_true]
    ·simp only [if_neg e3,Int.mul_zero,Int.add_zero]
  ·rw [zK r i hi _ fun q hq hne=>by rw [twoM,if_neg e1,if_neg e4,if_neg (Ne.symm hne),Int.zero_mul]]
   simp only [twoM,blkM,if_neg e1,if_neg e4,if_true,Int.one_mul]
theorem zgC (k h:Nat)(hkh:k < h):twoM k h 1 0 0 1=scM 1:=by
 funext i j
 unfold twoM scM
 by_cases e1:i=k
 ·subst e1
  rw [if_pos rfl]
  by_cases e2:j=i
  ·rw [if_pos e2,if_pos e2.symm]
  ·rw [if_neg e2,if_neg (Ne.symm e2)]
   split <;> rfl
 ·rw [if_neg e1]
  by_cases e4:i=h
  ·subst e4
   rw [if_pos rfl]
   by_cases e2:j=i
   ·rw [if_pos e2,if_pos e2.symm,if_neg (by omega)]
   ·rw [if_neg e2,if_neg (Ne.symm e2)]
    split <;> rfl
  ·rw [if_neg e4]
theorem zcT (k h:Nat)(a b c d:Int):twoM k h a b c d=blkM (fun _=>1) k h a b c d:=rfl
theorem zd9 {k h:Nat}(hkh:k < h)(hh:h < r){a b c d x y z u:Int}(h1:a * x+b * z=1)(h2:a * y+b * u=0)(h3:c * x+d * z=0)(h4:c * y+d * u=1)(h5:x * a+y * c=1)(h6:x * b+y * d=0)(h7:z * a+u * c=0)(h8:z * b+u * d=1):InvM r (twoM k h a b c d) (twoM k h x y z u):=by
 refine⟨?_,?_⟩
 ·have e:=zb8 (f:=fun _=>1) hkh hh a b c d x y z u
  rw [h1,h2,h3,h4,← zcT,← zcT,zgC k h hkh] at e
  exact e
 ·have e:=zb8 (f:=fun _=>1) hkh hh x y z u a b c d
  rw [h5,h6,h7,h8,← zcT,← zcT,zgC k h hkh] at e
  exact e
theorem zgy (f:Nat→Int){k h:Nat}(hkh:k < h)(a b c d:Int):trM (blkM f k h a b c d)=blkM f k h a c b d:=by
 funext i j
 show blkM f k h a b c d j i=_
 unfold blkM
 repeat' split
 all_goals first | rfl | omega | exact congrArg f (by omega)
theorem zhj {f:Nat→Int}{k h:Nat}(hkh:k < h)(hh:h < r){a b g l x y p q:Int}(hg:g=x * a+y * b)(hp:a=p * g)(hq:b=q * g)(hl:l=p * b):Equ r (blkM f k h a 0 0 b) (blkM f k h g 0 0 l):=by
 have s1:Equ r (blkM f k h a 0 0 b) (blkM f k h a (y * b) 0 b):=.rows (zd9 (a:=1) (b:=y) (c:=0) (d:=1) (x:=1) (y:=-y) (z:=0) (u:=1) hkh hh (by omega) (by omega) (by omega) (by omega) (by omega) (by omega) (by omega) (by omega)) (by
  have e:=zb8 (r:=r) (f:=f) hkh hh 1 y 0 1 a 0 0 b
  simp only [Int.one_mul,Int.mul_zero,Int.add_zero,Int.zero_mul,Int.zero_add] at e
  exact e.symm)
 have hxp:x * p=p * x:=Int.mul_comm x p
 have hxx:x *(p * x)=p * x * x:=Int.mul_comm x (p * x)
 have hpp:p * x * p=p *(p * x):=Int.mul_comm (p * x) p
 have s2:Equ r (blkM f k h a 0 (y * b) b) (blkM f k h g b 0 l):=.rows (zd9 (a:=x) (b:=1) (c:=p * x - 1) (d:=p) (x:=p) (y:=-1) (z:=1 - p * x) (u:=x) hkh hh
   (by omega) (by omega)
   (by rw [Int.sub_mul,Int.mul_sub];omega)
   (by omega)
   (by omega) (by omega)
   (by rw [Int.sub_mul,Int.mul_sub];omega)
   (by omega)) (by
  have e:=zb8 (r:=r) (f:=f) hkh hh x 1 (p * x - 1) p a 0 (y * b) b
  have e1:x * a+1 *(y * b)=g:=by rw [Int.one_mul,hg]
  have e2:x * 0+1 * b=b:=by omega
  have e3:(p * x - 1) * a+p *(y * b)=0:=by
   have:p *(x * a+y * b)=a:=by rw [← hg,← hp]
   rw [Int.mul_add] at this
   rw [Int.sub_mul,Int.one_mul,Int.mul_assoc]
   omega
  have e4:(p * x - 1) * 0+p * b=l:=by rw [hl];omega
  rw [e1,e2,e3,e4] at e
  exact e.symm)
 have s3:Equ r (blkM f k h g 0 b l) (blkM f k h g 0 0 l):=.rows (zd9 (a:=1) (b:=0) (c:=-q) (d:=1) (x:=1) (y:=0) (z:=q) (u:=1) hkh hh (by omega) (by omega) (by omega) (by omega) (by omega) (by omega) (by omega) (by omega)) (by
  have e:=zb8 (r:=r) (f:=f) hkh hh 1 0 (-q) 1 g 0 b l
  have e1:-q * g+1 * b=0:=by rw [hq,Int.neg_mul];omega
  rw [e1] at e
  simp only [Int.one_mul,Int.mul_zero,Int.add_zero,Int.zero_mul,Int.zero_add] at e
  exact e.symm)
 have t2:=s2.tr
 rw [zgy f hkh,zgy f hkh] at t2
 exact(s1.trans t2).trans s3
theorem zhc {f g:Nat→Int}{k h:Nat}{a b c d:Int}(e:∀ i,i≠k→i≠h→f i=g i):blkM f k h a b c d=blkM g k h a b c d:=by
 funext i j
 unfold blkM
 by_cases e1:i=k
 ·rw [if_pos e1,if_pos e1]
 ·by_cases e2:i=h
  ·rw [if_neg e1,if_neg e1,if_pos e2,if_pos e2]
  ·rw [if_neg e1,if_neg e1,if_neg e2,if_neg e2,e i e1 e2]
theorem zeN (zs:List Int){k h:Nat}(hkh:k < h):dgM (fun i=>zs.getD i 0)=blkM (fun i=>zs.getD i 0) k h (zs.getD k 0) 0 0 (zs.getD h 0):=by
 funext i j
 unfold dgM blkM
 by_cases e1:i=k
 ·subst e1
  rw [if_pos rfl]
  by_cases e2:j=i
  ·rw [if_pos e2,if_pos e2.symm]
  ·rw [if_neg e2,if_neg (Ne.symm e2)]
   split <;> rfl
 ·rw [if_neg e1]
  by_cases e4:i=h
  ·subst e4
   rw [if_pos rfl]
   by_cases e2:j=i
   ·rw [if_pos e2,if_pos e2.symm,if_neg (by omega)]
   ·rw [if_neg e2,if_neg (Ne.symm e2)]
    split <;> rfl
  ·rw [if_neg e4]
theorem zic {F G:List (List Int)}(fF:FreeM r (ent F))(fG:FreeM r (ent G))(lF:F.length=r)(lG:G.length=r)(kF:∀ u∈F,u.length=r)(kG:∀ u∈G,u.length=r)(a:Alikes r (InL F) (InL G)):Equ r (ent G) (ent F):=by
 obtain⟨C,hC⟩:=zG (r:=r) (n:=r) (mm:=r) (H:=ent F) (M:=ent G) fun k hk=>by
  have hm:F.getD k []∈F:=zm (by omega)
  have g:=zw ((a _).1 (.base hm (kF _ hm)))
  rw [lG] at g
  exact g
 obtain⟨T,hT⟩:=zG (r:=r) (n:=r) (mm:=r) (H:=ent G) (M:=ent F) fun k hk=>by
  have hm:G.getD k []∈G:=zm (by omega)
  have g:=zw ((a _).2 (.base hm (kG _ hm)))
  rw [lF] at g
  exact g
 have hC':EqM r (ent F) (mulM r C (ent G)):=fun i j hi hj=>hC i j hi hj
 have hT':EqM r (ent G) (mulM r T (ent F)):=fun i j hi hj=>hT i j hi hj
 exact .rows (ziQ fF fG hC' hT') hC'
theorem Sq.free {H:List (List Int)}(S:Sq r H):FreeM r (ent H):=ze0 (fun i j hi hj h=>S.low hi h) fun i hi=>by have:=S.pos hi;omega
theorem Sq.free_cols {H:List (List Int)}(S:Sq r H):FreeM r (ent (colsL H r)):=zis (fun i j hi hj h=>by rw [zaq S hi hj];exact S.low hj h) fun i hi=>by rw [zaq S hi hi];have:=S.pos hi;omega
theorem Sq.cols_equ {H H':List (List Int)}(S:Sq r H)(S':Sq r H')(a:Alikes r (InL H') (InL (colsL H r))):Equ r (trM (ent H)) (ent H'):=by
 have e:EqM r (trM (ent H)) (ent (colsL H r)):=fun i j hi hj=>(zaq S hi hj).symm
 exact(Equ.of e).trans (zic S'.free S.free_cols S'.len (zW H r) S'.form.len (fun u hu=>by rw [zbd H r u hu,S.len]) a)
end
end Go.Proofs.YtnkcjkpkphjecaaGreatDoor
