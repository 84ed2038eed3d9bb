import Derived.Test.YtdedolkgcdlmeaaGreatDoorBehL
set_option maxRecDepth 100000
set_option maxHeartbeats 3200000
set_option linter.unusedSimpArgs false
namespace Go.Proofs.YtdedolkgcdlmeaaGreatDoor
open Go.RowKit Limbs
variable {W w W':World}{m O N n i base:Nat}{us:List Int}{v:Value}
theorem VecN.drop0{b off cap:Nat}{nv:Nat}(h:VecN W (.slice (some ⟨b,off,none⟩) us.length cap) us nv)(hn:n+m=us.length):VecN W (.slice (some ⟨b,off+n*2,none⟩) m (cap-n)) (us.drop n) nv:=by
 by_cases hm:0<m
 ·exact h.drop hn hm
 ·have hl:(us.drop n).length=m:=by rw [List.length_drop];omega
  exact⟨_,_,by rw [hl],by rw [hl];omega,fun h0=>absurd h0 (by rw [hl];exact hm)⟩
def aloneTo (hs:List (List Int))(p:Nat→Nat)(n k:Nat):Prop:=∀ i,i<k→∀ b,p i<b→b<n→ent hs i b=0
theorem zg2{f:Nat}(hl:us.length=n):first (us.drop (f+1))<0↔∀ b,f<b→b<n→us.getD b 0=0:=by
 rw [zbR]
 constructor
 ·intro h b h1 h2
  have:=h (b-(f+1)) (by rw [List.length_drop];omega)
  rw [zdq,show f+1+(b-(f+1))=b by omega] at this
  exact this
 ·intro h b hb
  rw [List.length_drop] at hb
  rw [zdq]
  exact h _ (by omega) (by omega)
theorem zf0 (w:World)(va:Value)(n nv:Nat)(hs:List (List Int))(p:Nat→Nat)(ha:MatN w va hs nv)(F:FormL n hs p)(hn:n≤100)(hm:hs.length≤100):
  Calls Tryz.prog 64 #[va] w fun e w'=>∃ r:Bool,e=.returned (.bool r)∧(r=true↔aloneTo hs p n hs.length)∧Below w.heap.size w w':=by
 have HA:=hide ha;have HF:=hide F
 obtain⟨ao,acap,rfl,-,-⟩:=ha
 clear F
 go_enter Tryz.func64,Tryz.ntmps64
 go_wp2
 go_loopw [6] (fun x wr=>∃ k:Nat,k≤hs.length∧x=.int .i64 k∧Hid (aloneTo hs p n k)∧Hid (Below w.heap.size w wr)) (fun x _=>hs.length-(intOf x).toNat)
 case atStart=>exact⟨0,Nat.zero_le _,rfl,hide (fun i hi=>absurd hi (Nat.not_lt_zero i)),hide (Below.refl _ _)⟩
 case round=>
  obtain⟨k,hk,rfl,HAL,HBE⟩:=hrel
  by_cases hkl:k<hs.length
  ·obtain⟨rb,roff,_,e,lr,ru,cu,hru⟩:=HA.out.at k hkl
   simp only [Value.slice.injEq,true_and] at e
   obtain⟨rfl,rfl⟩:=e
   have hul:hs[k].length=n:=HF.out.len _ (List.getElem_mem hkl)
   obtain⟨hf1,hf2,hf3⟩:=HF.out.first hkl
   have HE:Hid (∀ b,ent hs k b=hs[k].getD b 0):=fun b=>by unfold ent;rw [zk hkl]
   have hpn:p k<n:=hf2
   generalize hs[k]=us at *
   obtain⟨vb,voff,vcap,rfl⟩:=hru.form (by omega)
   have hcap:n≤vcap:=by
    obtain⟨_,_,e,h1,-⟩:=hru
    simp only [Value.slice.injEq,true_and] at e
    omega
   have HU:=hide ((hru.below HBE.out zL).below (Below.refl wr.heap.size wr).drew zL)
   have HD:Hid (VecN wr.drew (.slice (if vcap=p k+1 then some ⟨vb,voff,none⟩ else some ⟨vb,voff+(p k+1)*2,none⟩) (n-(p k+1)) (vcap-(p k+1))) (us.drop (p k+1)) nv):=by
    by_cases hvc:vcap=p k+1
    ·rw [if_pos hvc]
     have hl:(us.drop (p k+1)).length=n-(p k+1):=by rw [List.length_drop];omega
     exact⟨_,_,by rw [hl],by rw [hl];omega,fun h0=>absurd h0 (by rw [hl];omega)⟩
    ·rw [if_neg hvc]
     exact HU.out.drop0 (n:=p k+1) (m:=n-(p k+1)) (by omega)
   have HDL:Hid ((us.drop (p k+1)).length≤100):=by
    show _≤_
    rw [List.length_drop];omega
   have HAD:=hide (zg2 (us:=us) (f:=p k) hul)
   have c1:=(HBE.out.cell (p:=⟨rb,roff+k,none⟩) lr).trans cu
   have HFI:=hide (zbQ wr.drew _ us nv HU.out (by omega))
   rw [hf1,hul] at HFI
   have hrb:rb<wr.heap.size:=zT lr HBE.out.size
   rw [hul] at c1
   clear hru cu hf1 hf2 hf3 hul HU
   generalize hpk:p k=f at *
   obtain⟨f1,hf1⟩:∃ f1:Nat,f1=f+1:=⟨_,rfl⟩
   have g1:f1≤n:=by omega
   have g2:IntKind.i64.wrap ((f:Int)+1)=(f1:Int):=by rw [IntKind.wrap_i64];omega
   rw [← hf1] at HD HAD HDL
   have HF1:=hide hf1;have HPK:=hide hpk
   clear hf1 hpk
   go_wp2_with fail
   refine zw (S:=(fun w'=>w'.cell? ⟨rb,roff+k,none⟩=some (.slice (some ⟨vb,voff,none⟩) n vcap))) (k:=13) (by kernel_rfl) (by exact c1) (fun hHeld=>?_)
   refine zf 0 9 [] ?_
   try simp only [zA]
   refine zf 1 10 [] ?_
   try simp only [zA]
   refine zf 2 11 [] ?_
   try simp only [zA]
   refine zf 3 12 [] ?_
   try simp only [zA]
   refine zf 4 13 [] ?_
   try simp only [zA]
   refine zf 5 14 [] ?_
   try simp only [zA]
   refine zf 6 15 [] ?_
   try simp only [zA]
   refine zf 7 16 [] ?_
   try simp only [zA]
   refine zg 8 (by kernel_rfl) rfl (fun K hK=>?_)
   go_simp
   refine HFI.out.mono ?_
   rintro e w1 ⟨rfl,hb1⟩
   have hb1':Below wr.heap.size wr w1:=(Below.refl _ _).drew.trans hb1
   have c2:=(hb1'.cell (p:=⟨rb,roff+k,none⟩) hrb).trans c1
   have HD1:=hide (HD.out.below hb1 zL)
   have HB1:=hide (HBE.out.trans (hb1'.mono HBE.out.size))
   clear hb1 hb1' HFI HD
   go_wp2_with fail
   refine hK.out _ _ (fun _=>c2) ?_
   clear hK K hHeld
   try simp only [zA]
   have hHeld1:(fun w'=>w'.cell? ⟨rb,roff+k,none⟩=some (.slice (some ⟨vb,voff,none⟩) n vcap)) w1:=c2
   refine zf 9 18 [] ?_
   try simp only [zA]
   refine zf 10 19 [] ?_
   try simp only [zA]
   generalize (if vcap=f1 then some (⟨vb,voff,none⟩:Addr) else some ⟨vb,voff+f1*2,none⟩)=ad at *
   refine zg 11 (by kernel_rfl) rfl (fun K hK=>?_)
   go_simp
   refine(zgK w1 _ _ nv (by exact HD1.out) (by have:=HDL.out;omega)).mono ?_
   rintro e w2 ⟨rfl,hb2⟩
   have c3:=(hb2.cell (p:=⟨rb,roff+k,none⟩) (zT lr HB1.out.size)).trans c2
   have HB2:=hide (HB1.out.trans (hb2.mono HB1.out.size))
   clear hb2
   go_wp2_with fail
   refine hK.out _ _ (fun _=>c3) ?_
   clear hK K hHeld1
   try simp only [zA]
   have hHeld2:(fun w'=>w'.cell? ⟨rb,roff+k,none⟩=some (.slice (some ⟨vb,voff,none⟩) n vcap)) w2:=c3
   refine zf 12 21 [] ?_
   try simp only [zA]
   refine zt (by kernel_rfl) ?_
   clear c1 c2 c3 hHeld2 HB1 HD1
   generalize hbz:decide (first (us.drop f1)<0)=bz
   cases bz with
   | true=>
    have HAL':Hid (aloneTo hs p n (k+1)):=fun i hi b h1 h2=>by
     by_cases e:i=k
     ·subst e
      rw [HE.out b]
      exact HAD.out.1 (of_decide_eq_true hbz) b (by have:=HPK.out;omega) h2
     ·exact HAL.out i (by omega) b h1 h2
    clear hbz
    go_wp2
    go_roundw
    case rel=>exact⟨k+1,by omega,by go_num,HAL',HB2⟩
    case measure=>simp [intOf];omega
   | false=>
    have HNO:Hid (¬ aloneTo hs p n hs.length):=fun h=>of_decide_eq_false hbz (HAD.out.2 fun b h1 h2=>by
     have:=h k hkl b (by have:=HPK.out;omega) h2
     rwa [HE.out b] at this)
    clear hbz
    go_wp2
    go_ret
    exact⟨false,rfl,⟨fun h=>(by cases h),fun h=>absurd h HNO.out⟩,HB2.out⟩
  ·obtain rfl:k=hs.length:=by omega
   go_wp2
   go_ret
   exact⟨true,rfl,⟨fun _=>HAL.out,fun _=>rfl⟩,HBE.out⟩
def pivL (hs:List (List Int))(p:Nat→Nat):List Int:=(List.range hs.length).map fun k=>ent hs k (p k)
theorem zcM (hs:List (List Int))(p:Nat→Nat):(pivL hs p).length=hs.length:=by simp [pivL]
theorem zcb (hs:List (List Int))(p:Nat→Nat)(k:Nat)(hk:k<hs.length):(pivL hs p).getD k 0=ent hs k (p k):=zaE _ _ k hk
theorem zkw (m:Nat)(hm:m≤1000)(W:World):(Instr.makeSlice 46 (.int .i64 (m:Int)) (.int .i64 (m:Int))).run Tryz.prog W=.ok (.slice (some ⟨W.heap.size,0,none⟩) m m) (W.alloc (.cells (madeCells #[.bool false,.slice none 0 0] (m*2)) 29)):=by
 obtain⟨i0,hi,hz0,hz1,hz2⟩:=info_parts Tryz.infoNum
 have h:=run_make (P:=Tryz.prog) W 46 29 i0 (.agg #[.bool false,.slice none 0 0]) (by kernel_rfl) hi hz0 .i64 .i64 m m (by omega) (by omega) (by rw [hz2];omega) (by omega)
 rw [hz1,Int.toNat_natCast] at h
 exact h
theorem zf1 (w:World)(va:Value)(n nv:Nat)(hs:List (List Int))(p:Nat→Nat)(ha:MatN w va hs nv)(F:FormL n hs p)(hn:n≤100)(hm:hs.length≤100):
  Calls Tryz.prog 67 #[va] w fun e w'=>VecPost w (pivL hs p) nv e w':=by
 have HA:=hide ha;have HF:=hide F
 obtain⟨ao,acap,rfl,-,-⟩:=ha
 have hpl:=zcM hs p
 have hmk:=zkw hs.length (by omega)
 have HI:=hide (VecO.made w w (Below.refl _ _) (pivL hs p).length nv)
 rw [hpl] at HI
 clear F
 go_enter Tryz.func67,Tryz.ntmps67
 go_wp2
 clear hmk
 go_loopw [10] (fun x wr=>∃ k:Nat,k≤hs.length∧x=.int .i64 k∧Hid (VecO w wr w.heap.size ((pivL hs p).take k++List.replicate ((pivL hs p).length-k) 0) nv)) (fun x _=>hs.length-(intOf x).toNat)
 case atStart=>exact⟨0,Nat.zero_le _,rfl,hide (by rw [hpl];exact HI.out)⟩
 case round=>
  clear HI
  obtain⟨k,hk,rfl,HI⟩:=hrel
  by_cases hkl:k<hs.length
  ·obtain⟨rb,roff,_,e,lr,ru,cu,hru⟩:=HA.out.at k hkl
   simp only [Value.slice.injEq,true_and] at e
   obtain⟨rfl,rfl⟩:=e
   have hul:hs[k].length=n:=HF.out.len _ (List.getElem_mem hkl)
   obtain⟨hf1,hf2,hf3⟩:=HF.out.first hkl
   have hz:(pivL hs p).getD k 0=hs[k].getD (p k) 0:=by rw [zcb hs p k hkl];unfold ent;rw [zk hkl]
   have HFS:=hide (zbq (pivL hs p) k (by omega))
   rw [hz] at HFS
   have hfl:=za9 (pivL hs p) k (by omega)
   clear hz
   generalize hs[k]=us at *
   obtain⟨vb,voff,vcap,rfl⟩:=hru.form (by omega)
   obtain⟨lv,neg,lo,ll,lc,z0,z1,nz⟩:=hru.at (p k) (by omega)
   have hb0:=HI.out.below
   have HU:=hide ((hru.below hb0 zL).below (Below.refl wr.heap.size wr).drew zL)
   have c1:=(hb0.cell (p:=⟨rb,roff+k,none⟩) lr).trans cu
   have c2:=(hb0.cell (p:=⟨vb,voff+p k*2,none⟩) lv).trans z0
   have c3:=(hb0.cell (p:=⟨vb,voff+p k*2+1,none⟩) lv).trans z1
   have HNZ:=hide (nz.below hb0 zL)
   have HFI:=hide (zbQ wr.drew _ us nv HU.out (by omega))
   rw [hf1,hul] at HFI
   have hrb:rb<wr.heap.size:=zT lr hb0.size
   have hvb:vb<wr.heap.size:=zT lv hb0.size
   rw [hul] at c1
   have hpn:p k<n:=hf2
   clear hru cu z0 z1 nz hf1 hf2 hf3 hul HU hb0
   generalize us.getD (p k) 0=z at *
   generalize hpk:p k=f at *
   go_wp2_with fail
   refine zw (S:=(fun w'=>w'.cell? ⟨rb,roff+k,none⟩=some (.slice (some ⟨vb,voff,none⟩) n vcap)∧w'.cell? ⟨vb,voff+f*2,none⟩=some (.bool neg)∧w'.cell? ⟨vb,voff+f*2+1,none⟩=some (.slice lo ll lc))) (k:=14) (by kernel_rfl) (by exact⟨c1,c2,c3⟩) (fun hHeld=>?_)
   refine zf 0 13 [14] ?_
   try simp only [zA]
   refine zf 1 14 [14] ?_
   try simp only [zA]
   refine zf 2 15 [14] ?_
   try simp only [zA]
   refine zf 3 16 [14] ?_
   try simp only [zA]
   refine zf 4 17 [14] ?_
   try simp only [zA]
   refine zf 5 18 [14] ?_
   try simp only [zA]
   refine zf 6 19 [14] ?_
   try simp only [zA]
   refine zf 7 20 [14] ?_
   try simp only [zA]
   refine zf 8 21 [14] ?_
   try simp only [zA]
   refine zf 9 22 [14] ?_
   try simp only [zA]
   refine zg 10 (by kernel_rfl) rfl (fun K hK=>?_)
   go_simp
   refine HFI.out.mono ?_
   rintro e w1 ⟨rfl,hb1⟩
   have hb1':Below wr.heap.size wr w1:=(Below.refl _ _).drew.trans hb1
   have d1:=(hb1'.cell (p:=⟨rb,roff+k,none⟩) hrb).trans c1
   have d2:=(hb1'.cell (p:=⟨vb,voff+f*2,none⟩) hvb).trans c2
   have d3:=(hb1'.cell (p:=⟨vb,voff+f*2+1,none⟩) hvb).trans c3
   have HI2:=hide (HI.out.later hb1')
   have HN1:=hide (HNZ.out.below hb1' zL)
   clear hb1 hb1' HFI HI HNZ
   go_wp2_with fail
   refine hK.out _ _ (fun _=>⟨d1,d2,d3⟩) ?_
   clear hK K hHeld
   try simp only [zA]
   have hHeld1:(fun w'=>w'.cell? ⟨rb,roff+k,none⟩=some (.slice (some ⟨vb,voff,none⟩) n vcap)∧w'.cell? ⟨vb,voff+f*2,none⟩=some (.bool neg)∧w'.cell? ⟨vb,voff+f*2+1,none⟩=some (.slice lo ll lc)) w1:=⟨d1,d2,d3⟩
   refine zf 11 24 [14] ?_
   try simp only [zA]
   refine zf 12 25 [14] ?_
   try simp only [zA]
   refine zf 13 26 [14] ?_
   try simp only [zA]
   obtain⟨neg0,o0,l0,c0',k0,k1,-⟩:=HI2.out.at k (by omega)
   have f0:=HI2.out.thaw (k*2)
   have f1:=HI2.out.thaw (k*2+1)
   have hP:=HI2.out.lt
   have HN:=hide (HI2.out.set (k:=k) (by omega) HN1.out)
   rw [HFS.out] at HN
   refine zg 14 (by kernel_rfl) rfl (fun K hK=>?_)
   go_simp
   refine hK.out _ _ (fun h=>absurd h (by decide)) ?_
   clear hK K
   try simp only [zA]
   refine zt (by kernel_rfl) ?_
   clear c1 c2 c3 d1 d2 d3 k0 k1 f0 f1 hHeld1 HI2 HN1 HFS
   go_wp2
   go_roundw
   case rel=>exact⟨k+1,by omega,by go_num,HN⟩
   case measure=>simp [intOf];omega
  ·obtain rfl:k=hs.length:=by omega
   rw [← hpl] at HI
   have HFF:=hide HI.out.full
   rw [hpl] at HI
   clear HI
   go_wp2
   go_ret
   exact⟨_,by rw [hpl];rfl,HFF.out⟩
theorem Box.alloc{B:Nat}{u0 u1:Value}(h:Box W B u0 u1)(hB:B<W.heap.size)(ob:Obj):Box (W.alloc ob) B u0 u1:=h.later ((Below.refl W.heap.size W).alloc zL ob) hB
theorem zjX (m i:Nat)(hi:i<m):(madeCells #[.slice none 0 0] m)[i]?=some (.slice none 0 0):=by
 simp [madeCells,hi,Nat.mod_one]
def updN {α:Type}(f:Nat→α)(k:Nat)(x:α):Nat→α:=fun i=>if i=k then x else f i
theorem zaS {α:Type}(f:Nat→α)(k:Nat)(x:α):updN f k x k=x:=if_pos rfl
theorem zaz {α:Type}(f:Nat→α)(k:Nat)(x:α)(h:i≠k):updN f k x i=f i:=if_neg h
structure OutG (w W:World)(O m:Nat)(vs:Nat→Value)(ps:Nat→List (Nm × Int))(N:Nat):Prop where
 low:Below w.heap.size w W
 high:w.heap.size≤O
 blk:∃ cs,W.heap[O]?=some (.cells cs 72)
 cell:∀ i,i<m→W.cell? ⟨O,i,none⟩=some (vs i)
 grow:∀ i,i<m→Grow W w.heap.size (vs i) (ps i) N
 two:∀ i k,i<m→k<m→i≠k→∀ g,(vs i).ownBlock=some g→(vs k).ownBlock≠some g
 lim:∀ i k,i<m→k<m→∀ p∈ps i,apart (vs k).ownBlock p.1.sl
theorem OutG.start{W0:World}(hb:Below w.heap.size w W0)(m N:Nat):OutG w (W0.alloc (.cells (madeCells #[.slice none 0 0] m) 72)) W0.heap.size m (fun _=>.slice none 0 0) (fun _=>[]) N where
 low:=hb.alloc hb.size _
 high:=hb.size
 blk:=⟨_,heap_alloc_new W0 _⟩
 cell:=fun i hi=>by
  rw [World.cell?_alloc_new]
  exact zjX m i hi
 grow:=fun _ _=>Grow.nil _ _ _
 two:=fun _ _ _ _ _ g h=>by cases h
 lim:=fun _ _ _ _ p hp=>by cases hp
theorem OutG.lt{vs:Nat→Value}{ps:Nat→List (Nm × Int)}(h:OutG w W O m vs ps N):O<W.heap.size:=by
 obtain⟨cs,e⟩:=h.blk
 exact zq e
theorem OutG.thaw{vs:Nat→Value}{ps:Nat→List (Nm × Int)}(h:OutG w W O m vs ps N)(k:Nat):W.frozen? ⟨O,k,none⟩=false:=by
 obtain⟨cs,e⟩:=h.blk
 simp [World.frozen?,e]
theorem OutG.later{vs:Nat→Value}{ps:Nat→List (Nm × Int)}(h:OutG w W O m vs ps N)(hb:Below W.heap.size W W'):OutG w W' O m vs ps N where
 low:=h.low.trans (hb.mono h.low.size)
 high:=h.high
 blk:=by obtain⟨cs,e⟩:=h.blk;exact⟨cs,(hb.block _ (zq e)).trans e⟩
 cell:=fun i hi=>(hb.cell (p:=⟨O,i,none⟩) h.lt).trans (h.cell i hi)
 grow:=fun i hi=>(h.grow i hi).later hb
 two:=h.two
 lim:=h.lim
theorem OutG.own_ne{vs:Nat→Value}{ps:Nat→List (Nm × Int)}(h:OutG w W O m vs ps N)(hi:i<m):some O≠(vs i).ownBlock:=fun e=>by
 obtain⟨cs,hO⟩:=h.blk
 rcases(h.grow i hi).1.2 with⟨e1,-⟩ |⟨g,cap,cur,e1,-,hh,-⟩
 ·rw [e1] at e;cases e
 ·rw [e1] at e
  simp only [Value.ownBlock,Option.some.injEq] at e
  rw [← e,hO] at hh
  simp only [Option.some.injEq,Obj.cells.injEq] at hh
  exact absurd hh.2.1 (by decide)
theorem zfS{e:TypeId}{size:Nat}{xs:List Value}(h:W.ownsRow base e size v n xs)(hk:∀ g,v.ownBlock=some g→W'.heap[g]?=W.heap[g]?):W'.ownsRow base e size v n xs:=by
 refine⟨h.1,?_⟩
 rcases h.2 with hn |⟨g,cap,cur,ev,hbg,hg,rest⟩
 ·exact .inl hn
 ·exact .inr ⟨g,cap,cur,ev,hbg,(hk g (by rw [ev];rfl)).trans hg,rest⟩
theorem zdJ{ps:List (Nm × Int)}(h:Grow W base v ps n){g:Nat}(hg:v.ownBlock=some g):g<W.heap.size:=(h.1.lt g hg).2
theorem OutG.push{W3:World}{vs:Nat→Value}{ps:Nat→List (Nm × Int)}(h:OutG w W O m vs ps N){k:Nat}(hk:k<m)(qs:List (Nm × Int))(hq:∀ p∈qs,NumL W p.1.val p.2 N)(hqa:∀ i,i<m→∀ p∈qs,apart (vs i).ownBlock p.1.sl)
  {g L cap:Nat} (hL:L=(ps k).length+qs.length) (hown:W3.ownsRow w.heap.size 29 2 (.slice (some ⟨g,0,none⟩) L cap) L ((ps k).flatMap ncells++qs.flatMap ncells)) (hg:W.grownBy W3 (vs k).ownBlock) (hat:(vs k).ownBlock=some g∨W.heap.size≤g):
  OutG w (W3.setCell ⟨O,k,none⟩ (.slice (some ⟨g,0,none⟩) L cap)) O m (updN vs k (.slice (some ⟨g,0,none⟩) L cap)) (updN ps k (ps k++qs)) N:=by
 obtain⟨cs,hO⟩:=h.blk
 have hOlt:=h.lt
 have hO3:W3.heap[O]?=some (.cells cs 72):=(hg.block O hOlt (h.own_ne hk)).trans hO
 have hc3:∀ i,i<m→W3.cell? ⟨O,i,none⟩=some (vs i):=fun i hi=>hg.cell (h.cell i hi) (h.own_ne hk)
 have hgO:g≠O:=by
  intro e
  rcases hown.2 with⟨e1,-⟩ |⟨g',cap',cur,e1,-,hh,-⟩
  ·cases e1
  ·simp only [Value.slice.injEq,Option.some.injEq,Addr.mk.injEq,and_true] at e1
   rw [← e1.1,e,hO3] at hh
   simp only [Option.some.injEq,Obj.cells.injEq] at hh
   exact absurd hh.2.1 (by decide)
 have hslice:∃ o l c,vs k=.slice o l c:=by
  rcases(h.grow k hk).1.2 with⟨e1,-⟩ |⟨g',cap',cur,e1,-⟩
  ·exact⟨_,_,_,e1⟩
  ·exact⟨_,_,_,e1⟩
 have hu:∀ z,vs k≠.int .u32 z:=fun z e=>by
  obtain⟨o,l,c,e1⟩:=hslice
  rw [e1] at e;cases e
 have hnum:∀ p:Nm × Int,NumL W p.1.val p.2 N→apart (vs k).ownBlock p.1.sl→NumL (W3.setCell ⟨O,k,none⟩ (.slice (some ⟨g,0,none⟩) L cap)) p.1.val p.2 N:=fun p h1 h2=>(h1.grown hg h2).setCell (hc3 k hk) hu
 have hnew:∀ p:Nm × Int,NumL W p.1.val p.2 N→apart (vs k).ownBlock p.1.sl→apart (some g) p.1.sl:=fun p h1 h2 a l c e h0 hb=>by
  rcases hat with hat | hat
  ·exact h2 a l c e h0 (hb.trans hat.symm)
  ·have:=h1.inside a l c e h0
   simp only [Option.some.injEq] at hb
   omega
 have hall:∀ i,i<m→∀ p∈updN ps k (ps k++qs) i,NumL W p.1.val p.2 N∧∀ j,j<m→apart (vs j).ownBlock p.1.sl:=fun i hi p hp=>by
  by_cases e:i=k
  ·rw [e,zaS] at hp
   rcases List.mem_append.1 hp with hp | hp
   ·exact⟨((h.grow k hk).2 p hp).1,fun j hj=>h.lim k j hk hj p hp⟩
   ·exact⟨hq p hp,fun j hj=>hqa j hj p hp⟩
  ·rw [zaz _ _ _ e] at hp
   exact⟨((h.grow i hi).2 p hp).1,fun j hj=>h.lim i j hi hj p hp⟩
 have hlim:∀ i j,i<m→j<m→∀ p∈updN ps k (ps k++qs) i,apart (updN vs k (.slice (some ⟨g,0,none⟩) L cap) j).ownBlock p.1.sl:=fun i j hi hj p hp=>by
  obtain⟨h1,h2⟩:=hall i hi p hp
  by_cases e:j=k
  ·rw [e,zaS];exact hnew p h1 (h2 k hk)
  ·rw [zaz _ _ _ e];exact h2 j hj
 have hheap:∀ b,b≠O→(W3.setCell ⟨O,k,none⟩ (.slice (some ⟨g,0,none⟩) L cap)).heap[b]?=W3.heap[b]?:=fun b hb=>heap_setCell_other _ _ b _ (fun e=>hb e)
 have hb3:Below w.heap.size w W3:=h.low.grown hg h.low.size (fun b hb=>((h.grow k hk).1.lt b hb).1)
 refine⟨hb3.setCell (p:=⟨O,k,none⟩) h.high _,h.high,⟨_,heap_setCell_same W3 O k _ _ _ hO3⟩,fun i hi=>?_,fun i hi=>⟨?_,fun p hp=>⟨?_,hlim i i hi hi p hp⟩⟩,fun i j hi hj hij b h1 h2=>?_,hlim⟩
 ·by_cases e:i=k
  ·rw [e,zaS];exact World.cell?_setCell_same (h:=hc3 k hk) ..
  ·rw [zaz _ _ _ e];exact(World.cell?_setCell_other (h:=fun e'=>by simp at e' <;> omega) ..).trans (hc3 i hi)
 ·by_cases e:i=k
  ·rw [e,zaS,zaS,List.length_append,← hL,List.flatMap_append]
   exact zfS hown fun b hb=>hheap b (by
    simp only [Value.ownBlock,Option.some.injEq] at hb
    omega)
  ·rw [zaz _ _ _ e,zaz _ _ _ e]
   refine zfS (h.grow i hi).1 fun b hb=>(hheap b fun e'=>h.own_ne hi (by rw [hb,e'])).trans ?_
   exact hg.block b (zdJ (h.grow i hi) hb) fun e'=>h.two i k hi hk e b hb e'.symm
 ·obtain⟨h1,h2⟩:=hall i hi p hp
  exact hnum p h1 (h2 k hk)
 ·by_cases e:i=k
  ·rw [e,zaS] at h1
   have ej:j≠k:=by omega
   rw [zaz _ _ _ ej] at h2
   simp only [Value.ownBlock,Option.some.injEq] at h1
   rcases hat with hat | hat
   ·exact h.two k j hk hj (by omega) b (by rw [hat,h1]) h2
   ·have:=zdJ (h.grow j hj) h2
    omega
  ·rw [zaz _ _ _ e] at h1
   by_cases ej:j=k
   ·rw [ej,zaS] at h2
    simp only [Value.ownBlock,Option.some.injEq] at h2
    rcases hat with hat | hat
    ·exact h.two k i hk hi (by omega) b (by rw [hat,h2]) h1
    ·have:=zdJ (h.grow i hi) h1
     omega
   ·rw [zaz _ _ _ ej] at h2
    exact h.two i j hi hj hij b h1 h2
theorem OutG.mat{vs:Nat→Value}{ps:Nat→List (Nm × Int)}(h:OutG w W O m vs ps N)(zss:List (List Int))(hl:zss.length=m)(hz:∀ i,i<m→(ps i).map (·.2)=zss.getD i []):MatN W (.slice (some ⟨O,0,none⟩) m m) zss N:=by
 subst hl
 refine⟨_,_,rfl,Nat.le_refl _,fun h0=>⟨_,_,rfl,h.lt,fun i zs hi=>?_⟩⟩
 obtain⟨hi',e⟩:=List.getElem?_eq_some_iff.1 hi
 refine⟨vs i,by rw [Nat.zero_add];exact h.cell i hi',?_⟩
 have:=(h.grow i hi').vec
 rw [hz i hi',zk hi',e] at this
 exact this
theorem OutG.old{vs:Nat→Value}{ps:Nat→List (Nm × Int)}(h:OutG w W O m vs ps N){r:Nm}{z:Int}(hr:NumL w r.val z n)(hi:i<m):apart (vs i).ownBlock r.sl:=fun a l c e h0 hb=>by
 have h1:=hr.inside a l c e h0
 have h2:=((h.grow i hi).1.lt a.block hb.symm).1
 omega
end Go.Proofs.YtdedolkgcdlmeaaGreatDoor
