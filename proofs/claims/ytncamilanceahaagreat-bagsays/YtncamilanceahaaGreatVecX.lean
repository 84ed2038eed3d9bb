import Derived.Test.YtncamilanceahaaGreatVecA
set_option maxRecDepth 100000
set_option maxHeartbeats 4000000
namespace Go.Proofs.YtncamilanceahaaGreat
open Go.RowKit Limbs
variable{n P k:Nat}{w W:World}{zs ls:List Int}{v:Value}
def VecN (w:World)(v:Value)(zs:List Int)(n:Nat):Prop:=
 ∃ ao cap,v=.slice ao zs.length cap∧zs.length≤cap ∧
  (0<zs.length→∃ b off,ao=some ⟨b,off,none⟩∧b<w.heap.size∧∀ i,i<zs.length→∃(neg:Bool) (o:Option Addr) (l c:Nat),w.cell? ⟨b,off+i*2,none⟩=some (.bool neg)∧w.cell? ⟨b,off+i*2+1,none⟩=some (.slice o l c)∧NumL w (.agg #[.bool neg,.slice o l c]) (zs.getD i 0) n)
theorem VecN.below{C:Nat}{w':World}(h:VecN w v zs n)(hb:Below C w w')(hC:w.heap.size≤C):VecN w' v zs n:=by
 obtain⟨ao,cap,hv,h1,h2⟩:=h;refine⟨ao,cap,hv,h1,fun h0=>?_⟩;obtain⟨b,off,e,hlt,hc⟩:=h2 h0;refine⟨b,off,e,zT hlt hb.size,fun i hi=>?_⟩;obtain⟨neg,o,l,c,h3,h4,h5⟩:=hc i hi;exact⟨neg,o,l,c,(hb.cell (p:=⟨b,off+i*2,none⟩) (zT hlt hC)).trans h3,(hb.cell (p:=⟨b,off+i*2+1,none⟩) (zT hlt hC)).trans h4,h5.below hb hC⟩
theorem VecN.at{b off cap:Nat}(h:VecN w (.slice (some ⟨b,off,none⟩) zs.length cap) zs n)(i:Nat)(hi:i<zs.length):b<w.heap.size∧∃(neg:Bool) (o:Option Addr) (l c:Nat),w.cell? ⟨b,off+i*2,none⟩=some (.bool neg)∧w.cell? ⟨b,off+i*2+1,none⟩=some (.slice o l c)∧NumL w (.agg #[.bool neg,.slice o l c]) (zs.getD i 0) n:=by
 obtain⟨_,_,e,-,hc⟩:=h;simp only [zV,true_and] at e;obtain⟨rfl,rfl⟩:=e;obtain⟨_,_,e,hlt,hc⟩:=hc (by omega);simp only [Option.some.injEq,Addr.mk.injEq,and_true] at e;obtain⟨rfl,rfl⟩:=e;exact⟨hlt,hc i hi⟩
theorem VecN.form(h:VecN w v zs n)(h0:0<zs.length):∃ b off cap,v=.slice (some ⟨b,off,none⟩) zs.length cap:=by
 obtain⟨ao,cap,rfl,-,hc⟩:=h;obtain⟨b,off,rfl,-⟩:=hc h0;exact⟨b,off,cap,rfl⟩
theorem zfD{ys:List Int}(h1:k<zs.length)(h2:k<ys.length)(h:zs.take k=ys.take k)(e:zs.getD k 0=ys.getD k 0):zs.take (k+1)=ys.take (k+1):=by
 rw [List.take_succ_eq_append_getElem h1,List.take_succ_eq_append_getElem h2,h];rw [zG,zG,List.getElem?_eq_getElem h1,List.getElem?_eq_getElem h2] at e;simp only [Option.getD_some] at e;rw [e]
theorem zbv{wr w3:World}{B:Nat}{t:TypeId}{x:Value}{xs:List Value}(hown:wr.ownsRow B t 1 v n xs)(hB:B≤wr.heap.size)(hg:(wr.alloc (.cells #[x] t)).grownBy w3 v.ownBlock):Below B wr w3:=
 ((zB _ _).alloc hB _).grown hg (by simp;omega) (fun k hk=>(hown.lt k hk).1)
theorem Lim.owns{base:Nat}(h:w.ownsRow base 112 1 v n (ls.map (Value.int .u32)))(hd:LB ls)(hl:ls.length≤1000000):Lim w v ls:=by
 have hn:n=ls.length:=by have:=h.1;rw [zM] at this;omega
 subst hn;rcases h.2 with⟨rfl,h0⟩ |⟨g,cap,cur,rfl,hb,hg,hc,hm,hs,ht⟩
 ·have:ls=[]:=List.eq_nil_of_length_eq_zero h0;subst this;exact⟨none,0,rfl,Nat.le_refl _,by simp,hd,fun h=>absurd h (by simp)⟩
 ·refine⟨_,cap,rfl,hc,hl,hd,fun h0=>⟨g,0,rfl,zm hg,fun i hi=>?_⟩⟩;have:=h.cellAt i (by omega);rw [Nat.zero_add,this];simp [List.getD_eq_getElem?_getD,hi]
theorem zfO(h:LB ls){r:Int}(hr:0≤r∧r<4294967296):LB (ls++[r]):=by
 intro i;rw [zG];rcases Nat.lt_trichotomy i ls.length with hi | hi | hi
 ·rw [List.getElem?_append_left hi,← zG];exact h i
 ·subst hi;simp;omega
 ·rw [List.getElem?_eq_none (by simp;omega)];simp
theorem zij (ls:List Int)(r:Int):lv (ls++[r])=lv ls+bp ls.length*r:=by
 rw [zda];simp [lv]
theorem Tryz.infoNum:(Tryz.prog.info? 90).map (fun i=>(i.zero,i.size,i.bytes))=some (some (.agg #[.bool false,.slice none 0 0]),2,32):=by kernel_rfl
theorem zds (m:Nat)(hm:m≤1000)(W:World):(Instr.makeSlice 62 (.int .i64 (m:Int)) (.int .i64 (m:Int))).run Tryz.prog W=.ok (.slice (some ⟨W.heap.size,0,none⟩) m m) (W.alloc (.cells (madeCells #[.bool false,.slice none 0 0] (m*2)) 90)):=by
 obtain⟨i0,hi,hz0,hz1,hz2⟩:=info_parts Tryz.infoNum;have h:=run_make (P:=Tryz.prog) W 62 90 i0 (.agg #[.bool false,.slice none 0 0]) (by kernel_rfl) hi hz0 .i64 .i64 m m (by omega) (by omega) (by rw [hz2];omega) (by omega);rw [hz1,Int.toNat_natCast] at h;exact h
theorem NumL.nought (w:World)(n:Nat):NumL w (.agg #[.bool false,.slice none 0 0]) 0 n:=
 ⟨false,.slice none 0 0,[],rfl,⟨none,0,rfl,Nat.le_refl _,by simp,zaF,fun h=>absurd h (by simp)⟩,Or.inl rfl,fun _=>rfl,by simp [lv],by simp⟩
structure VecO (w W:World)(P:Nat)(zs:List Int)(n:Nat):Prop where
 vec:VecN W (.slice (some ⟨P,0,none⟩) zs.length zs.length) zs n
 low:w.heap.size≤P
 below:Below w.heap.size w W
 blk:∃ cs,W.heap[P]?=some (.cells cs 90)
theorem VecO.lt(h:VecO w W P zs n):P<W.heap.size:=by
 obtain⟨cs,e⟩:=h.blk;exact zm e
theorem VecO.later{W':World}(h:VecO w W P zs n)(hb:Below W.heap.size W W'):VecO w W' P zs n where
 vec:=h.vec.below hb zL
 low:=h.low
 below:=h.below.trans (hb.mono h.below.size)
 blk:=by obtain⟨cs,e⟩:=h.blk;exact⟨cs,(hb.block _ (zm e)).trans e⟩
theorem VecO.drew(h:VecO w W P zs n):VecO w W.drew P zs n:=⟨h.vec,h.low,h.below.drew,h.blk⟩
theorem VecO.thaw(h:VecO w W P zs n)(k:Nat):W.frozen? ⟨P,k,none⟩=false:=by
 obtain⟨cs,e⟩:=h.blk;simp [World.frozen?,e]
theorem VecN.mono{m:Nat}(h:VecN w v zs n)(hm:n≤m):VecN w v zs m:=by
 obtain⟨ao,cap,hv,h1,h2⟩:=h;refine⟨ao,cap,hv,h1,fun h0=>?_⟩;obtain⟨b,off,e,hlt,hc⟩:=h2 h0;refine⟨b,off,e,hlt,fun i hi=>?_⟩;obtain⟨neg,o,l,c,h3,h4,h5⟩:=hc i hi;exact⟨neg,o,l,c,h3,h4,h5.mono hm⟩
theorem zeO (m i:Nat)(hi:i<m):(madeCells #[.bool false,.slice none 0 0] (m*2))[i*2]?=some (.bool false)∧(madeCells #[.bool false,.slice none 0 0] (m*2))[i*2+1]?=some (.slice none 0 0):=by
 have h1:i*2<m*2:=by omega
 have h2:i*2+1<m*2:=by omega
 have e1:i*2%2=0:=by omega
 have e2:(i*2+1)%2=1:=by omega
 constructor
 ·simp [madeCells,h1,e1]
 ·simp [madeCells,h2,e2]
theorem VecO.made (w W:World)(hb:Below w.heap.size w W)(m n:Nat):VecO w (W.alloc (.cells (madeCells #[.bool false,.slice none 0 0] (m*2)) 90)) W.heap.size (List.replicate m 0) n where
 vec:=by
  refine⟨_,_,rfl,Nat.le_refl _,fun h0=>⟨_,_,rfl,by simp,fun i hi=>⟨false,none,0,0,?_,?_,?_⟩⟩⟩
  ·rw [List.length_replicate] at hi;rw [Nat.zero_add,World.cell?_alloc_new];exact(zeO m i hi).1
  ·rw [List.length_replicate] at hi;rw [Nat.zero_add,World.cell?_alloc_new];exact(zeO m i hi).2
  ·have e:(List.replicate m (0:Int)).getD i 0=0:=by
    rw [zG,List.getElem?_replicate];split <;> rfl
   rw [e];exact NumL.nought _ _
 low:=hb.size
 below:=hb.alloc hb.size _
 blk:=⟨_,heap_alloc_new W _⟩
theorem VecO.at(h:VecO w W P zs n)(i:Nat)(hi:i<zs.length):∃(neg:Bool) (o:Option Addr) (l c:Nat),W.cell? ⟨P,i*2,none⟩=some (.bool neg)∧W.cell? ⟨P,i*2+1,none⟩=some (.slice o l c)∧NumL W (.agg #[.bool neg,.slice o l c]) (zs.getD i 0) n:=by
 have:=(h.vec.at i hi).2;simpa only [Nat.zero_add] using this
theorem VecO.set(h:VecO w W P zs n)(hk:k<zs.length){neg:Bool}{o:Option Addr}{l c:Nat}{z:Int}(hz:NumL W (.agg #[.bool neg,.slice o l c]) z n):
  VecO w ((W.setCell ⟨P,k*2,none⟩ (.bool neg)).setCell ⟨P,k*2+1,none⟩ (.slice o l c)) P (zs.set k z) n:=by
 obtain⟨neg0,o0,l0,c0,k0,k1,-⟩:=h.at k hk;have k1':(W.setCell ⟨P,k*2,none⟩ (.bool neg)).cell? ⟨P,k*2+1,none⟩=some (.slice o0 l0 c0):=(World.cell?_setCell_other (h:=fun e=>by simp at e) ..).trans k1
 have keep:∀ {v:Value} {y:Int},NumL W v y n→NumL ((W.setCell ⟨P,k*2,none⟩ (.bool neg)).setCell ⟨P,k*2+1,none⟩ (.slice o l c)) v y n:=fun hv=>
  (hv.setCell k0 (fun z e=>by cases e)).setCell k1' (fun z e=>by cases e)
 have hlen:(zs.set k z).length=zs.length:=List.length_set;refine⟨?_,h.low,(h.below.setCell (by exact h.low) _).setCell (by exact h.low) _,?_⟩
 ·refine⟨_,_,rfl,by omega,fun h0=>⟨_,_,rfl,by simpa using h.lt,fun i hi=>?_⟩⟩;rw [hlen] at hi;by_cases hik:i=k
  ·subst hik;refine⟨neg,o,l,c,?_,?_,?_⟩
   ·rw [Nat.zero_add];exact(World.cell?_setCell_other (h:=fun e=>by simp at e) ..).trans (World.cell?_setCell_same (h:=k0) ..)
   ·rw [Nat.zero_add];exact World.cell?_setCell_same (h:=k1') ..
   ·have e:(zs.set i z).getD i 0=z:=by
     rw [zG,List.getElem?_set_self hi];rfl
    rw [e];exact keep hz
  ·obtain⟨neg1,o1,l1,c1,m0,m1,m2⟩:=h.at i hi;refine⟨neg1,o1,l1,c1,?_,?_,?_⟩
   ·rw [Nat.zero_add];exact((World.cell?_setCell_other (h:=fun e=>by simp at e <;> omega) ..).trans (World.cell?_setCell_other (h:=fun e=>by simp at e <;> omega) ..)).trans m0
   ·rw [Nat.zero_add];exact((World.cell?_setCell_other (h:=fun e=>by simp at e <;> omega) ..).trans (World.cell?_setCell_other (h:=fun e=>by simp at e <;> omega) ..)).trans m1
   ·have e:(zs.set k z).getD i 0=zs.getD i 0:=by
     rw [zG,zG,List.getElem?_set_ne (by omega)]
    rw [e];exact keep m2
 ·obtain⟨cs,e⟩:=h.blk;exact⟨_,heap_setCell_same _ P (k*2+1) _ _ _ (heap_setCell_same W P (k*2) _ _ _ e)⟩
theorem zcV (zs:List Int)(k:Nat)(hk:k<zs.length):(zs.take k++List.replicate (zs.length-k) 0).set k (zs.getD k 0)=zs.take (k+1)++List.replicate (zs.length-(k+1)) 0:=by
 have e:zs.length-k=(zs.length-(k+1))+1:=by omega
 have hl:(zs.take k).length=k:=by rw [List.length_take];omega
 rw [e,List.replicate_succ,List.set_append_right _ _ (by omega),hl,Nat.sub_self,List.set_cons_zero,List.take_succ_eq_append_getElem hk,zG,List.getElem?_eq_getElem hk,Option.getD_some,List.append_assoc,List.singleton_append]
theorem zcU (zs:List Int)(k:Nat)(hk:k≤zs.length):(zs.take k++List.replicate (zs.length-k) 0).length=zs.length:=by
 rw [List.length_append,List.length_take,List.length_replicate];omega
def VecPost (w:World)(zs:List Int)(n:Nat)(e:Ending)(w':World):Prop:=
 ∃ P,e=.returned (.slice (some ⟨P,0,none⟩) zs.length zs.length)∧VecO w w' P zs n
theorem VecO.full(h:VecO w W P (zs.take zs.length++List.replicate (zs.length-zs.length) 0) n):VecO w W P zs n:=by
 rwa [List.take_length,Nat.sub_self,List.replicate_zero,List.append_nil] at h
def first:List Int→Int
 | []=>-1
 | z::zs=>if z=0 then (if first zs<0 then -1 else first zs+1) else 0
theorem zp (f:Int→Int→Int)(xs ys:List Int)(h:xs.length=ys.length)(k:Nat)(hk:k<xs.length):(List.zipWith f xs ys).getD k 0=f (xs.getD k 0) (ys.getD k 0):=by
 rw [zG,List.getElem?_zipWith,zG,zG,List.getElem?_eq_getElem hk,List.getElem?_eq_getElem (by omega)];rfl
theorem zz (f:Int→Int→Int)(xs ys:List Int)(h:xs.length=ys.length):(List.zipWith f xs ys).length=xs.length:=by
 rw [List.length_zipWith];omega
theorem zio (f:Int→Int)(xs:List Int)(k:Nat)(hk:k<xs.length):(xs.map f).getD k 0=f (xs.getD k 0):=by
 rw [zG,List.getElem?_map,zG,List.getElem?_eq_getElem hk];rfl
theorem zgu{A:Nat}{u0 u1:Value}(hA:Box W A u0 u1)(hne:A≠P)(k:Nat)(v0 v1:Value):Box ((W.setCell ⟨P,k*2,none⟩ v0).setCell ⟨P,k*2+1,none⟩ v1) A u0 u1:=
 (hA.other hne _ _).other hne _ _
theorem zjj (w:World)(vk va:Value)(z:Int)(xs:List Int)(m n:Nat)(hk:NumL w vk z m)(ha:VecN w va xs n)(h8:xs.length≤1000)(hm:m≤200000)(hn:n≤200000):
  Calls Tryz.prog 81 #[vk,va] w fun e w'=>VecPost w (xs.map (z*·)) (m+n) e w':=by
 have HA:=hide ha;have HK:=hide hk;obtain⟨⟨kn,ko,kl,kc⟩,rfl⟩:=hk.nm;have hlt:(xs.map (z*·)).length=xs.length:=zM ..;have HZ:=hide (zio (z*·) xs);obtain⟨ao,acap,rfl,-,-⟩:=ha;clear hk;have hmk:=zds xs.length (by omega);have HI:Hid (VecO w ((w.alloc (.cells #[.bool kn,.slice ko kl kc] 90)).alloc (.cells (madeCells #[.bool false,.slice none 0 0] (xs.length*2)) 90)) (w.heap.size+1) (List.replicate (xs.map (z*·)).length 0) (m+n)):=by
  rw [hlt];have:=VecO.made w (w.alloc (.cells #[.bool kn,.slice ko kl kc] 90)) ((zB _ _).alloc zL _) xs.length (m+n)
  rwa [World.size_alloc] at this
 have HX:Hid (Box ((w.alloc (.cells #[.bool kn,.slice ko kl kc] 90)).alloc (.cells (madeCells #[.bool false,.slice none 0 0] (xs.length*2)) 90)) w.heap.size (.bool kn) (.slice ko kl kc)):=
  (zl w _ _ _ _ rfl).later ((zB _ _).alloc (by simp) _:Below (w.heap.size+1) _ _) (by omega)
 have hpost:∀ W,VecO w W (w.heap.size+1) (xs.map (z*·)) (m+n)→VecPost w (xs.map (z*·)) (m+n) (.returned (.slice (some ⟨w.heap.size+1,0,none⟩) xs.length xs.length)) W:=fun W h=>⟨_,by rw [hlt],h⟩;have HPOST:=hide hpost;clear hpost;generalize hts:xs.map (z*·)=ts at *;clear hts;go_enter Tryz.func81,Tryz.ntmps81;go_wp2;clear hmk;go_loopw [12] (fun i wr=>∃ k:Nat,k≤xs.length∧i=.int .i64 k∧VecO w wr (w.heap.size+1) (ts.take k++List.replicate (ts.length-k) 0) (m+n)∧Hid (Box wr w.heap.size (.bool kn) (.slice ko kl kc))) (fun i _=>xs.length-(intOf i).toNat)
 case atStart=>exact⟨0,Nat.zero_le _,rfl,HI.out,HX⟩
 case round=>
  clear HI HX;obtain⟨k,hk,rfl,hinv,HX⟩:=hrel;have HI:=hide hinv;clear hinv;by_cases hkl:k<xs.length
  ·obtain⟨ab,aoff,_,e⟩:=HA.out.form (by omega);simp only [zV,true_and] at e;obtain⟨rfl,rfl⟩:=e;obtain⟨la,an,ao,al,ac,a0,a1,na⟩:=(HA.out.below HI.out.below zL).at k hkl;obtain⟨b0,b1,-,-⟩:=HX.out;have NA:=hide na;have NK':NumL wr (.agg #[.bool kn,.slice ko kl kc]) z m:=HK.out.below HI.out.below zL;have HFS:=hide (zcV ts k (by omega));rw [HZ.out k hkl] at HFS;have hfl:=zcU ts k (by omega);clear na;generalize xs.getD k 0=x at *;go_wp2_with fail;refine zy (S:=(fun w'=>w'.cell? ⟨ab,aoff+k*2,none⟩=some (.bool an)∧w'.cell? ⟨ab,aoff+k*2+1,none⟩=some (.slice ao al ac)∧w'.cell? ⟨w.heap.size,0,none⟩=some (.bool kn)∧w'.cell? ⟨w.heap.size,1,none⟩=some (.slice ko kl kc))) (k:=9) (by kernel_rfl) (by(try dsimp only);go_keep) (fun hHeld=>?_);refine zf 0 15 [8,9] ?_;try simp only [zA]
   refine zf 1 16 [8,9] ?_;try simp only [zA]
   refine zf 2 17 [7,9] ?_;try simp only [zA]
   refine zf 3 18 [5,6,7,9] ?_;try simp only [zA]
   refine zf 4 19 [5,6,7,9] ?_;try simp only [zA]
   refine zf 5 20 [6,7,9] ?_;try simp only [zA]
   refine zf 6 21 [7,9] ?_;try simp only [zA]
   refine zg 7 (by kernel_rfl) rfl (fun K hK=>?_);go_simp
   (refine(zbK _ _ _ z x m n (by exact NK') (by exact NA.out) (by omega) (by omega)).mono ?_;rintro e w2 ⟨r,rfl,hr,hb⟩;obtain⟨⟨rn,ro,rl,rc⟩,rfl⟩:=hr.nm;have HI2:=hide (HI.out.drew.later hb);obtain⟨neg0,o0,l0,c0',k0,k1,-⟩:=HI2.out.at k (by omega);have f0:=HI2.out.thaw (k*2);have f1:=HI2.out.thaw (k*2+1);have hP:=HI2.out.lt;have p0:=(hb.cell (p:=⟨ab,aoff+k*2,none⟩) la).trans a0;have p1:=(hb.cell (p:=⟨ab,aoff+k*2+1,none⟩) la).trans a1;have HX2:=hide (show Box w2 w.heap.size _ _ from HX.out.later (drewed hb) (show w.heap.size<wr.heap.size by have:=HI.out.lt;omega));obtain⟨p2,p3,-,-⟩:=HX2.out;have HN:=hide (HI2.out.set (k:=k) (by omega) hr);have HXN:=hide (zgu (P:=w.heap.size+1) HX2.out (by omega) k (.bool rn) (.slice ro rl rc));rw [HFS.out] at HN;clear hb hr HI HI2 HFS)
   go_wp2_with fail;refine hK.out _ _ (fun _=>by(try dsimp only);go_keep) ?_;clear hK K;try simp only [zA]
   refine zg 8 (by kernel_rfl) rfl (fun K hK=>?_);go_simp;refine hK.out _ _ (fun _=>by(try dsimp only);go_keep) ?_;clear hK K;try simp only [zA]
   refine zg 9 (by kernel_rfl) rfl (fun K hK=>?_);go_simp;refine hK.out _ _ (fun h=>absurd h (by decide)) ?_;clear hK K;try simp only [zA]
   refine zx (by kernel_rfl) ?_;clear p0 p1 p2 p3 a0 a1 b0 b1 k0 k1 f0 f1 NA NK';go_wp2;go_roundw
   case rel=>exact⟨k+1,by omega,by go_num,HN.out,HXN⟩
   case measure=>simp [intOf];omega
  ·obtain rfl:k=xs.length:=by omega
   have HF:Hid (VecO w wr (w.heap.size+1) ts (m+n)):=by
    have:=HI.out;rw [← hlt] at this;exact this.full
   have HQ:=hide (HPOST.out wr HF.out);clear HI HF HPOST HX;go_wp2;go_ret;exact HQ.out
end Go.Proofs.YtncamilanceahaaGreat
