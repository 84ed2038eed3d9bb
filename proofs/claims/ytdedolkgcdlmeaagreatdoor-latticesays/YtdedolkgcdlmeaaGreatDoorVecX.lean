import Derived.Test.YtdedolkgcdlmeaaGreatDoorSnoc
import Derived.Laws.MakeOwn
set_option maxRecDepth 100000
set_option maxHeartbeats 4000000
namespace Go.Proofs.YtdedolkgcdlmeaaGreatDoor
open Go.RowKit Limbs
variable{w W:World}{P n:Nat}{zs:List Int}
theorem Tryz.infoNum:(Tryz.prog.info? 29).map (fun i=>(i.zero,i.size,i.bytes))=some (some (.agg #[.bool false,.slice none 0 0]),2,32):=by kernel_rfl
theorem za8 (m:Nat)(hm:m≤1000)(W:World):(Instr.makeSlice 72 (.int .i64 (m:Int)) (.int .i64 (m:Int))).run Tryz.prog W=.ok (.slice (some ⟨W.heap.size,0,none⟩) m m) (W.alloc (.cells (madeCells #[.bool false,.slice none 0 0] (m*2)) 29)):=by
 obtain⟨i0,hi,hz0,hz1,hz2⟩:=info_parts Tryz.infoNum;have h:=run_make (P:=Tryz.prog) W 72 29 i0 (.agg #[.bool false,.slice none 0 0]) (by kernel_rfl) hi hz0 .i64 .i64 m m (by omega) (by omega) (by rw [hz2];omega) (by omega);rw [hz1,Int.toNat_natCast] at h;exact h
theorem NumL.nought (w:World)(n:Nat):NumL w (.agg #[.bool false,.slice none 0 0]) 0 n:=
 ⟨false,.slice none 0 0,[],rfl,⟨none,0,rfl,Nat.le_refl _,by simp,zaJ,fun h=>absurd h (by simp)⟩,Or.inl rfl,fun _=>rfl,by simp [lv],by simp⟩
structure VecO (w W:World)(P:Nat)(zs:List Int)(n:Nat):Prop where
 vec:VecN W (.slice (some ⟨P,0,none⟩) zs.length zs.length) zs n
 low:w.heap.size≤P
 below:Below w.heap.size w W
 blk:∃ cs,W.heap[P]?=some (.cells cs 29)
theorem VecO.lt(h:VecO w W P zs n):P<W.heap.size:=by
 obtain⟨cs,e⟩:=h.blk;exact zj e
theorem VecO.later{W':World}(h:VecO w W P zs n)(hb:Below W.heap.size W W'):VecO w W' P zs n where
 vec:=h.vec.below hb zL
 low:=h.low
 below:=h.below.trans (hb.mono h.below.size)
 blk:=by obtain⟨cs,e⟩:=h.blk;exact⟨cs,(hb.block _ (zj e)).trans e⟩
theorem VecO.drew(h:VecO w W P zs n):VecO w W.drew P zs n:=⟨h.vec,h.low,h.below.drew,h.blk⟩
theorem VecO.thaw(h:VecO w W P zs n)(k:Nat):W.frozen? ⟨P,k,none⟩=false:=by
 obtain⟨cs,e⟩:=h.blk;simp [World.frozen?,e]
theorem VecN.mono{v:Value}{m:Nat}(h:VecN w v zs n)(hm:n≤m):VecN w v zs m:=by
 obtain⟨ao,cap,hv,h1,h2⟩:=h;refine⟨ao,cap,hv,h1,fun h0=>?_⟩;obtain⟨b,off,e,hlt,hc⟩:=h2 h0;refine⟨b,off,e,hlt,fun i hi=>?_⟩;obtain⟨neg,o,l,c,h3,h4,h5⟩:=hc i hi;exact⟨neg,o,l,c,h3,h4,h5.mono hm⟩
theorem zfk (m i:Nat)(hi:i<m):(madeCells #[.bool false,.slice none 0 0] (m*2))[i*2]?=some (.bool false)∧(madeCells #[.bool false,.slice none 0 0] (m*2))[i*2+1]?=some (.slice none 0 0):=by
 have h1:i*2<m*2:=by omega
 have h2:i*2+1<m*2:=by omega
 have e1:i*2%2=0:=by omega
 have e2:(i*2+1)%2=1:=by omega
 constructor
 ·simp [madeCells,h1,e1]
 ·simp [madeCells,h2,e2]
theorem VecO.made (w W:World)(hb:Below w.heap.size w W)(m n:Nat):VecO w (W.alloc (.cells (madeCells #[.bool false,.slice none 0 0] (m*2)) 29)) W.heap.size (List.replicate m 0) n where
 vec:=by
  refine⟨_,_,rfl,Nat.le_refl _,fun h0=>⟨_,_,rfl,by simp,fun i hi=>⟨false,none,0,0,?_,?_,?_⟩⟩⟩
  ·rw [List.length_replicate] at hi;rw [Nat.zero_add,World.cell?_alloc_new];exact(zfk m i hi).1
  ·rw [List.length_replicate] at hi;rw [Nat.zero_add,World.cell?_alloc_new];exact(zfk m i hi).2
  ·have e:(List.replicate m (0:Int)).getD i 0=0:=by
    rw [zG,List.getElem?_replicate];split <;> rfl
   rw [e];exact NumL.nought _ _
 low:=hb.size
 below:=hb.alloc hb.size _
 blk:=⟨_,heap_alloc_new W _⟩
theorem VecO.at(h:VecO w W P zs n)(i:Nat)(hi:i<zs.length):∃(neg:Bool) (o:Option Addr) (l c:Nat),W.cell? ⟨P,i*2,none⟩=some (.bool neg)∧W.cell? ⟨P,i*2+1,none⟩=some (.slice o l c)∧NumL W (.agg #[.bool neg,.slice o l c]) (zs.getD i 0) n:=by
 have:=(h.vec.at i hi).2;simpa only [Nat.zero_add] using this
theorem VecO.set(h:VecO w W P zs n){k:Nat}(hk:k<zs.length){neg:Bool}{o:Option Addr}{l c:Nat}{z:Int}(hz:NumL W (.agg #[.bool neg,.slice o l c]) z n):
  VecO w ((W.setCell ⟨P,k*2,none⟩ (.bool neg)).setCell ⟨P,k*2+1,none⟩ (.slice o l c)) P (zs.set k z) n:=by
 obtain⟨neg0,o0,l0,c0,k0,k1,-⟩:=h.at k hk;have k1':(W.setCell ⟨P,k*2,none⟩ (.bool neg)).cell? ⟨P,k*2+1,none⟩=some (.slice o0 l0 c0):=(World.cell?_setCell_other (h:=fun e=>by simp at e) ..).trans k1
 have keep:∀ {v:Value} {y:Int},NumL W v y n→NumL ((W.setCell ⟨P,k*2,none⟩ (.bool neg)).setCell ⟨P,k*2+1,none⟩ (.slice o l c)) v y n:=fun hv=>
  (hv.setCell k0 (fun z e=>by cases e)).setCell k1' (fun z e=>by cases e)
 have hlen:(zs.set k z).length=zs.length:=List.length_set;refine⟨?_,h.low,(h.below.setCell (by exact h.low) _).setCell (by exact h.low) _,?_⟩
 ·refine⟨_,_,rfl,by omega,fun h0=>⟨_,_,rfl,by simpa using h.lt,fun i hi=>?_⟩⟩;rw [hlen] at hi;by_cases hik:i=k
  ·subst hik;refine⟨neg,o,l,c,?_,?_,?_⟩
   ·rw [Nat.zero_add];exact(World.cell?_setCell_other (h:=fun e=>by simp at e) ..).trans (World.cell?_setCell_same (h:=k0) ..)
   ·rw [Nat.zero_add];exact World.cell?_setCell_same (h:=k1') ..
   ·have e:(zs.set i z).getD i 0=z:=by
     rw [zG,List.getElem?_set_self hi];rfl
    rw [e];exact keep hz
  ·obtain⟨neg1,o1,l1,c1,m0,m1,m2⟩:=h.at i hi;refine⟨neg1,o1,l1,c1,?_,?_,?_⟩
   ·rw [Nat.zero_add];exact((World.cell?_setCell_other (h:=fun e=>by simp at e <;> omega) ..).trans (World.cell?_setCell_other (h:=fun e=>by simp at e <;> omega) ..)).trans m0
   ·rw [Nat.zero_add];exact((World.cell?_setCell_other (h:=fun e=>by simp at e <;> omega) ..).trans (World.cell?_setCell_other (h:=fun e=>by simp at e <;> omega) ..)).trans m1
   ·have e:(zs.set k z).getD i 0=zs.getD i 0:=by
     rw [zG,zG,List.getElem?_set_ne (by omega)]
    rw [e];exact keep m2
 ·obtain⟨cs,e⟩:=h.blk;exact⟨_,heap_setCell_same _ P (k*2+1) _ _ _ (heap_setCell_same W P (k*2) _ _ _ e)⟩
theorem zbj (zs:List Int)(k:Nat)(hk:k<zs.length):(zs.take k++List.replicate (zs.length-k) 0).set k (zs.getD k 0)=zs.take (k+1)++List.replicate (zs.length-(k+1)) 0:=by
 have e:zs.length-k=(zs.length-(k+1))+1:=by omega
 have hl:(zs.take k).length=k:=by rw [List.length_take];omega
 rw [e,List.replicate_succ,List.set_append_right _ _ (by omega),hl,Nat.sub_self,List.set_cons_zero,List.take_succ_eq_append_getElem hk,zG,List.getElem?_eq_getElem hk,Option.getD_some,List.append_assoc,List.singleton_append]
theorem zaR (zs:List Int)(k:Nat)(hk:k≤zs.length):(zs.take k++List.replicate (zs.length-k) 0).length=zs.length:=by
 rw [List.length_append,List.length_take,List.length_replicate];omega
def VecPost (w:World)(zs:List Int)(n:Nat)(e:Ending)(w':World):Prop:=
 ∃ P,e=.returned (.slice (some ⟨P,0,none⟩) zs.length zs.length)∧VecO w w' P zs n
theorem VecO.full(h:VecO w W P (zs.take zs.length++List.replicate (zs.length-zs.length) 0) n):VecO w W P zs n:=by
 rwa [List.take_length,Nat.sub_self,List.replicate_zero,List.append_nil] at h
theorem zaW (w:World)(v:Value)(ks:List Int)(hv:RowS w v ks)(h8:ks.length≤1000):
  Calls Tryz.prog 49 #[v] w fun e w'=>VecPost w ks 2 e w':=by
 have HV:=hide hv;obtain⟨ao,cap,rfl,-,hk64,-⟩:=hv;have HK:=hide hk64;have hmk:=za8 ks.length (by omega);have HI:=hide (VecO.made w w (zB _ _) ks.length 2);clear hk64;go_enter Tryz.func49,Tryz.ntmps49;go_wp2;clear hmk;go_loopw [10] (fun i wr=>∃ k:Nat,k≤ks.length∧i=.int .i64 k∧VecO w wr w.heap.size (ks.take k++List.replicate (ks.length-k) 0) 2) (fun i _=>ks.length-(intOf i).toNat)
 case atStart=>exact⟨0,Nat.zero_le _,rfl,HI.out⟩
 case round=>
  clear HI;obtain⟨k,hk,rfl,hinv⟩:=hrel;have HI:=hide hinv;clear hinv;by_cases hkl:k<ks.length
  ·obtain⟨_,_,e,-,-,hc⟩:=HV.out.below HI.out.below zL;simp only [zV,true_and] at e;obtain⟨rfl,rfl⟩:=e;obtain⟨b,off,rfl,-,hc⟩:=hc (by omega);have c0:=hc k hkl;have HFS:=hide (zbj ks k hkl);have hfl:=zaR ks k hk;have H64:=hide (HK.out k);clear hc;generalize ks.getD k 0=z at *;go_wp2_with fail;refine(zaG wr z H64.out.1 H64.out.2).mono ?_;rintro e w2 ⟨r,rfl,hr,hb⟩;obtain⟨⟨rn,ro,rl,rc⟩,rfl⟩:=hr.nm;have HI2:=hide (HI.out.later hb);obtain⟨neg0,o0,l0,c0',k0,k1,-⟩:=HI2.out.at k (by omega);have f0:=HI2.out.thaw (k*2);have f1:=HI2.out.thaw (k*2+1);have hP:=HI2.out.lt;have HN:=hide (HI2.out.set (k:=k) (by omega) hr);rw [HFS.out] at HN;clear hb hr HI HI2 HFS H64 c0;go_wp2;go_roundw
   case rel=>exact⟨k+1,by omega,by go_num,HN.out⟩
   case measure=>simp [intOf];omega
  ·obtain rfl:k=ks.length:=by omega
   have HF:=hide HI.out.full;clear HI;go_wp2;go_ret;exact⟨_,rfl,HF.out⟩
def first:List Int→Int
 | []=>-1
 | z::zs=>if z=0 then (if first zs<0 then -1 else first zs+1) else 0
def firstFrom (zs:List Int)(k:Nat):Int:=if first (zs.drop k)<0 then -1 else first (zs.drop k)+k
theorem zdi (zs:List Int):-1≤first zs:=by
 induction zs with
 | nil=>exact Int.le_refl _
 | cons z zs ih=>unfold first;split <;>(try split) <;> omega
theorem zhX (zs:List Int)(k:Nat)(hk:k<zs.length)(h:zs.getD k 0≠0):firstFrom zs k=k:=by
 unfold firstFrom;have e:zs.drop k=zs.getD k 0::zs.drop (k+1):=zz zs k hk;rw [e,first,if_neg h];simp
theorem zhY (zs:List Int)(k:Nat)(hk:k<zs.length)(h:zs.getD k 0=0):firstFrom zs k=firstFrom zs (k+1):=by
 unfold firstFrom;have e:zs.drop k=zs.getD k 0::zs.drop (k+1):=zz zs k hk;have h1:=zdi (zs.drop (k+1));rw [e,first,if_pos h];by_cases h3:first (zs.drop (k+1))<0
 ·rw [if_pos h3,if_pos h3,if_pos (by decide)]
 ·rw [if_neg h3,if_neg h3,if_neg (by omega)];omega
theorem zbN (w:World)(v:Value)(zs:List Int)(n:Nat)(hv:VecN w v zs n)(hl:zs.length≤100000):
  Calls Tryz.prog 107 #[v] w fun e w'=>e=.returned (.int .i64 (first zs))∧Below w.heap.size w w':=by
 have HV:=hide hv;obtain⟨ao,cap,rfl,-,-⟩:=hv;go_enter Tryz.func107,Tryz.ntmps107;go_wp2;go_loopw [6] (fun i wr=>∃ k:Nat,k≤zs.length∧i=.int .i64 k∧Hid (first zs=firstFrom zs k)∧Below w.heap.size w wr) (fun i _=>zs.length-(intOf i).toNat)
 case atStart=>exact⟨0,Nat.zero_le _,rfl,by
  show _=_;unfold firstFrom;have:=zdi zs;rw [List.drop_zero];split <;> omega,zB _ _⟩
 case round=>
  obtain⟨k,hk,rfl,HG,hbe⟩:=hrel;have HBE:=hide hbe;clear hbe;by_cases hkl:k<zs.length
  ·obtain⟨ab,aoff,_,e⟩:=HV.out.form (by omega);simp only [zV,true_and] at e;obtain⟨rfl,rfl⟩:=e;obtain⟨la,an,ao,al,ac,a0,a1,na⟩:=(HV.out.below HBE.out zL).at k hkl;have NA:=hide na;clear na;have HH:=hide (zhX zs k hkl);have HM:=hide (zhY zs k hkl);generalize zs.getD k 0=z at *;go_wp2_with fail;refine(zak wr _ z n NA.out).mono ?_;rintro e w1 ⟨rfl,hb1⟩;have HB1:=hide (HBE.out.trans (hb1.mono HBE.out.size));clear hb1 HBE;by_cases hz:z=0
   ·have HG':=hide (HG.out.trans (HM.out hz));have ez:decide (z=0)=true:=decide_eq_true hz;rw [ez];clear HH HM HG NA a0 a1 ez;go_wp2;go_roundw
    case rel=>exact⟨k+1,by omega,by go_num,HG',HB1.out⟩
    case measure=>simp [intOf];omega
   ·have HE:=hide (HG.out.trans (HH.out hz));have ez:decide (z=0)=false:=decide_eq_false hz;rw [ez];clear HH HM HG NA a0 a1 ez;go_wp2;go_ret;exact⟨by rw [HE.out];rfl,HB1.out⟩
  ·obtain rfl:k=zs.length:=by omega
   have HE:Hid (first zs=-1):=by
    show _=_;rw [HG.out];unfold firstFrom;rw [List.drop_length,if_pos (by show(-1:Int)<0;decide)]
   clear HG;go_wp2;go_ret;exact⟨by rw [HE.out];rfl,HBE.out⟩
theorem zln (w:World)(v:Value)(zs:List Int)(n:Nat)(hv:VecN w v zs n)(hl:zs.length≤100000):
  Calls Tryz.prog 106 #[v] w fun e w'=>e=.returned (.bool (decide (first zs<0)))∧Below w.heap.size w w':=by
 have HV:=hide hv;clear hv;go_enter Tryz.func106,Tryz.ntmps106;go_wp2_with fail;refine(zbN w v zs n HV.out hl).mono ?_;rintro e w1 ⟨rfl,hb1⟩;have HB:=hide hb1;clear hb1 HV;go_wp2;go_ret;exact⟨rfl,HB.out⟩
theorem zi (f:Int→Int→Int)(xs ys:List Int)(h:xs.length=ys.length)(k:Nat)(hk:k<xs.length):(List.zipWith f xs ys).getD k 0=f (xs.getD k 0) (ys.getD k 0):=by
 rw [zG,List.getElem?_zipWith,zG,zG,List.getElem?_eq_getElem hk,List.getElem?_eq_getElem (by omega)];rfl
theorem zg (f:Int→Int→Int)(xs ys:List Int)(h:xs.length=ys.length):(List.zipWith f xs ys).length=xs.length:=by
 rw [List.length_zipWith];omega
theorem zdA (f:Int→Int)(xs:List Int)(k:Nat)(hk:k<xs.length):(xs.map f).getD k 0=f (xs.getD k 0):=by
 rw [zG,List.getElem?_map,zG,List.getElem?_eq_getElem hk];rfl
theorem zex{A:Nat}{u0 u1:Value}(hA:Box W A u0 u1)(hne:A≠P)(k:Nat)(v0 v1:Value):Box ((W.setCell ⟨P,k*2,none⟩ v0).setCell ⟨P,k*2+1,none⟩ v1) A u0 u1:=
 (hA.other hne _ _).other hne _ _
theorem togetherSub (w:World)(va vb:Value)(xs ys:List Int)(n:Nat)(ha:VecN w va xs n)(hb:VecN w vb ys n)(hl:xs.length=ys.length)(h8:xs.length≤1000)(hn:n≤100000):
  Calls Tryz.prog 134 #[va,vb,.func (.func 97) #[] #[]] w fun e w'=>∃ P,e=.returned (.tuple #[.slice (some ⟨P,0,none⟩) xs.length xs.length,.nilIface])∧VecO w w' P (List.zipWith (fun x y=>x-y) xs ys) (n+1):=by
 have HA:=hide ha;have HB:=hide hb;have hlt:=zg (fun x y=>x-y) xs ys hl;have HZ:=hide (zi (fun x y=>x-y) xs ys hl);obtain⟨ao,acap,rfl,-,-⟩:=ha;obtain⟨bo,bcap,rfl,-,-⟩:=hb;have hl1:((xs.length:Int) ==(ys.length:Int))=true:=by rw [beq_iff_eq];omega
 have hl2:((xs.length:Int) !=(ys.length:Int))=false:=by rw [bne_eq_false_iff_eq];omega
 have HL:=hide hl;clear hl;have hmk:=za8 xs.length (by omega);have HI:Hid (VecO w (w.alloc (.cells (madeCells #[.bool false,.slice none 0 0] (xs.length*2)) 29)) w.heap.size (List.replicate (List.zipWith (fun x y=>x-y) xs ys).length 0) (n+1)):=by
  rw [hlt];exact VecO.made w w (zB _ _) xs.length (n+1)
 generalize List.zipWith (fun x y=>x-y) xs ys=ts at *;go_enter Tryz.func134,Tryz.ntmps134;go_wp2;clear hmk;go_loopw [21] (fun i wr=>∃ k:Nat,k≤xs.length∧i=.int .i64 k∧VecO w wr w.heap.size (ts.take k++List.replicate (ts.length-k) 0) (n+1)) (fun i _=>xs.length-(intOf i).toNat)
 case atStart=>exact⟨0,Nat.zero_le _,rfl,HI.out⟩
 case round=>
  clear HI;obtain⟨k,hk,rfl,hinv⟩:=hrel;have HI:=hide hinv;clear hinv;by_cases hkl:k<xs.length
  ·obtain⟨ab,aoff,_,e⟩:=HA.out.form (by omega);simp only [zV,true_and] at e;obtain⟨rfl,rfl⟩:=e;obtain⟨bb,boff,_,e⟩:=HB.out.form (by have:=HL.out;omega);simp only [zV,true_and] at e;obtain⟨rfl,rfl⟩:=e;obtain⟨la,an,ao,al,ac,a0,a1,na⟩:=(HA.out.below HI.out.below zL).at k hkl;obtain⟨lb,bn,bo,bl,bc,b0,b1,nb⟩:=(HB.out.below HI.out.below zL).at k (by have:=HL.out;omega);have NA:=hide na;have NB:=hide nb;have hky:k<ys.length:=by have:=HL.out;omega
   have HFS:=hide (zbj ts k (by omega));rw [HZ.out k hkl] at HFS;have hfl:=zaR ts k (by omega);clear na nb;generalize xs.getD k 0=x at *;generalize ys.getD k 0=y at *;go_wp2_with fail;refine zp (S:=(fun w'=>w'.cell? ⟨ab,aoff+k*2,none⟩=some (.bool an)∧w'.cell? ⟨ab,aoff+k*2+1,none⟩=some (.slice ao al ac)∧w'.cell? ⟨bb,boff+k*2,none⟩=some (.bool bn)∧w'.cell? ⟨bb,boff+k*2+1,none⟩=some (.slice bo bl bc))) (k:=13) (by kernel_rfl) (by(try dsimp only);go_keep) (fun hHeld=>?_);refine zd 0 24 [12,13] ?_;try simp only [zA]
   refine zd 1 25 [12,13] ?_;try simp only [zA]
   refine zd 2 26 [11,13] ?_;try simp only [zA]
   refine zd 3 27 [5,6,11,13] ?_;try simp only [zA]
   refine zd 4 28 [5,6,11,13] ?_;try simp only [zA]
   refine zd 5 29 [6,11,13] ?_;try simp only [zA]
   refine zd 6 30 [11,13] ?_;try simp only [zA]
   refine zd 7 31 [9,10,11,13] ?_;try simp only [zA]
   refine zd 8 32 [9,10,11,13] ?_;try simp only [zA]
   refine zd 9 33 [10,11,13] ?_;try simp only [zA]
   refine zd 10 34 [11,13] ?_;try simp only [zA]
   refine ze 11 (by kernel_rfl) rfl (fun K hK=>?_);go_simp
   (refine(zdX _ _ _ x y n (by exact NA.out) (by exact NB.out) (by omega)).mono ?_;rintro e w2 ⟨r,rfl,hr,hb⟩;obtain⟨⟨rn,ro,rl,rc⟩,rfl⟩:=hr.nm;have HI2:=hide (HI.out.drew.later hb);obtain⟨neg0,o0,l0,c0',k0,k1,-⟩:=HI2.out.at k (by omega);have f0:=HI2.out.thaw (k*2);have f1:=HI2.out.thaw (k*2+1);have hP:=HI2.out.lt;have p0:=(hb.cell (p:=⟨ab,aoff+k*2,none⟩) la).trans a0;have p1:=(hb.cell (p:=⟨ab,aoff+k*2+1,none⟩) la).trans a1;have p2:=(hb.cell (p:=⟨bb,boff+k*2,none⟩) lb).trans b0;have p3:=(hb.cell (p:=⟨bb,boff+k*2+1,none⟩) lb).trans b1;have HN:=hide (HI2.out.set (k:=k) (by omega) hr);rw [HFS.out] at HN;clear hb hr HI HI2 HFS)
   go_wp2_with fail;refine hK.out _ _ (fun _=>by(try dsimp only);go_keep) ?_;clear hK K;try simp only [zA]
   refine ze 12 (by kernel_rfl) rfl (fun K hK=>?_);go_simp;refine hK.out _ _ (fun _=>by(try dsimp only);go_keep) ?_;clear hK K;try simp only [zA]
   refine ze 13 (by kernel_rfl) rfl (fun K hK=>?_);go_simp;refine hK.out _ _ (fun h=>absurd h (by decide)) ?_;clear hK K;try simp only [zA]
   refine zn (by kernel_rfl) ?_;clear p0 p1 p2 p3 a0 a1 b0 b1 k0 k1 f0 f1 NA NB;go_wp2;go_roundw
   case rel=>exact⟨k+1,by omega,by go_num,HN.out⟩
   case measure=>simp [intOf];omega
  ·obtain rfl:k=xs.length:=by omega
   have HF:Hid (VecO w wr w.heap.size ts (n+1)):=by
    have:=HI.out;rw [← hlt] at this;exact this.full
   clear HI;go_wp2;exact bodyPost_ret (v:=.tuple #[.slice (some ⟨w.heap.size,0,none⟩) xs.length xs.length,.nilIface]) (by simp [results,Tryz.results134,go_sem]) rfl ⟨_,rfl,HF.out⟩
theorem zky (w:World)(va vb:Value)(xs ys:List Int)(n:Nat)(ha:VecN w va xs n)(hb:VecN w vb ys n)(hl:xs.length=ys.length)(h8:xs.length≤1000)(hn:n≤100000):
  Calls Tryz.prog 114 #[va,vb] w fun e w'=>∃ P,e=.returned (.tuple #[.slice (some ⟨P,0,none⟩) xs.length xs.length,.nilIface])∧VecO w w' P (List.zipWith (fun x y=>x-y) xs ys) (n+1):=by
 have HT:=hide (togetherSub w va vb xs ys n ha hb hl h8 hn);clear ha hb hl;go_enter Tryz.func114,Tryz.ntmps114;go_wp2_with fail;refine HT.out.mono ?_;rintro e w1 ⟨P,rfl,hv⟩;have HV:=hide hv;clear hv HT;go_wp2;exact bodyPost_ret (v:=.tuple #[.slice (some ⟨P,0,none⟩) xs.length xs.length,.nilIface]) (by simp [results,Tryz.results114,go_sem]) rfl ⟨_,rfl,HV.out⟩
theorem zf9 (w:World)(vk va:Value)(z:Int)(xs:List Int)(m n:Nat)(hk:NumL w vk z m)(ha:VecN w va xs n)(h8:xs.length≤1000)(hm:m≤200000)(hn:n≤200000):
  Calls Tryz.prog 115 #[vk,va] w fun e w'=>VecPost w (xs.map (z*·)) (m+n) e w':=by
 have HA:=hide ha;have HK:=hide hk;obtain⟨⟨kn,ko,kl,kc⟩,rfl⟩:=hk.nm;have hlt:(xs.map (z*·)).length=xs.length:=zM ..;have HZ:=hide (zdA (z*·) xs);obtain⟨ao,acap,rfl,-,-⟩:=ha;clear hk;have hmk:=za8 xs.length (by omega);have HI:Hid (VecO w ((w.alloc (.cells #[.bool kn,.slice ko kl kc] 29)).alloc (.cells (madeCells #[.bool false,.slice none 0 0] (xs.length*2)) 29)) (w.heap.size+1) (List.replicate (xs.map (z*·)).length 0) (m+n)):=by
  rw [hlt];have:=VecO.made w (w.alloc (.cells #[.bool kn,.slice ko kl kc] 29)) ((zB _ _).alloc zL _) xs.length (m+n)
  rwa [World.size_alloc] at this
 have HX:Hid (Box ((w.alloc (.cells #[.bool kn,.slice ko kl kc] 29)).alloc (.cells (madeCells #[.bool false,.slice none 0 0] (xs.length*2)) 29)) w.heap.size (.bool kn) (.slice ko kl kc)):=
  (zf w _ _ _ _ rfl).later ((zB _ _).alloc (by simp) _:Below (w.heap.size+1) _ _) (by omega)
 have hpost:∀ W,VecO w W (w.heap.size+1) (xs.map (z*·)) (m+n)→VecPost w (xs.map (z*·)) (m+n) (.returned (.slice (some ⟨w.heap.size+1,0,none⟩) xs.length xs.length)) W:=fun W h=>⟨_,by rw [hlt],h⟩;have HPOST:=hide hpost;clear hpost;generalize hts:xs.map (z*·)=ts at *;clear hts;go_enter Tryz.func115,Tryz.ntmps115;go_wp2;clear hmk;go_loopw [12] (fun i wr=>∃ k:Nat,k≤xs.length∧i=.int .i64 k∧VecO w wr (w.heap.size+1) (ts.take k++List.replicate (ts.length-k) 0) (m+n)∧Hid (Box wr w.heap.size (.bool kn) (.slice ko kl kc))) (fun i _=>xs.length-(intOf i).toNat)
 case atStart=>exact⟨0,Nat.zero_le _,rfl,HI.out,HX⟩
 case round=>
  clear HI HX;obtain⟨k,hk,rfl,hinv,HX⟩:=hrel;have HI:=hide hinv;clear hinv;by_cases hkl:k<xs.length
  ·obtain⟨ab,aoff,_,e⟩:=HA.out.form (by omega);simp only [zV,true_and] at e;obtain⟨rfl,rfl⟩:=e;obtain⟨la,an,ao,al,ac,a0,a1,na⟩:=(HA.out.below HI.out.below zL).at k hkl;obtain⟨b0,b1,-,-⟩:=HX.out;have NA:=hide na;have NK':NumL wr (.agg #[.bool kn,.slice ko kl kc]) z m:=HK.out.below HI.out.below zL;have HFS:=hide (zbj ts k (by omega));rw [HZ.out k hkl] at HFS;have hfl:=zaR ts k (by omega);clear na;generalize xs.getD k 0=x at *;go_wp2_with fail;refine zp (S:=(fun w'=>w'.cell? ⟨ab,aoff+k*2,none⟩=some (.bool an)∧w'.cell? ⟨ab,aoff+k*2+1,none⟩=some (.slice ao al ac)∧w'.cell? ⟨w.heap.size,0,none⟩=some (.bool kn)∧w'.cell? ⟨w.heap.size,1,none⟩=some (.slice ko kl kc))) (k:=9) (by kernel_rfl) (by(try dsimp only);go_keep) (fun hHeld=>?_);refine zd 0 15 [8,9] ?_;try simp only [zA]
   refine zd 1 16 [8,9] ?_;try simp only [zA]
   refine zd 2 17 [7,9] ?_;try simp only [zA]
   refine zd 3 18 [5,6,7,9] ?_;try simp only [zA]
   refine zd 4 19 [5,6,7,9] ?_;try simp only [zA]
   refine zd 5 20 [6,7,9] ?_;try simp only [zA]
   refine zd 6 21 [7,9] ?_;try simp only [zA]
   refine ze 7 (by kernel_rfl) rfl (fun K hK=>?_);go_simp
   (refine(zbW _ _ _ z x m n (by exact NK') (by exact NA.out) (by omega) (by omega)).mono ?_;rintro e w2 ⟨r,rfl,hr,hb⟩;obtain⟨⟨rn,ro,rl,rc⟩,rfl⟩:=hr.nm;have HI2:=hide (HI.out.drew.later hb);obtain⟨neg0,o0,l0,c0',k0,k1,-⟩:=HI2.out.at k (by omega);have f0:=HI2.out.thaw (k*2);have f1:=HI2.out.thaw (k*2+1);have hP:=HI2.out.lt;have p0:=(hb.cell (p:=⟨ab,aoff+k*2,none⟩) la).trans a0;have p1:=(hb.cell (p:=⟨ab,aoff+k*2+1,none⟩) la).trans a1;have HX2:=hide (show Box w2 w.heap.size _ _ from HX.out.later (drewed hb) (show w.heap.size<wr.heap.size by have:=HI.out.lt;omega));obtain⟨p2,p3,-,-⟩:=HX2.out;have HN:=hide (HI2.out.set (k:=k) (by omega) hr);have HXN:=hide (zex (P:=w.heap.size+1) HX2.out (by omega) k (.bool rn) (.slice ro rl rc));rw [HFS.out] at HN;clear hb hr HI HI2 HFS)
   go_wp2_with fail;refine hK.out _ _ (fun _=>by(try dsimp only);go_keep) ?_;clear hK K;try simp only [zA]
   refine ze 8 (by kernel_rfl) rfl (fun K hK=>?_);go_simp;refine hK.out _ _ (fun _=>by(try dsimp only);go_keep) ?_;clear hK K;try simp only [zA]
   refine ze 9 (by kernel_rfl) rfl (fun K hK=>?_);go_simp;refine hK.out _ _ (fun h=>absurd h (by decide)) ?_;clear hK K;try simp only [zA]
   refine zn (by kernel_rfl) ?_;clear p0 p1 p2 p3 a0 a1 b0 b1 k0 k1 f0 f1 NA NK';go_wp2;go_roundw
   case rel=>exact⟨k+1,by omega,by go_num,HN.out,HXN⟩
   case measure=>simp [intOf];omega
  ·obtain rfl:k=xs.length:=by omega
   have HF:Hid (VecO w wr (w.heap.size+1) ts (m+n)):=by
    have:=HI.out;rw [← hlt] at this;exact this.full
   have HQ:=hide (HPOST.out wr HF.out);clear HI HF HPOST HX;go_wp2;go_ret;exact HQ.out
end Go.Proofs.YtdedolkgcdlmeaaGreatDoor
