import Derived.Test.YtdedolkgcdlmeaaGreatDoorSmV
set_option maxRecDepth 100000
set_option maxHeartbeats 3200000
set_option linter.unusedSimpArgs false
namespace Go.Proofs.YtdedolkgcdlmeaaGreatDoor
open Go.RowKit Limbs
variable {n r N M:Nat}{w:World}{p:Nat→Nat}{zs:List Int}{v:Value}
theorem zeW{v:Nat}(hr:r≤16):facP r (bp v)<bp (r*v+2):=by
 by_cases h0:r=0
 ·subst h0
  show(1:Int)<bp (0*v+2)
  rw [Nat.zero_mul]
  decide
 ·have h1:=zdn (v:=v) (Nat.le_refl r) hr
  have h2:=zio r (B:=bp v) (by have:=zD v;omega)
  have h3:=Int.mul_le_mul_of_nonneg_right (show(1:Int)≤(r:Int) by omega) h2
  omega
theorem zfX{hs:List (List Int)}(F:FormL n hs p){A:Nat→Nat→Int}(hA:Equ hs.length A (dgM fun i=>(pivL hs p).getD i 0)):ChI hs.length (pivL hs p) (prodN hs.length (fun k=>ent hs k (p k))) A 0 1:=
 ⟨zcM hs p,fun j hj=>by rw [zcb hs p j hj];exact F.form.pos j hj,zbe fun i hi=>zcb hs p i hi,fun i hi=>absurd hi (Nat.not_lt_zero i),fun j h1 h2=>absurd h2 (by omega),hA⟩
def SmithPost (w:World)(n:Nat)(ms:List (List Int))(e:Ending)(w':World):Prop:=
 ∃(P M:Nat) (ys:List Int) (hs fs:List (List Int)) (p:Nat→Nat) (D:Int),e=.returned (.tuple #[.slice (some ⟨P,0,none⟩) hs.length hs.length,.nilIface])∧FormL n hs p∧Alikes n (InL hs) (InL ms)∧VecO w w' P ys M∧ChI hs.length ys D (ent fs) hs.length (hs.length+1)∧TurnF n hs fs∧D<bp M∧(hs.length=n→D=diag n hs)∧M≤100000
def RoomS (n nv:Nat):Prop:=nbK n (n*nv+2) nv n≤119000∧∀ r,r≤n→nbK r (r *(n*nv+2)+2) (n*nv+2) r≤119000∧(r<n→nbK r (r *(r *(n*nv+2)+2)+2) (r *(n*nv+2)+2) r≤119000)
theorem zfF{S0 nv B:Nat}(hn1:1≤n)(hN:nbK n S0 nv n≤B):2*S0≤B:=by
 have h1:nbK n S0 nv 1≤nbK n S0 nv n:=zcI hn1
 have h2:nbK n S0 nv 1=nv+(n-0+1) *(S0+3):=rfl
 have h3:(n-0+1) *(S0+3)=n *(S0+3)+(S0+3):=by rw [Nat.sub_zero,Nat.succ_mul]
 have h4:=Nat.mul_le_mul_right (S0+3) hn1
 omega
theorem zkb (r v:Nat)(f:Nat→Int)(h:∀ i,i<r→0<f i∧f i<bp v):0<prodN r f∧prodN r f≤bp (r*v):=by
 induction r with
 | zero=>rw [Nat.zero_mul];exact⟨Int.zero_lt_one,Int.le_refl (1:Int)⟩
 | succ r ih=>
  obtain⟨h1,h2⟩:=ih fun i hi=>h i (by omega)
  obtain⟨h3,h4⟩:=h r (by omega)
  rw [prodN]
  refine⟨Int.mul_pos h1 h3,?_⟩
  rw [Nat.succ_mul,zbl]
  exact Int.mul_le_mul h2 (Int.le_of_lt h4) (Int.le_of_lt h3) (by have:=zD (r*v);omega)
theorem zcY (k:Nat):bp k<bp (k+2):=by
 have e:bp (k+2)=4294967296 *(4294967296*bp k):=rfl
 have:=zD k
 rw [e];omega
theorem VecO.fit{W:World}{P low hi:Nat}{D:Int}{A:Nat→Nat→Int}(h:VecO w W P zs N)(C:ChI r zs D A low hi)(hD:D<bp M):VecO w W P zs M:=
 ⟨h.vec.tight fun j hj=>by
  have hj':j<r:=by rw [← C.len];exact hj
  have h1:=C.pos j hj';have h2:=C.one_le hj'
  unfold ab
  rw [if_neg (by omega)]
  omega,h.low,h.below,h.blk⟩
theorem zhB{hs:List (List Int)}(h:MatN w v hs N)(hl:∀ r∈hs,r.length=n):∀ us∈colsL hs n,∀ j,j<hs.length→absI (us.getD j 0)≤bp N:=fun us hus j hj=>by
 obtain⟨i,hi,rfl⟩:=List.mem_map.1 hus
 rw [List.mem_range] at hi
 rw [zby _ _ _ hj,zk hj]
 exact Int.le_of_lt (h.abs _ (List.getElem_mem hj) i (by rw [hl _ (List.getElem_mem hj)];exact hi))
theorem zgv{H:List (List Int)}(h:MatN w v H N)(S:Sq r H)(hD:diag r H<bp M):MatN w v H M:=h.tight fun zs hz j hj=>by
 obtain⟨k,hk,e⟩:=List.getElem_of_mem hz
 have hl:=S.form.len zs hz
 have h1:=S.ent_le (k:=k) (b:=j) (by rw [← S.len];exact hk) (by omega)
 unfold ent at h1
 rw [zk hk,e] at h1
 unfold ab
 rw [if_neg (by omega)]
 omega
theorem zfY{hs:List (List Int)}(F:FormL n hs p)(hl:hs.length=n):prodN hs.length (fun k=>ent hs k (p k))=diag n hs:=by
 unfold diag
 rw [hl]
 exact zbe fun i hi=>by rw [zkW F hl i hi]
theorem zkU (w:World)(v:Value)(ms:List (List Int))(n nv:Nat)(hv:MatN w v ms nv)(hr:∀ us∈ms,us.length=n)(hn1:1≤n)(hn:n≤8)(hm:ms.length≤12)(hR:RoomS n nv):
  Calls Tryz.prog 19 #[v,.int .i64 (n:Int)] w fun e w'=>SmithPost w n ms e w':=by
 have HC:=hide (zc8 w v ms n nv hv hn1 hn hm hr)
 have HV:=hide hv;have HR:=hide hr;have HRO:=hide hR
 obtain⟨ao,cap,rfl,-,-⟩:=hv
 clear hr hR
 go_enter Tryz.func19,Tryz.ntmps19
 go_wp2_with fail
 refine HC.out.mono ?_
 rintro e w1 ⟨rfl,hbe1⟩
 have HE1:=hide hbe1
 clear hbe1 HC
 go_wp2_with fail
 refine(zdH w1 _ ms n nv (HV.out.below HE1.out zL) HR.out hn1 (by omega) (by omega) HRO.out.1).mono ?_
 rintro e w2 ⟨u2,hs,p,rfl,h1,h2,h3,h4,h5⟩
 have HU2:=hide h1;have HF:=hide h4;have HA:=hide h5
 have HE2:=hide (HE1.out.trans (h3.mono HE1.out.size))
 obtain⟨ho,hcap,rfl,-,-⟩:=h1
 obtain⟨hr1,hr2⟩:=HRO.out.2 hs.length h2
 have HR1:=hide hr1
 clear h3 h5 HE1 hr1
 have HDN:Hid (hs.length=n→diag n hs<bp (n*nv+2)):=fun hl=>by
  have h6:=(zcg HF.out hl).bound HA.out HR.out (B:=bp nv) (by have:=zD nv;omega) (fun us hus j hj=>Int.le_of_lt (HV.out.abs us hus j (by rw [HR.out us hus];exact hj)))
  have h7:=zeW (r:=n) (v:=nv) (by omega)
  omega
 generalize hN0:n*nv+2=N0 at *
 have hN02:2≤N0:=by omega
 have hN03:N0≤100000:=by
  have:=zfF hn1 (by have:=HRO.out.1;rw [hN0] at this;exact this)
  omega
 obtain⟨M,hM2,hM3,HR2,HPB,HCB⟩:∃ M,2≤M∧M≤100000∧Hid (nbK hs.length (hs.length*M+2) M hs.length≤119000)∧Hid (prodN hs.length (fun k=>ent hs k (p k))≤bp (hs.length*N0)→prodN hs.length (fun k=>ent hs k (p k))<bp M)∧Hid (∀ D:Int,D<bp (hs.length*N0+2)→(hs.length=n→D=diag n hs)→D<bp M):=by
  by_cases hl:hs.length=n
  ·refine⟨N0,hN02,hN03,?_,fun _=>?_,fun D _ h=>?_⟩
   ·exact HR1.out
   ·rw [zfY HF.out hl];exact HDN.out hl
   ·rw [h hl];exact HDN.out hl
  ·have h8:=zcY (hs.length*N0)
   refine⟨hs.length*N0+2,by omega,?_,hr2 (by omega),fun h=>Int.lt_of_le_of_lt h h8,fun D h _=>h⟩
   by_cases h0:hs.length=0
   ·rw [h0];omega
   ·have:=zfF (by omega) HR1.out
    omega
 obtain⟨WW,hWW⟩:∃ WW:Nat,WW=2 *(bp M).toNat+2:=⟨_,rfl⟩
 have HWW:=hide hWW
 clear hWW hN0 hr2 h4
 go_wp2
 go_loopg [7,8,29] (WW ^ hs.length) (fun gk u pl t wr=>(gk=WW ^ hs.length∧t=undef∧pl=.int .i64 n∧Hid (MatN wr u hs N0)∧Hid (Below w.heap.size w wr))∨(∃ H,t=.int .i64 (hs.length:Int)∧pl=.int .i64 (hs.length:Int)∧Hid (gk=muS WW hs.length H)∧Hid (MatN wr u H M)∧Hid (Sq hs.length H)∧Hid (diag hs.length H<bp M)∧Hid (hs.length=n→diag hs.length H=diag n hs)∧Hid (∃ gs,TurnF n hs gs∧(Equ hs.length (ent gs) (ent H)∨Equ hs.length (trM (ent gs)) (ent H)))∧Hid (Below w.heap.size w wr)))
 case atStart=>exact .inl ⟨rfl,rfl,rfl,HU2,HE2⟩
 case round=>
  clear HU2 HE2
  rcases hrel with⟨hgk,rfl,rfl,HU,HE⟩ |⟨H,rfl,rfl,HGK,HU,HSQ,HDI,HEQ,HTG,HE⟩
  ·have HGK:=hide hgk
   clear hgk
   have HPA:=hide (zf0 wr _ n N0 hs p HU.out HF.out (by omega) (by omega))
   go_wp2_with fail
   refine HPA.out.mono ?_
   rintro e w3 ⟨r,rfl,hr,hb3⟩
   have HU3:=hide (HU.out.below hb3 zL)
   have HE3:=hide (HE.out.trans (hb3.mono HE.out.size))
   clear hb3 HPA HU HE
   cases r with
   | true=>
    obtain⟨gs,hgs,hge⟩:=zg3 HF.out (hr.1 rfl)
    have HGS:=hide hgs
    have HCH:=hide (zfX HF.out hge)
    clear hgs hge
    have HDB:Hid (prodN hs.length (fun k=>ent hs k (p k))<bp M):=by
     have h3:=zkb hs.length N0 (fun k=>ent hs k (p k)) fun i hi=>by
      have h4:=HF.out.form.pos i hi
      have h5:=HU3.out.abs _ (List.getElem_mem hi) (p i) (by rw [HF.out.len _ (List.getElem_mem hi)];exact HF.out.form.lt i hi)
      have h6:0<ent hs i (p i):=h4
      have h7:ent hs i (p i)=hs[i].getD (p i) 0:=by unfold ent;rw [zk hi]
      rw [← h7] at h5
      unfold ab at h5
      rw [if_neg (by omega)] at h5
      exact⟨h6,h5⟩
     exact HPB.out h3.2
    clear hr
    go_wp2_with fail
    refine(zf1 w3 _ n N0 hs p HU3.out HF.out (by omega) (by omega)).mono ?_
    rintro e w4 ⟨P,rfl,hv4⟩
    rw [zcM]
    have HV4:=hide ((hv4.fit HCH.out HDB.out).since HE3.out)
    clear hv4
    go_wp2_with fail
    refine(zer w w4 P hs.length M _ _ _ HV4.out HCH.out HDB.out (by omega) hM2 hM3).mono ?_
    rintro e w5 ⟨ys,rfl,hv5,hc5⟩
    have HP:=hide (show SmithPost w n ms (.returned (.tuple #[.slice (some ⟨P,0,none⟩) hs.length hs.length,.nilIface])) w5 from⟨P,M,ys,hs,gs,p,_,rfl,HF.out,HA.out,hv5,hc5,HGS.out,HDB.out,fun h=>zfY HF.out h,hM3⟩)
    clear hv5 hc5 HV4
    go_wp2
    go_ret2
    exact HP.out
   | false=>
    have hlen:1≤hs.length:=by
     by_cases h0:hs.length=0
     ·exact absurd (hr.2 fun i hi=>by omega) (by decide)
     ·omega
    clear hr
    obtain⟨uo,ucap,hu,-,-⟩:=HU3.out
    subst hu
    go_wp2_with fail
    refine(zgF w3 _ n N0 hs HU3.out HF.out.len (by omega) (by omega)).mono ?_
    rintro e w4 ⟨O,vs,ps,rfl,ho4,hp4⟩
    have HM4:=hide (ho4.mat (colsL hs n) (zZ hs n) (fun i hi=>by rw [hp4 i hi,zaV hs n i hi];rfl))
    have HE4:=hide (HE3.out.trans (ho4.low.mono HE3.out.size))
    clear ho4 hp4 HE3
    go_wp2_with fail
    refine(zdH w4 _ (colsL hs n) hs.length N0 HM4.out (zaW hs n) hlen (by omega) (by rw [zZ];omega) HR1.out).mono ?_
    rintro e w5 ⟨u5,fs,p5,rfl,g1,g2,g3,g4,g5⟩
    have hsq:Sq hs.length fs:=zcg g4 (zhC HF.out g5 g2)
    have HSQ:=hide hsq
    have HTF:Hid (TurnF n hs fs):=⟨hsq.len,g4.len,hsq.free,g5⟩
    have HEQ:Hid (hs.length=n→diag hs.length fs=diag n hs):=fun hl=>by
     have s0:=zcg HF.out hl
     rw [hl] at g4 g5 ⊢
     exact(s0.step g4 g5).2
    have HDI:Hid (diag hs.length fs<bp M):=by
     have h1:=hsq.bound g5 (zaW hs n) (B:=bp N0) (by have:=zD N0;omega) (zhB HU3.out HF.out.len)
     have h2:=zeW (r:=hs.length) (v:=N0) (by omega)
     exact HCB.out _ (by omega) HEQ.out
    have HU5:=hide (zgv g1 hsq HDI.out)
    have HE5:=hide (HE4.out.trans (g3.mono HE4.out.size))
    clear g1 g2 g3 g4 g5 HE4 HM4 hsq
    go_wp2
    go_roundg (muS WW hs.length fs)
    case measure=>
     rw [HGK.out]
     refine ziV hs.length (zeB HSQ.out ?_)
     have h1:=HDI.out;have h2:=HWW.out;have h3:=HSQ.out.one_le
     omega
    case rel=>exact .inr ⟨fs,rfl,rfl,hide rfl,HU5,HSQ,HDI,HEQ,⟨fs,HTF.out,.inl (.refl _)⟩,HE5⟩
  ·have HID:=hide HSQ.out.form
   have HIL:=hide HSQ.out.len
   have HPA:=hide (zf0 wr _ hs.length M H (fun k=>k) HU.out HID.out (by omega) (by rw [HIL.out];omega))
   go_wp2_with fail
   refine HPA.out.mono ?_
   rintro e w3 ⟨r,rfl,hr,hb3⟩
   have HU3:=hide (HU.out.below hb3 zL)
   have HE3:=hide (HE.out.trans (hb3.mono HE.out.size))
   clear hb3 HPA HU HE
   cases r with
   | true=>
    obtain⟨gs,hgs,hge⟩:=HTG.out
    have HTF:=hide hgs
    have hge2:=zii HSQ.out (fun k hk=>hr.1 rfl k (by rw [HIL.out];exact hk)) hge
    clear hgs hge
    have hch:=zfX HID.out (A:=ent gs) (by rw [HIL.out];exact hge2)
    rw [HIL.out] at hch
    have HCH:=hide hch
    clear hr hch hge2
    go_wp2_with fail
    refine(zf1 w3 _ hs.length M H (fun k=>k) HU3.out HID.out (by omega) (by rw [HIL.out];omega)).mono ?_
    rintro e w4 ⟨P,rfl,hv4⟩
    rw [zcM,HIL.out]
    have HV4:=hide (hv4.since HE3.out)
    clear hv4
    go_wp2_with fail
    refine(zer w w4 P hs.length M _ _ _ HV4.out HCH.out HDI.out (by omega) hM2 hM3).mono ?_
    rintro e w5 ⟨ys,rfl,hv5,hc5⟩
    have HP:=hide (show SmithPost w n ms (.returned (.tuple #[.slice (some ⟨P,0,none⟩) hs.length hs.length,.nilIface])) w5 from⟨P,M,ys,hs,gs,p,_,rfl,HF.out,HA.out,hv5,hc5,HTF.out,HDI.out,HEQ.out,hM3⟩)
    clear hv5 hc5 HV4
    go_wp2
    go_ret2
    exact HP.out
   | false=>
    have HNO:Hid (¬ ∀ k,k<hs.length→rowAl hs.length H k):=fun h=>by
     have:=hr.2 fun i hi b h1 h2=>h i (by rw [← HIL.out];exact hi) b h1 h2
     cases this
    have hlen:1≤hs.length:=by
     by_cases h0:hs.length=0
     ·exact absurd (fun k hk=>by omega) HNO.out
     ·omega
    clear hr
    obtain⟨uo,ucap,hu,-,-⟩:=HU3.out
    subst hu
    go_wp2_with fail
    refine(zgF w3 _ hs.length M H HU3.out HID.out.len (by omega) (by rw [HIL.out];omega)).mono ?_
    rintro e w4 ⟨O,vs,ps,rfl,ho4,hp4⟩
    have HM4:=hide (ho4.mat (colsL H hs.length) (zZ H hs.length) (fun i hi=>by rw [hp4 i hi,zaV H hs.length i hi];rfl))
    have HE4:=hide (HE3.out.trans (ho4.low.mono HE3.out.size))
    clear ho4 hp4 HE3
    go_wp2_with fail
    rw [HIL.out]
    refine(zdH w4 _ (colsL H hs.length) hs.length M HM4.out (fun us h=>by rw [zaW H hs.length us h,HIL.out]) hlen (by omega) (by rw [zZ];omega) HR2.out).mono ?_
    rintro e w5 ⟨u5,fs,p5,rfl,g1,g2,g3,g4,g5⟩
    obtain⟨s1,s2⟩:=HSQ.out.step g4 g5
    have HS1:=hide s1
    have HTG1:=hide (zij HSQ.out s1 g5 HTG.out)
    have HMU:Hid (muS WW hs.length fs<muS WW hs.length H):=zjE HSQ.out s1 s2 g5 (by have h1:=HDI.out;have h2:=HWW.out;have h3:=HSQ.out.one_le;omega) HNO.out
    have HD1:Hid (diag hs.length fs<bp M):=by show _<_;rw [s2];exact HDI.out
    have HEQ1:Hid (hs.length=n→diag hs.length fs=diag n hs):=fun h=>by rw [s2];exact HEQ.out h
    have HU5:=hide (zgv g1 s1 HD1.out)
    have HE5:=hide (HE4.out.trans (g3.mono HE4.out.size))
    clear g1 g2 g3 g4 g5 HE4 HM4 s1 s2
    go_wp2
    go_roundg (muS WW hs.length fs)
    case measure=>rw [HGK.out];exact HMU.out
    case rel=>exact .inr ⟨fs,rfl,rfl,hide rfl,HU5,HS1,HD1,HEQ1,HTG1,HE5⟩
def muchM (hs ks:List (List Int))(p:Nat→Nat):List (List Int):=hs.map (muchL ks p)
theorem zaO (hs ks:List (List Int))(p:Nat→Nat):(muchM hs ks p).length=hs.length:=by simp [muchM]
theorem zb9 (hs ks:List (List Int))(p:Nat→Nat):∀ r∈muchM hs ks p,r.length=ks.length:=fun r hr=>by
 obtain⟨u,-,rfl⟩:=List.mem_map.1 hr
 exact zaD ks p u
theorem zjF (hs ks:List (List Int))(p:Nat→Nat)(i:Nat)(hi:i<hs.length):(muchM hs ks p).getD i []=muchL ks p (hs.getD i []):=by
 rw [zk (by rw [zaO];exact hi),zk hi]
 simp [muchM]
section
variable {n:Nat}{hs ks:List (List Int)}{ph pk:Nat→Nat}
theorem zdE (G:FormL n ks pk)(hl:∀ r∈hs,r.length=n)(hin:∀ r∈hs,Gens n (InL ks) r)(i b:Nat)(hi:i<hs.length)(hb:b<n):ent hs i b=sumN ks.length (fun k=>ent (muchM hs ks pk) i k*ent ks k b):=by
 have hm:hs.getD i []∈hs:=zr hi
 have:=zfE G (hl _ hm) (zE (hin _ hm)) b hb
 unfold ent
 rw [this,zjF hs ks pk i hi]
theorem zjH (F:FormL n hs ph)(G:FormL n ks pk)(hin:∀ r∈hs,Gens n (InL ks) r){fa:List (List Int)}{pa:Nat→Nat}(A:FormL ks.length fa pa)(a:Alikes ks.length (InL fa) (InL (muchM hs ks pk))):fa.length=hs.length:=by
 have h1:=ze1 A a
 rw [zaO] at h1
 obtain⟨T,hT⟩:=zX (r:=hs.length) (n:=ks.length) (mm:=fa.length) (H:=ent (muchM hs ks pk)) (M:=ent fa) fun i hi=>by
  have hm:(muchM hs ks pk).getD i []∈muchM hs ks pk:=zr (by rw [zaO];exact hi)
  exact zE ((a _).2 (.base hm (zb9 hs ks pk _ hm)))
 have h2:=zbD hs.length fa.length n (ent hs) (fun k b=>sumN ks.length (fun j=>ent fa k j*ent ks j b)) T ph F.form.lt (fun i k hi hki=>F.form.zero i (ph k) hi (F.form.inc k i hki hi)) (fun i hi=>F.form.pos i hi)
  (fun i b hi hb=>by
   rw [zdE G F.len hin i b hi hb]
   have e1:sumN ks.length (fun k=>ent (muchM hs ks pk) i k*ent ks k b)=sumN ks.length (fun k=>sumN fa.length (fun j=>T i j *(ent fa j k*ent ks k b))):=zm fun k hk=>by
    rw [hT i k hi hk,Int.mul_comm,← zaj]
    exact zm fun j _=>by rw [Int.mul_comm,Int.mul_assoc]
   rw [e1,zcQ]
   exact zm fun j _=>by rw [zaj])
 omega
theorem zhP{A fa:List (List Int)}(hA:A.length=r)(hl:∀ u∈A,u.length=r)(S:Sq r fa)(a:Alikes r (InL fa) (InL A)):absI (det r (ent A))=diag r fa:=by
 obtain⟨C,hC⟩:=zX (r:=r) (n:=r) (mm:=r) (H:=ent fa) (M:=ent A) fun k hk=>by
  have hm:fa.getD k []∈fa:=zr (by rw [S.len];exact hk)
  have g:=zE ((a _).1 (.base hm (S.form.len _ hm)))
  rw [hA] at g
  exact g
 obtain⟨T,hT⟩:=zX (r:=r) (n:=r) (mm:=r) (H:=ent A) (M:=ent fa) fun k hk=>by
  have hm:A.getD k []∈A:=zr (by rw [hA];exact hk)
  have g:=zE ((a _).2 (.base hm (hl _ hm)))
  rw [S.len] at g
  exact g
 have d1:det r (ent fa)=diag r fa:=zaY r _ fun i b hi hb=>S.low hi hb
 have e1:diag r fa=det r C*det r (ent A):=by
  rw [← d1,← zbn]
  exact zn fun x y hx hy=>hC x y hx hy
 have e2:det r (ent A)=det r T*diag r fa:=by
  rw [← d1,← zbn]
  exact zn fun x y hx hy=>hT x y hx hy
 have o:=S.one_le
 have a1:=congrArg absI e1;have a2:=congrArg absI e2
 rw [zar,zak (show 0≤diag r fa by omega)] at a1 a2
 have n1:=zas (det r C);have n2:=zas (det r T);have n3:=zas (det r (ent A))
 have c1:1≤absI (det r C):=by
  rcases Int.lt_or_eq_of_le n1 with h | h
  ·omega
  ·rw [← h,Int.zero_mul] at a1;omega
 have hA1:1≤absI (det r (ent A)):=by
  rcases Int.lt_or_eq_of_le n3 with h | h
  ·omega
  ·rw [← h,Int.mul_zero] at a1;omega
 have c2:1≤absI (det r T):=by
  rcases Int.lt_or_eq_of_le n2 with h | h
  ·omega
  ·rw [← h,Int.zero_mul] at a2;omega
 have g1:=Int.mul_le_mul_of_nonneg_right c1 n3
 have g2:=Int.mul_le_mul_of_nonneg_right c2 (show 0≤diag r fa by omega)
 omega
end
theorem zgV (n:Nat)(f g:Nat→Int)(h:∀ i,i<n→absI (f i)≤g i):absI (sumN n f)≤sumN n g:=by
 induction n with
 | zero=>exact Int.le_refl _
 | succ n ih=>
  have h1:=ih fun i hi=>h i (by omega)
  have h2:=h n (by omega)
  have h3:=zcW (sumN n f) (f n)
  show absI (sumN n f+f n)≤sumN n g+g n
  omega
theorem zk5 (k:Nat)(B:Int):sumN k (fun j=>2 ^ j*B)=2 ^ k*B-B:=by
 induction k with
 | zero=>show(0:Int)=2 ^ 0*B-B;rw [Int.pow_zero,Int.one_mul];omega
 | succ k ih=>
  show sumN k (fun j=>2 ^ j*B)+2 ^ k*B=2 ^ (k+1)*B-B
  rw [ih,Int.pow_succ,Int.mul_comm (2 ^ k) 2,Int.mul_assoc]
  omega
theorem zfD{ks:List (List Int)}{pk:Nat→Nat}(G:FormL n ks pk)(hz:zs.length=n)(hin:Gens n (InL ks) zs){B:Int}(hB:∀ b,b<n→absI (zs.getD b 0)≤B)(k:Nat)(hk:k<ks.length):absI ((muchL ks pk zs).getD k 0)≤2 ^ k*B:=by
 induction k using Nat.strongRecOn with
 | _ k ih=>
  have hs:=zfE G hz (zE hin) (pk k) (G.form.lt k hk)
  have hq:=G.form.pos k hk
  rw [show ks.length=(k+1)+(ks.length-(k+1)) by omega,zk1 (k+1) _ _ fun j h1 h2=>by
   have:(ks.getD j []).getD (pk k) 0=0:=G.form.zero j (pk k) (by omega) (G.form.inc k j (by omega) (by omega))
   rw [this,Int.mul_zero]] at hs
  have e1:sumN (k+1) (fun j=>(muchL ks pk zs).getD j 0 *(ks.getD j []).getD (pk k) 0)=sumN k (fun j=>(muchL ks pk zs).getD j 0 *(ks.getD j []).getD (pk k) 0)+(muchL ks pk zs).getD k 0 *(ks.getD k []).getD (pk k) 0:=rfl
  rw [e1] at hs
  have hB0:=hB (pk k) (G.form.lt k hk)
  have hBn:0≤B:=Int.le_trans (zas _) hB0
  generalize hqq:(ks.getD k []).getD (pk k) 0=q at *
  have hlow:absI (sumN k (fun j=>(muchL ks pk zs).getD j 0 *(ks.getD j []).getD (pk k) 0))≤(2 ^ k*B-B)*q:=by
   refine Int.le_trans (zgV k _ (fun j=>q *(2 ^ j*B)) fun j hj=>?_) ?_
   ·rw [zar]
    have h1:=ih j hj (by omega)
    have h2:=G.form.red j k hj hk
    rw [hqq] at h2
    rw [zak h2.1,Int.mul_comm q]
    exact Int.mul_le_mul h1 (Int.le_of_lt h2.2) h2.1 (Int.le_trans (zas _) h1)
   ·rw [zaj,zk5,Int.mul_comm];exact Int.le_refl _
  have e2:(muchL ks pk zs).getD k 0*q=zs.getD (pk k) 0+-(sumN k (fun j=>(muchL ks pk zs).getD j 0 *(ks.getD j []).getD (pk k) 0)):=by omega
  have h3:=zcW (zs.getD (pk k) 0) (-(sumN k (fun j=>(muchL ks pk zs).getD j 0 *(ks.getD j []).getD (pk k) 0)))
  rw [← e2,zar,zaK,zak (Int.le_of_lt hq)] at h3
  have h4:B≤B*q:=by
   have:=Int.mul_le_mul_of_nonneg_left (show 1≤q by omega) hBn
   omega
  have h5:absI ((muchL ks pk zs).getD k 0)*q≤2 ^ k*B*q:=by
   rw [Int.sub_mul] at hlow
   omega
  exact Int.le_of_mul_le_mul_right h5 hq
def prodL:List Int→Int
 | []=>1
 | x::t=>x*prodL t
theorem zf4 (l:List Int)(x:Int):prodL (l++[x])=prodL l*x:=by
 induction l with
 | nil=>show x*1=1*x;rw [Int.mul_one,Int.one_mul]
 | cons y t ih=>show y*prodL (t++[x])=y*prodL t*x;rw [ih,Int.mul_assoc]
theorem zka (l:List Int)(k:Nat)(hk:k≤l.length):prodN k (fun j=>l.getD j 0)=prodL (l.take k):=by
 induction k with
 | zero=>rfl
 | succ k ih=>
  rw [prodN,ih (by omega),List.take_succ_eq_append_getElem (by omega),zf4,List.getD_eq_getElem?_getD,List.getElem?_eq_getElem (by omega),Option.getD_some]
theorem zj9 (l:List Int)(h:∀ x∈l,0<x):prodL (l.filter fun y=>decide (1<y))=prodL l:=by
 induction l with
 | nil=>rfl
 | cons x t ih=>
  have h0:=h x (by simp)
  have h1:=ih fun y hy=>h y (by simp [hy])
  by_cases e:1<x
  ·rw [List.filter_cons_of_pos (by simpa using e)]
   show x*prodL _=x*prodL t
   rw [h1]
  ·obtain rfl:x=1:=by omega
   rw [List.filter_cons_of_neg (by simp)]
   show prodL _=1*prodL t
   rw [h1,Int.one_mul]
def overOne (ys:List Int):List Int:=ys.filter fun y=>decide (1<y)
theorem zfR (ys:List Int)(k:Nat)(hk:k<ys.length):overOne (ys.take (k+1))=overOne (ys.take k)++if 1<ys.getD k 0 then [ys.getD k 0] else []:=by
 unfold overOne
 rw [List.take_succ_eq_append_getElem hk,List.filter_append,List.getD_eq_getElem?_getD,List.getElem?_eq_getElem hk,Option.getD_some]
 by_cases h:1<ys[k]
 ·rw [if_pos h,List.filter_cons_of_pos (by simpa using h)];rfl
 ·rw [if_neg h,List.filter_cons_of_neg (by simpa using h)];rfl
theorem zgU (w:World)(v:Value)(ys:List Int)(M:Nat)(hv:VecN w v ys M)(hl:ys.length≤100):
  Calls Tryz.prog 86 #[v] w fun e w'=>∃ u,e=.returned u∧VecN w' u (overOne ys) M∧(∀ a l c,u=.slice (some a) l c→w.heap.size≤a.block)∧Below w.heap.size w w':=by
 obtain⟨i0,hi,hz0,hz1,hz2⟩:=info_parts Tryz.infoNum
 have HV:=hide hv
 obtain⟨ao,acap,rfl,-,-⟩:=hv
 go_enter Tryz.func86,Tryz.ntmps86
 go_wp2_with fail
 refine(zay w 1 (by decide) (by decide)).mono ?_
 rintro e w1 ⟨vo,rfl,no,hb1⟩
 obtain⟨⟨on,oo,ol,oc⟩,rfl⟩:=no.nm
 have NO:Hid (NumL (w1.alloc (.cells #[.bool on,.slice oo ol oc] 29)) (.agg #[.bool on,.slice oo ol oc]) 1 2):=no.below ((Below.refl _ _).alloc zL _) zL
 have HB0:=hide (hb1.trans (((Below.refl w1.heap.size w1).alloc zL (.cells #[.bool on,.slice oo ol oc] 29)).mono hb1.size))
 have HX0:Hid (Box (w1.alloc (.cells #[.bool on,.slice oo ol oc] 29)) w1.heap.size (.bool on) (.slice oo ol oc)):=zj w1 _ _ _ _ rfl
 have HLT:Hid (w1.heap.size<(w1.alloc (.cells #[.bool on,.slice oo ol oc] 29)).heap.size):=by show _<_;simp
 clear no hb1
 go_wp2
 generalize hW0:w1.alloc (.cells #[.bool on,.slice oo ol oc] 29)=W0 at *
 clear hW0
 go_loopw [4,9] (fun out x wr=>∃(k:Nat) (ps:List (Nm × Int)),k≤ys.length∧x=.int .i64 k∧Hid (Grow wr W0.heap.size out ps M)∧Hid (ps.map (·.2)=overOne (ys.take k))∧Hid (ps.length≤k)∧Hid (Below W0.heap.size W0 wr)) (fun _ x _=>ys.length-(intOf x).toNat)
 case atStart=>exact⟨0,[],Nat.zero_le _,rfl,hide (Grow.nil _ _ _),hide rfl,hide zL,hide (Below.refl _ _)⟩
 case round=>
  obtain⟨k,ps,hk,rfl,HG,HP,HPL,HE⟩:=hrel
  by_cases hkl:k<ys.length
  ·obtain⟨b,off,_,e⟩:=HV.out.form (by omega)
   simp only [Value.slice.injEq,true_and] at e
   obtain⟨rfl,rfl⟩:=e
   obtain⟨lb,yn,yo,yl,yc,y0,y1,ny⟩:=HV.out.at k hkl
   have HSN:=hide (zfR ys k hkl)
   have hbw:Below w.heap.size w wr:=HB0.out.trans (HE.out.mono HB0.out.size)
   have NY0:Hid (NumL w (Nm.val ⟨yn,yo,yl,yc⟩) (ys.getD k 0) M):=ny
   have NY:=hide (ny.below hbw zL)
   have NO1:=hide (NO.out.below HE.out zL)
   have c0:=(hbw.cell (p:=⟨b,off+k*2,none⟩) lb).trans y0
   have c1:=(hbw.cell (p:=⟨b,off+k*2+1,none⟩) lb).trans y1
   obtain⟨c2,c3,-,-⟩:=HX0.out.later HE.out HLT.out
   have lb2:=zT lb hbw.size
   have lo2:=zT HLT.out HE.out.size
   have hws:=HB0.out.size
   have hes:=HE.out.size
   clear ny y0 y1 hbw
   generalize ys.getD k 0=y at *
   go_wp2_with fail
   refine zw (S:=(fun w'=>w'.cell? ⟨b,off+k*2,none⟩=some (.bool yn)∧w'.cell? ⟨b,off+k*2+1,none⟩=some (.slice yo yl yc)∧w'.cell? ⟨w1.heap.size,0,none⟩=some (.bool on)∧w'.cell? ⟨w1.heap.size,1,none⟩=some (.slice oo ol oc))) (k:=7) (by kernel_rfl) (by exact⟨c0,c1,c2,c3⟩) (fun hHeld=>?_)
   refine zf 0 12 [] ?_
   try simp only [zA]
   refine zf 1 13 [] ?_
   try simp only [zA]
   refine zf 2 14 [] ?_
   try simp only [zA]
   refine zf 3 15 [] ?_
   try simp only [zA]
   refine zf 4 16 [] ?_
   try simp only [zA]
   refine zg 5 (by kernel_rfl) rfl (fun K hK=>?_)
   go_simp
   refine(zeD wr.drew _ _ y 1 M 2 (by exact NY.out.below (Below.refl wr.heap.size wr).drew zL) (by exact NO1.out.below (Below.refl wr.heap.size wr).drew zL)).mono ?_
   rintro e w2 ⟨rfl,hb2⟩
   have hb2':Below wr.heap.size wr w2:=(Below.refl _ _).drew.trans hb2
   have d0:=(hb2'.cell (p:=⟨b,off+k*2,none⟩) lb2).trans c0
   have d1:=(hb2'.cell (p:=⟨b,off+k*2+1,none⟩) lb2).trans c1
   have d2:=(hb2'.cell (p:=⟨w1.heap.size,0,none⟩) lo2).trans c2
   have d3:=(hb2'.cell (p:=⟨w1.heap.size,1,none⟩) lo2).trans c3
   have HG2:=hide (HG.out.later hb2')
   have HE2:=hide (HE.out.trans (hb2'.mono HE.out.size))
   clear hb2 hb2' c0 c1 c2 c3 NY NO1 HG
   go_wp2_with fail
   refine hK.out _ _ (fun _=>⟨d0,d1,d2,d3⟩) ?_
   clear hK K hHeld
   try simp only [zA]
   have hHeld2:(fun w'=>w'.cell? ⟨b,off+k*2,none⟩=some (.bool yn)∧w'.cell? ⟨b,off+k*2+1,none⟩=some (.slice yo yl yc)∧w'.cell? ⟨w1.heap.size,0,none⟩=some (.bool on)∧w'.cell? ⟨w1.heap.size,1,none⟩=some (.slice oo ol oc)) w2:=⟨d0,d1,d2,d3⟩
   refine zf 6 18 [] ?_
   try simp only [zA]
   refine zt (by kernel_rfl) ?_
   clear hHeld2 d2 d3
   by_cases hy:1<y
   ·have hc:cmpI y 1=1:=by unfold cmpI;rw [if_neg (by omega),if_pos hy]
    rw [hc]
    have HP':Hid ((ps++[((⟨yn,yo,yl,yc⟩:Nm),y)]).map (·.2)=overOne (ys.take (k+1))):=by
     show _=_
     rw [HSN.out,if_pos hy,List.map_append,HP.out];rfl
    have HPL':Hid ((ps++[((⟨yn,yo,yl,yc⟩:Nm),y)]).length≤k+1):=by
     have:=HPL.out
     show _≤_
     rw [List.length_append,List.length_singleton];omega
    have HAP:Hid (apart u4.ownBlock (Nm.sl ⟨yn,yo,yl,yc⟩)):=fun a l c e h0 hb=>by
     have h1:=NY0.out.inside a l c e h0
     have h2:=(HG2.out.1.lt a.block hb.symm).1
     omega
    have NY2:Hid (NumL w2 (Nm.val ⟨yn,yo,yl,yc⟩) y M):=NY0.out.below (HB0.out.trans (HE2.out.mono HB0.out.size)) zL
    have hown:=HG2.out.1
    have hbs:=HE2.out.size
    clear hc hy
    go_wp2_with (at_builtin;refine wpList_append_lies _ rfl _ _ 46 rfl W0.heap.size 29 i0 (.agg #[.bool false,.slice none 0 0]) 2 32 (by kernel_rfl) hi hz0 hz1 hz2 rfl (by decide) u4 ps.length (ps.flatMap ncells) rfl (hown.alloc _) ⟨w2.heap.size,0,none⟩ 1 1 [.bool yn,.slice yo yl yc] rfl rfl (World.news_of_block (heap_alloc_new w2 _)) (fun u hu=>by simp only [List.mem_cons,List.mem_nil_iff,or_false] at hu;rcases hu with rfl | rfl <;> rfl) (by decide) (by unfold maxLen;have:=HPL.out;omega) (by have:=HPL.out;omega) (by simp;omega) (w2.heap.size+1) (by simp) ?_)
    intro g cap' w5 hown5 hgrow5 hat5 hlt5
    have HN:=hide (ze9 HG2.out NY2.out HAP.out hown5 hgrow5 hat5)
    have HE5:=hide (HE2.out.trans (ze8 HG2.out HE2.out.size hgrow5))
    clear hown hown5 hgrow5 hat5 hlt5 HG2 NY2 HE2 HAP d0 d1
    go_wp2
    go_roundw
    case rel=>exact⟨k+1,_,by omega,by go_num,HN,HP',HPL',HE5⟩
    case measure=>simp [intOf];omega
   ·have hc : cmpI y 1 ≤ 0 := by unfold cmpI; repeat' split
                                 all_goals omega
    have HP':Hid (ps.map (·.2)=overOne (ys.take (k+1))):=by
     show _=_
     rw [HSN.out,if_neg hy,List.append_nil];exact HP.out
    have HPL':Hid (ps.length≤k+1):=Nat.le_succ_of_le HPL.out
    generalize hcc:cmpI y 1=cc at *
    have g1:decide (0<cc)=false:=decide_eq_false (by omega)
    have g2:¬(0<cc):=by omega
    clear hcc hy
    go_wp2
    go_roundw
    case rel=>exact⟨k+1,_,by omega,by go_num,HG2,HP',HPL',HE2⟩
    case measure=>simp [intOf];omega
  ·obtain rfl:k=ys.length:=by omega
   have HF:Hid (VecN wr u4 (overOne ys) M):=by
    have:=HG.out.vec
    rw [HP.out,List.take_length] at this
    exact this
   have HBF:=hide (HB0.out.trans (HE.out.mono HB0.out.size))
   have HFR:Hid (∀ a l c,u4=.slice (some a) l c→w.heap.size≤a.block):=fun a l c e=>by
    have h1:=HB0.out.size
    rcases HG.out.1.2 with⟨e1,-⟩ |⟨g,cap,cur,e1,hb,-⟩
    ·rw [e1] at e;cases e
    ·rw [e1] at e
     simp only [Value.slice.injEq,Option.some.injEq] at e
     rw [← e.1]
     show w.heap.size≤g
     omega
   clear HG HP
   go_wp2
   go_ret
   exact⟨_,rfl,HF.out,HFR.out,HBF.out⟩
end Go.Proofs.YtdedolkgcdlmeaaGreatDoor
