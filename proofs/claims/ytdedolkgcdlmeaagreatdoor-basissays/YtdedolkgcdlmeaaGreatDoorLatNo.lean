import Derived.Test.YtdedolkgcdlmeaaGreatDoorShareL
set_option maxRecDepth 100000
set_option maxHeartbeats 3200000
set_option linter.unusedSimpArgs false
namespace Go.Proofs.YtdedolkgcdlmeaaGreatDoor
open Go.RowKit Limbs
variable {n k:Nat}{p:Nat→Nat}
theorem zj6 (w:World)(v:Value)(hs:List (List Int))(nv:Nat)(hv:MatN w v hs nv)(q:Nat)(pn:Bool)(po:Option Addr)(pl pc:Nat)(z:Int)(hz:NumL w (.agg #[.bool pn,.slice po pl pc]) z nv)
  (hall:∀ i (h:i<hs.length),q<hs[i].length) (hl:hs.length≤1000) (hq:q≤1000) (r:Bool) (hr:r=true↔∀ i (h:i<hs.length),0≤hs[i].getD q 0∧hs[i].getD q 0<z):
  Calls Tryz.prog 110 #[v,.int .i64 (q:Int),.agg #[.bool pn,.slice po pl pc]] w fun e w'=>e=.returned (.bool r)∧Below w.heap.size w w':=by
 have HV:=hide hv;have HZ:=hide hz;have HALL:=hide hall;have HR:=hide hr;obtain⟨ao,cap,rfl,-,-⟩:=hv;have HBW:=hide ((zB w.heap.size w).alloc zL (.cells #[.bool pn,.slice po pl pc] 29));have HC0:Hid ((w.alloc (.cells #[.bool pn,.slice po pl pc] 29)).cell? ⟨w.heap.size,0,none⟩=some (.bool pn)):=by show _=_;rw [World.cell?_alloc_new];rfl
 have HC1:Hid ((w.alloc (.cells #[.bool pn,.slice po pl pc] 29)).cell? ⟨w.heap.size,1,none⟩=some (.slice po pl pc)):=by show _=_;rw [World.cell?_alloc_new];rfl
 have HSZ:Hid (w.heap.size<(w.alloc (.cells #[.bool pn,.slice po pl pc] 29)).heap.size):=by show _<_;simp
 clear hz hall hr;go_enter Tryz.func110,Tryz.ntmps110;go_wp2;generalize w.alloc (.cells #[.bool pn,.slice po pl pc] 29)=W1 at *;go_loopw [11] (fun i wr=>∃ j:Nat,j≤hs.length∧i=.int .i64 j∧Hid (∀ i (h:i<hs.length),i<j→0≤hs[i].getD q 0∧hs[i].getD q 0<z)∧Hid (Below W1.heap.size W1 wr)) (fun i _=>hs.length-(intOf i).toNat)
 case atStart=>exact⟨0,Nat.zero_le _,rfl,hide (fun i _ h=>absurd h (Nat.not_lt_zero i)),hide (zB _ _)⟩
 case round=>
  obtain⟨j,hj,rfl,HT,HBI⟩:=hrel;have HBJ:=hide (HBW.out.trans (HBI.out.mono HBW.out.size));by_cases hjl:j<hs.length
  ·obtain⟨b,off,_,e,hlt,x,cx,hx⟩:=(HV.out.below HBJ.out zL).at j hjl;simp only [zV,true_and] at e;obtain⟨rfl,rfl⟩:=e;have hxl:=HALL.out j hjl;obtain⟨xb,xoff,xcap,rfl⟩:=hx.form (by omega);obtain⟨lx,xn,xo,xl,xc,x0,x1,xnum⟩:=hx.at q hxl;have HNX:Hid (0≤hs[j].getD q 0∧hs[j].getD q 0<z→∀ i (h:i<hs.length),i<j+1→0≤hs[i].getD q 0∧hs[i].getD q 0<z):=fun h0 i hi hij=>by
    by_cases e:i=j
    ·subst e;exact h0
    ·exact HT.out i hi (by omega)
   have HNO:Hid (¬(0≤hs[j].getD q 0∧hs[j].getD q 0<z)→r=false):=fun h=>by
    cases r with
    | false=>rfl
    | true=>exact absurd (HR.out.1 rfl j hjl) h
   have hsg:=xnum.sgn;clear HT;have q0:=(HBI.out.cell (p:=⟨w.heap.size,0,none⟩) HSZ.out).trans HC0.out;have q1:=(HBI.out.cell (p:=⟨w.heap.size,1,none⟩) HSZ.out).trans HC1.out;have hlb:w.heap.size<wr.heap.size:=zT HSZ.out HBI.out.size;have HXN:=hide xnum;have HRN2:=hide (HZ.out.below HBJ.out zL);clear xnum hx;generalize hs[j].getD q 0=xv at *;generalize hs[j].length=xlen at *;cases xn with
   | true=>
    have hx0:=hsg.1 rfl;obtain rfl:r=false:=HNO.out fun h=>by have:=h.1;omega
    have hbx:Below wr.heap.size wr (wr.alloc (.cells #[.bool true,.slice xo xl xc] 29)):=(zB _ _).alloc zL _;have HBX:=hide hbx;have c0:(wr.alloc (.cells #[.bool true,.slice xo xl xc] 29)).cell? ⟨wr.heap.size,0,none⟩=some (.bool true):=by rw [World.cell?_alloc_new];rfl
    have c1:(wr.alloc (.cells #[.bool true,.slice xo xl xc] 29)).cell? ⟨wr.heap.size,1,none⟩=some (.slice xo xl xc):=by rw [World.cell?_alloc_new];rfl
    have c3:=(hbx.cell (p:=⟨w.heap.size,0,none⟩) hlb).trans q0;have c4:=(hbx.cell (p:=⟨w.heap.size,1,none⟩) hlb).trans q1;have HBN:=hide (HBJ.out.trans (hbx.mono HBJ.out.size));clear hbx HXN HRN2 HV HZ HALL HC0 HC1;go_wp2;go_ret;exact⟨rfl,HBN.out⟩
   | false=>
    have hx0:=hsg.2 rfl;have hbx:Below wr.heap.size wr (wr.alloc (.cells #[.bool false,.slice xo xl xc] 29)):=(zB _ _).alloc zL _;have HBX:=hide hbx;have c0:(wr.alloc (.cells #[.bool false,.slice xo xl xc] 29)).cell? ⟨wr.heap.size,0,none⟩=some (.bool false):=by rw [World.cell?_alloc_new];rfl
    have c1:(wr.alloc (.cells #[.bool false,.slice xo xl xc] 29)).cell? ⟨wr.heap.size,1,none⟩=some (.slice xo xl xc):=by rw [World.cell?_alloc_new];rfl
    have c3:=(hbx.cell (p:=⟨w.heap.size,0,none⟩) hlb).trans q0;have c4:=(hbx.cell (p:=⟨w.heap.size,1,none⟩) hlb).trans q1;have HXB:=hide (HXN.out.below hbx zL);have HRB:=hide (HRN2.out.below hbx zL);clear hbx HXN HRN2 HV HZ HALL HC0 HC1;go_wp2_with fail;refine(zdw _ _ _ xv z nv nv (by exact HXB.out) (by exact HRB.out)).mono ?_;rintro e w2 ⟨rfl,hb2⟩;have HB2:=hide (show Below wr.heap.size wr w2 from HBX.out.trans (hb2.mono (by simp)));have HB3:=hide (HBI.out.trans (HB2.out.mono HBI.out.size));have HB4:=hide (HBJ.out.trans (HB2.out.mono HBJ.out.size));by_cases hlt':xv<z
    ·have hcm:cmpI xv z=-1:=if_pos hlt';rw [hcm];have HN:=hide (HNX.out ⟨hx0,hlt'⟩);clear hb2 HB2 HBX HXB HRB hcm c0 c1 c3 c4 q0 q1 HBI cx x0 x1 HNX HNO;go_wp2;go_roundw
     case rel=>exact⟨j+1,by omega,by go_num,HN,HB3⟩
     case measure=>simp [intOf];omega
    ·have hcm:0≤cmpI xv z:=by
      unfold cmpI;rw [if_neg hlt'];split <;> omega
     obtain rfl:r=false:=HNO.out fun h=>hlt' h.2;generalize cmpI xv z=cc at *;have g1:decide (0≤cc)=true:=decide_eq_true hcm;clear hb2 HB2 HBX HXB HRB c0 c1 c3 c4 q0 q1 HBI cx x0 x1 HNX HNO;go_wp2;go_ret;exact⟨rfl,HB4.out⟩
  ·obtain rfl:j=hs.length:=by omega
   obtain rfl:r=true:=HR.out.2 fun i h=>HT.out i h h;clear HBI HT;go_wp2;go_ret;exact⟨rfl,HBJ.out⟩
theorem zjj (zs:List Int)(h:0≤first zs):∃ q:Nat,first zs=(q:Int)∧q<zs.length∧zs.getD q 0≠0∧∀ j,j<q→zs.getD j 0=0:=by
 have key:∀ r,r≤zs.length→(∀ k,k<r→zs.getD k 0=0)∨∃ k,k<zs.length∧zs.getD k 0≠0∧∀ j,j<k→zs.getD j 0=0:=fun r=>by
  induction r with
  | zero=>exact fun _=>.inl fun k hk=>absurd hk (Nat.not_lt_zero k)
  | succ r ih=>
   intro hr;rcases ih (by omega) with h | h
   ·by_cases e:zs.getD r 0=0
    ·exact .inl fun k hk=>by
      by_cases e':k=r
      ·rw [e'];exact e
      ·exact h k (by omega)
    ·exact .inr ⟨r,by omega,e,h⟩
   ·exact .inr h
 rcases key zs.length zL with h1 |⟨q,h1,h2,h3⟩
 ·have:=(zcM zs).2 h1;omega
 ·exact⟨q,zdF zs q h1 h3 h2,h1,h2,h3⟩
theorem zj0{hs:List (List Int)}{p':Nat→Nat}(h:FormL n (hs.take k) p)(h':FormL n hs p')(hk:k≤hs.length):lastP p' k=lastP p k:=by
 unfold lastP;split
 ·rfl
 ·have hl:k-1<(hs.take k).length:=by rw [List.length_take];omega
  have h1:=(h.first hl).1;have h2:=(h'.first (show k-1<hs.length by omega)).1;rw [List.getElem_take] at h1;rw [← h1,← h2]
theorem zjn{hs:List (List Int)}{q:Nat}(h:FormL n (hs.take k) p)(hk:k<hs.length)(hl:hs[k].length=n)(hq:q<n)(hlast:lastP p k<(q:Int))(hz:∀ j,j<q→hs[k].getD j 0=0)(hpos:0<hs[k].getD q 0)(hred:∀ i (hi:i<(hs.take k).length),0≤(hs.take k)[i].getD q 0∧(hs.take k)[i].getD q 0<hs[k].getD q 0):FormL n (hs.take (k+1)) (fun i=>if i=k then q else p i):=by
 have hlk:(hs.take k).length=k:=by rw [List.length_take];omega
 have hl1:(hs.take (k+1)).length=k+1:=by rw [List.length_take];omega
 have gk:(hs.take (k+1)).getD k []=hs[k]:=by rw [zG,List.getElem?_take,if_pos (by omega),List.getElem?_eq_getElem hk];rfl
 have gi:∀ i,i<k→(hs.take (k+1)).getD i []=(hs.take k).getD i []:=fun i hi=>by rw [zG,zG,List.getElem?_take,List.getElem?_take,if_pos (by omega),if_pos hi]
 have lp:∀ i,i<k→p i<q:=fun i hi=>by
  unfold lastP at hlast;rw [if_neg (by omega)] at hlast;by_cases e:i=k-1
  ·subst e;omega
  ·have:=h.form.inc i (k-1) (by omega) (by omega);omega
 refine⟨fun r hr=>?_,⟨fun i j hij hj=>?_,fun i hi=>?_,fun i b hi hb=>?_,fun i hi=>?_,fun i j hij hj=>?_⟩⟩
 ·rw [List.take_succ_eq_append_getElem hk] at hr;rcases List.mem_append.1 hr with h1 | h1
  ·exact h.len r h1
  ·rw [List.mem_singleton] at h1;rw [h1];exact hl
 ·rw [hl1] at hj;show(if i=k then q else p i)<(if j=k then q else p j);rw [if_neg (by omega)];by_cases e:j=k
  ·rw [if_pos e];exact lp i (by omega)
  ·rw [if_neg e];exact h.form.inc i j hij (by omega)
 ·rw [hl1] at hi;show(if i=k then q else p i)<n;by_cases e:i=k
  ·rw [if_pos e];exact hq
  ·rw [if_neg e];exact h.form.lt i (by omega)
 ·rw [hl1] at hi;have hb':b<(if i=k then q else p i):=hb;show((hs.take (k+1)).getD i []).getD b 0=0;by_cases e:i=k
  ·rw [if_pos e] at hb';rw [e,gk];exact hz b hb'
  ·rw [if_neg e] at hb';rw [gi i (by omega)];exact h.form.zero i b (by omega) hb'
 ·rw [hl1] at hi;show 0<((hs.take (k+1)).getD i []).getD (if i=k then q else p i) 0;by_cases e:i=k
  ·rw [if_pos e,e,gk];exact hpos
  ·rw [if_neg e,gi i (by omega)];exact h.form.pos i (by omega)
 ·rw [hl1] at hj;show 0≤((hs.take (k+1)).getD i []).getD (if j=k then q else p j) 0∧((hs.take (k+1)).getD i []).getD (if j=k then q else p j) 0<((hs.take (k+1)).getD j []).getD (if j=k then q else p j) 0;rw [gi i (by omega)];by_cases e:j=k
  ·rw [if_pos e,e,gk,zm (show i<(hs.take k).length by omega)];exact hred i (by omega)
  ·rw [if_neg e,gi j (by omega)];exact h.form.red i j hij (by omega)
theorem zjm (n:Nat):FormL n [] (fun _=>0):=
 ⟨(fun _ h=>by cases h),⟨fun i k _ hk=>absurd hk (by simp),fun i hi=>absurd hi (by simp),fun i b hi _=>absurd hi (by simp),fun i hi=>absurd hi (by simp),fun i k _ hk=>absurd hk (by simp)⟩⟩
theorem zfO (w:World)(v:Value)(hs:List (List Int))(n nv:Nat)(hv:MatN w v hs nv)(hlen:∀ us∈hs,us.length=n)(hn1:1≤n)(hn:n≤1000)(hl:hs.length≤1000)(r:Bool)(hr:r=true↔∃ p,FormL n hs p):
  Calls Tryz.prog 75 #[v] w fun e w'=>e=.returned (.bool r)∧Below w.heap.size w w':=by
 have HV:=hide hv;have HLEN:=hide hlen;have HR:=hide hr;obtain⟨ao,cap,rfl,-,-⟩:=hv;clear hlen hr;go_enter Tryz.func75,Tryz.ntmps75;go_wp2;go_loopw [3,8] (fun last i wr=>∃(k:Nat) (p:Nat→Nat),k≤hs.length∧i=.int .i64 k∧last=.int .i64 (lastP p k)∧Hid (FormL n (hs.take k) p)∧Hid (Below w.heap.size w wr)) (fun _ i _=>hs.length-(intOf i).toNat)
 case atStart=>exact⟨0,fun _=>0,Nat.zero_le _,rfl,rfl,hide (by rw [List.take_zero];exact zjm n),hide (zB _ _)⟩
 case round=>
  obtain⟨k,p,hk,rfl,rfl,HF,HBE⟩:=hrel;by_cases hkl:k<hs.length
  ·have hmat:=HV.out.below HBE.out zL;obtain⟨b,off,_,e,hlt,u,cu,hu⟩:=hmat.at k hkl;simp only [zV,true_and] at e;obtain⟨rfl,rfl⟩:=e;have HM:=hide hmat;have hcap:hs.length≤cap:=by
    obtain⟨_,_,e,h1,-⟩:=hmat;simp only [zV,true_and] at e;rw [e.2];exact h1
   clear hmat;have hzn:=HLEN.out _ (List.getElem_mem hkl);obtain⟨rb,roff,rcap,rfl⟩:=hu.form (by omega);have HU:=hide hu;have HONE:=hide (fun p' (h':FormL n hs p')=>zj0 HF.out h' hk);have hrg:-1≤lastP p k∧lastP p k<(n:Int)+1:=by
    have h:=zfN HF.out (k:=k) (by rw [List.length_take];omega);exact h
   have HZN:=hide hzn;clear hu hzn;go_wp2_with fail;refine(zaR wr _ hs[k] nv (by exact HU.out) (by have:=HZN.out;omega)).mono ?_;rintro e w1 ⟨rfl,hb1⟩;have HB1:=hide (HBE.out.trans (hb1.mono HBE.out.size));have HU1:=hide (HU.out.below hb1 zL);have HM1:=hide ((HM.out.below hb1 zL).take hkl);have cu1:=(hb1.cell (p:=⟨b,off+k,none⟩) hlt).trans cu;have hlt1:b<w1.heap.size:=zT hlt hb1.size;have hkc:k≤cap:=by omega
   clear hb1 HU HBE cu hlt HM;by_cases hfl:first hs[k]≤lastP p k
   ·obtain rfl:r=false:=by
     cases r with
     | false=>rfl
     | true=>
      obtain⟨p',h'⟩:=HR.out.1 rfl;have h1:=h'.last hkl;have h2:=(h'.first hkl).1;rw [HONE.out p' h'] at h1;omega
    have g1:decide (first hs[k]≤lastP p k)=true:=decide_eq_true hfl;have hf1:=zcL hs[k];generalize first hs[k]=f at *;generalize lastP p k=lp at *;generalize hs[k]=zs at *;go_wp2_with fail;refine wp_region_held_drew (S:=(fun w'=>w'.cell? ⟨b,off+k,none⟩=some (.slice (some ⟨rb,roff,none⟩) zs.length rcap))) (by kernel_rfl) (by(try dsimp only);go_keep) (fun hHeld=>?_);refine zi 0 16 ?_;try simp only [zA]
    refine zi 1 17 ?_;try simp only [zA]
    refine zi 2 18 ?_;try simp only [zA]
    refine zi 3 19 ?_;try simp only [zA]
    refine zn 4 20 ?_;try simp only [zA]
    refine zn 5 21 ?_;try simp only [zA]
    refine zn 6 22 ?_;try simp only [zA]
    refine zn 7 23 ?_;try simp only [zA]
    refine zn 8 24 ?_;try simp only [zA]
    refine zn 9 25 ?_;try simp only [zA]
    refine zn 10 26 ?_;try simp only [zA]
    refine zn 11 27 ?_;try simp only [zA]
    refine zi 12 28 ?_;try simp only [zA]
    refine zi 13 29 ?_;try simp only [zA]
    refine zn 14 30 ?_;try simp only [zA]
    refine zn 15 31 ?_;try simp only [zA]
    refine zn 16 32 ?_;try simp only [zA]
    refine zn 17 33 ?_;try simp only [zA]
    refine zn 18 34 ?_;try simp only [zA]
    refine zn 19 35 ?_;try simp only [zA]
    refine zn 20 36 ?_;try simp only [zA]
    refine zn 21 37 ?_;try simp only [zA]
    refine zn 22 38 ?_;try simp only [zA]
    refine zn 23 39 ?_;try simp only [zA]
    refine zn 24 40 ?_;try simp only [zA]
    refine zn 25 41 ?_;try simp only [zA]
    refine zn 26 42 ?_;try simp only [zA]
    refine zi 27 43 ?_;try simp only [zA]
    refine wpAnyH_done (by kernel_rfl) ?_ _;go_wp2;go_ret;exact⟨rfl,HB1.out.drew⟩
   ·obtain⟨q,hfq,hqz,hq0,hqb⟩:=zjj hs[k] (by omega);rw [hfq] at hfl ⊢;have g1:decide ((q:Int)≤lastP p k)=false:=decide_eq_false hfl;have g2:decide ((q:Int)<0)=false:=decide_eq_false (by omega);have hq1000:q≤1000:=by have:=HZN.out;omega
    have HQP:=hide (fun p' (h':FormL n hs p')=>show p' k=q from by have:=(h'.first hkl).1;omega);obtain⟨lu1,rn,ro,rl,rc,r0,r1,rnum⟩:=HU1.out.at q hqz;have hsg:=rnum.sgn;have HRN:=hide rnum;cases rn with
    | true=>
     have hneg:=hsg.1 rfl;obtain rfl:r=false:=by
      cases r with
      | false=>rfl
      | true=>
       obtain⟨p',h'⟩:=HR.out.1 rfl;have h1:=(h'.first hkl).2.2;rw [HQP.out p' h'] at h1;omega
     clear HF HONE HQP hsg hq0 hqb hfq hneg rnum;generalize lastP p k=lp at *;generalize hs[k]=zs at *;go_wp2_with fail;refine wp_region_held_drew (S:=(fun w'=>w'.cell? ⟨b,off+k,none⟩=some (.slice (some ⟨rb,roff,none⟩) zs.length rcap)∧w'.cell? ⟨rb,roff+q*2,none⟩=some (.bool true)∧w'.cell? ⟨rb,roff+q*2+1,none⟩=some (.slice ro rl rc))) (by kernel_rfl) (by(try dsimp only);go_keep) (fun hHeld=>?_);refine zi 0 16 ?_;try simp only [zA]
     refine zi 1 17 ?_;try simp only [zA]
     refine zi 2 18 ?_;try simp only [zA]
     refine zi 3 19 ?_;try simp only [zA]
     refine zi 4 20 ?_;try simp only [zA]
     refine zi 5 21 ?_;try simp only [zA]
     refine zi 6 22 ?_;try simp only [zA]
     refine zi 7 23 ?_;try simp only [zA]
     refine zi 8 24 ?_;try simp only [zA]
     refine zi 9 25 ?_;try simp only [zA]
     refine zi 10 26 ?_;try simp only [zA]
     refine zi 11 27 ?_;try simp only [zA]
     refine zi 12 28 ?_;try simp only [zA]
     refine zi 13 29 ?_;try simp only [zA]
     refine zn 14 30 ?_;try simp only [zA]
     refine zn 15 31 ?_;try simp only [zA]
     refine zn 16 32 ?_;try simp only [zA]
     refine zn 17 33 ?_;try simp only [zA]
     refine zn 18 34 ?_;try simp only [zA]
     refine zn 19 35 ?_;try simp only [zA]
     refine zn 20 36 ?_;try simp only [zA]
     refine zn 21 37 ?_;try simp only [zA]
     refine zn 22 38 ?_;try simp only [zA]
     refine zn 23 39 ?_;try simp only [zA]
     refine zn 24 40 ?_;try simp only [zA]
     refine zn 25 41 ?_;try simp only [zA]
     refine zn 26 42 ?_;try simp only [zA]
     refine zi 27 43 ?_;try simp only [zA]
     refine wpAnyH_done (by kernel_rfl) ?_ _;go_wp2;go_ret;exact⟨rfl,HB1.out.drew⟩
    | false=>
     have hpos:0<hs[k].getD q 0:=by have:=hsg.2 rfl;omega
     have HALL:Hid (∀ i (h:i<(hs.take k).length),q<(hs.take k)[i].length):=fun i hi=>by
      rw [List.getElem_take];have h2:=HLEN.out _ (List.getElem_mem (show i<hs.length by rw [List.length_take] at hi;omega));have:=HZN.out;omega
     obtain⟨r2,hr2⟩:∃ r2:Bool,r2=true↔∀ i (h:i<(hs.take k).length),0≤(hs.take k)[i].getD q 0∧(hs.take k)[i].getD q 0<hs[k].getD q 0:=by
      by_cases h:∀ i (h:i<(hs.take k).length),0≤(hs.take k)[i].getD q 0∧(hs.take k)[i].getD q 0<hs[k].getD q 0
      ·exact⟨true,fun _=>h,fun _=>rfl⟩
      ·exact⟨false,fun h'=>absurd h' (by decide),fun h'=>absurd h' h⟩
     have HR2:=hide hr2;have HNX:Hid (r2=true→∃ p',FormL n (hs.take (k+1)) p'∧lastP p' (k+1)=(q:Int)):=fun h=>⟨_,zjn HF.out hkl HZN.out (by have:=HZN.out;omega) (by omega) hqb hpos (hr2.1 h),by
      unfold lastP;rw [if_neg (by omega),Nat.add_sub_cancel];show(((if k=k then q else p k):Nat):Int)=q;rw [if_pos rfl]⟩
     have HNO:Hid (r2=false→r=false):=fun h=>by
      cases r with
      | false=>rfl
      | true=>
       obtain⟨p',h'⟩:=HR.out.1 rfl;have:r2=true:=hr2.2 fun i hi=>by
        have h3:=h'.red (i:=i) (k:=k) (by rw [List.length_take] at hi;omega) hkl;rw [HQP.out p' h'] at h3;rw [List.getElem_take];exact h3
       rw [h] at this;exact absurd this (by decide)
     clear HF HONE HQP hsg hq0 hqb hfq hpos rnum hr2;generalize lastP p k=lp at *;generalize hs[k]=zs at *;go_wp2_with fail
     go_region_held3 (fun w'=>w'.cell? ⟨b,off+k,none⟩=some (.slice (some ⟨rb,roff,none⟩) zs.length rcap)∧w'.cell? ⟨rb,roff+q*2,none⟩=some (.bool false)∧w'.cell? ⟨rb,roff+q*2+1,none⟩=some (.slice ro rl rc)) (go_keep)
      (first
       |(go_at_call 110;refine(zj6 _ _ (hs.take k) nv (by exact HM1.out.below (zB _ _).drew zL) q false ro rl rc (zs.getD q 0) (by exact HRN.out.below (zB _ _).drew zL) HALL.out (by rw [List.length_take];omega) hq1000 r2 HR2.out).mono ?_;rintro e w2 ⟨rfl,hb2⟩;have p2:=(hb2.cell (p:=⟨b,off+k,none⟩) (by simp;omega)).trans cu1;have p3:=(hb2.cell (p:=⟨rb,roff+q*2,none⟩) (by simp;omega)).trans r0;have p4:=(hb2.cell (p:=⟨rb,roff+q*2+1,none⟩) (by simp;omega)).trans r1;have HB2:=hide (show Below w1.heap.size w1 w2 from(zB _ _).drew.trans (hb2.mono (by simp)));clear hb2))
     have HB3:=hide (HB1.out.trans (HB2.out.mono HB1.out.size));clear p2 p3 p4 r0 r1 cu1 HB2 HB1 HRN HM1 HALL HR2;cases r2 with
     | true=>
      obtain⟨p',h1,h2⟩:=HNX.out rfl;have HF':=hide h1;have HLP:=hide h2;clear h1 h2 HNX HNO;go_wp2;go_roundw
      case rel=>exact⟨k+1,p',by omega,by go_num,by rw [HLP.out],HF',HB3⟩
      case measure=>simp [intOf];omega
     | false=>
      obtain rfl:r=false:=HNO.out rfl;clear HNX HNO;go_wp2;go_ret;exact⟨rfl,HB3.out⟩
  ·obtain rfl:k=hs.length:=by omega
   obtain rfl:r=true:=HR.out.2 ⟨p,by have h:=HF.out;rw [List.take_length] at h;exact h⟩;clear HF;go_wp2;go_ret;exact⟨rfl,HBE.out⟩
end Go.Proofs.YtdedolkgcdlmeaaGreatDoor
