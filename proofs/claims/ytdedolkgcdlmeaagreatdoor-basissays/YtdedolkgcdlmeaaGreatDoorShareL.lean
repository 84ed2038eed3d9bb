import Derived.Test.YtdedolkgcdlmeaaGreatDoorMatRaw
set_option maxRecDepth 100000
set_option maxHeartbeats 1600000
namespace Go.Proofs.YtdedolkgcdlmeaaGreatDoor
open Go.RowKit Limbs
variable {n k r:Nat}{p:Nat→Nat}{w:World}{zs v:List Int}
def chkRows (n:Int):List (List Raw)→Value
 | []=>.nilIface
 | rs::t=>if (rs.length:Int)≠n then .iface 102 (.int .i64 6) else if rs.all Raw.num=false then .iface 102 (.int .i64 3) else chkRows n t
def checkedM (rss:List (List Raw))(n:Int):Value:=
 if n<1∨8<n then .iface 102 (.int .i64 1) else if 12<rss.length then .iface 102 (.int .i64 2) else chkRows n rss
theorem zik{n:Int}{rss:List (List Raw)}(hk:k<rss.length)(h1:(rss[k].length:Int)=n)(h2:rss[k].all Raw.num=true):chkRows n (rss.drop (k+1))=chkRows n (rss.drop k):=by
 rw [List.drop_eq_getElem_cons hk,chkRows,if_neg (by rw [h1];exact fun h=>h rfl),if_neg (by rw [h2];decide)]
theorem zij{n:Int}{rss:List (List Raw)}(hk:k<rss.length)(h1:(rss[k].length:Int)≠n):chkRows n (rss.drop k)=.iface 102 (.int .i64 6):=by
 rw [List.drop_eq_getElem_cons hk,chkRows,if_pos h1]
theorem zii{n:Int}{rss:List (List Raw)}(hk:k<rss.length)(h1:(rss[k].length:Int)=n)(h2:rss[k].all Raw.num=false):chkRows n (rss.drop k)=.iface 102 (.int .i64 3):=by
 rw [List.drop_eq_getElem_cons hk,chkRows,if_neg (by rw [h1];exact fun h=>h rfl),if_pos h2]
theorem ze8 {n:Int}:∀ {rss:List (List Raw)},chkRows n rss=.nilIface↔∀ rs∈rss,(rs.length:Int)=n∧rs.all Raw.num=true
 | []=>⟨fun _ rs h=>(by cases h),fun _=>rfl⟩
 | rs::t=>by
  rw [chkRows];by_cases h1:(rs.length:Int)=n
  ·rw [if_neg (fun h=>h h1)];rcases Bool.eq_false_or_eq_true (rs.all Raw.num) with h2 | h2
   rotate_left
   ·rw [if_pos h2];refine⟨fun h=>(by cases h),fun h=>?_⟩;have:=(h rs (by simp)).2;rw [h2] at this;cases this
   ·rw [if_neg (by rw [h2];decide),ze8];exact⟨fun h x hx=>by
     rcases List.mem_cons.1 hx with rfl | hx
     ·exact⟨h1,h2⟩
     ·exact h x hx,fun h x hx=>h x (List.mem_cons_of_mem _ hx)⟩
  ·rw [if_pos h1];exact⟨fun h=>(by cases h),fun h=>absurd (h rs (by simp)).1 h1⟩
theorem zaP{n:Int}{rss:List (List Raw)}:checkedM rss n=.nilIface↔1≤n∧n≤8∧rss.length≤12∧∀ rs∈rss,(rs.length:Int)=n∧rs.all Raw.num=true:=by
 unfold checkedM;by_cases h1:n<1∨8<n
 ·rw [if_pos h1];exact⟨fun h=>(by cases h),fun h=>by omega⟩
 ·rw [if_neg h1];by_cases h2:12<rss.length
  ·rw [if_pos h2];exact⟨fun h=>(by cases h),fun h=>by omega⟩
  ·rw [if_neg h2,ze8];exact⟨fun h=>⟨by omega,by omega,by omega,h⟩,fun h=>h.2.2.2⟩
theorem zcD (w:World)(v:Value)(rss:List (List Raw))(n:Int)(hv:MatL w v rss):
  Calls Tryz.prog 51 #[v,.int .i64 n] w fun e w'=>e=.returned (checkedM rss n)∧Below w.heap.size w w':=by
 have HV:=hide hv;obtain⟨ao,cap,rfl,-,-⟩:=hv;by_cases h1:n<1
 ·have e:checkedM rss n=.iface 102 (.int .i64 1):=if_pos (.inl h1);rw [e];clear e;go_enter Tryz.func51,Tryz.ntmps51;go_wp2;go_ret;exact⟨rfl,zB _ _⟩
 ·by_cases h2:8<n
  ·have e:checkedM rss n=.iface 102 (.int .i64 1):=if_pos (.inr h2);rw [e];clear e;go_enter Tryz.func51,Tryz.ntmps51;go_wp2;go_ret;exact⟨rfl,zB _ _⟩
  ·by_cases h3:12<rss.length
   ·have e:checkedM rss n=.iface 102 (.int .i64 2):=by unfold checkedM;rw [if_neg (by omega),if_pos h3]
    rw [e];have h3':(12:Int)<(rss.length:Int):=by omega
    clear e;go_enter Tryz.func51,Tryz.ntmps51;go_wp2;go_ret;exact⟨rfl,zB _ _⟩
   ·have e:checkedM rss n=chkRows n rss:=by unfold checkedM;rw [if_neg (by omega),if_neg h3]
    rw [e];have h3':¬((12:Int)<(rss.length:Int)):=by omega
    clear e;go_enter Tryz.func51,Tryz.ntmps51;go_wp2;go_loopw [20] (fun i wr=>∃ k:Nat,k≤rss.length∧i=.int .i64 k∧Hid (chkRows n (rss.drop k)=chkRows n rss)∧Below w.heap.size w wr) (fun i _=>rss.length-(intOf i).toNat)
    case atStart=>exact⟨0,Nat.zero_le _,rfl,by show _=_;rw [List.drop_zero],zB _ _⟩
    case round=>
     obtain⟨k,hk,rfl,HG,hbe⟩:=hrel;have HBE:=hide hbe;clear hbe;by_cases hkl:k<rss.length
     ·obtain⟨b,off,_,e,hlt,u,cu,hu⟩:=(HV.out.below HBE.out zL).at k hkl;simp only [zV,true_and] at e;obtain⟨rfl,rfl⟩:=e;have HU:=hide hu;have H1:=hide (fun h1 h2=>(zik (n:=n) hkl h1 h2).trans HG.out);have H2:=hide (fun h1=>(HG.out.symm.trans (zij (n:=n) hkl h1)));have H3:=hide (fun h1 h2=>(HG.out.symm.trans (zii (n:=n) hkl h1 h2)));generalize rss[k]=rs at *;obtain⟨uo,ucap,rfl,-,-⟩:=hu;by_cases hsz:(rs.length:Int)=n
      ·have hb:((rs.length:Int) != n)=false:=by rw [bne_eq_false_iff_eq];exact hsz
       have hcv:checkedV rs=checked (rs.all Raw.num):=if_neg (by omega);have HCK:=hide (zdp wr _ rs HU.out);rw [hcv] at HCK;have HSZ:=hide hsz;clear hcv HU hsz;go_wp2_with fail;refine HCK.out.mono ?_;rintro e w1 ⟨rfl,hb1⟩;have HB1:=hide (HBE.out.trans (hb1.mono HBE.out.size));clear hb1 HCK;cases hn:rs.all Raw.num
       ·have HA:=hide (H3.out HSZ.out hn);have e:checked false=.iface 102 (.int .i64 3):=rfl;rw [e];clear H1 H2 H3 e hn;go_wp2;go_ret;exact⟨by rw [HA.out];rfl,HB1.out⟩
       ·have e:checked true=.nilIface:=rfl;rw [e];have HG':=hide (H1.out HSZ.out hn);clear H1 H2 H3 e hn HG;go_wp2;go_roundw
        case rel=>exact⟨k+1,by omega,by go_num,HG',HB1.out⟩
        case measure=>simp [intOf];omega
      ·have hb:((rs.length:Int) != n)=true:=by rw [bne_iff_ne];exact hsz
       have HA:=hide (H2.out hsz);clear H1 H2 H3;go_wp2;go_ret;exact⟨by rw [HA.out];rfl,HBE.out⟩
     ·obtain rfl:k=rss.length:=by omega
      have HA:Hid (chkRows n rss=.nilIface):=by
       have:=HG.out;rw [List.drop_length] at this;exact this.symm
      clear HG;go_wp2;go_ret;exact⟨by rw [HA.out];rfl,HBE.out⟩
theorem MatN.raw{v:Value}{zss:List (List Int)}(h:MatN w v zss n):∃ rss:List (List Raw),MatL w v rss∧rss.length=zss.length∧∀ i (h:i<zss.length) rs,rss[i]?=some rs→rs.length=zss[i].length∧rs.all Raw.num=true:=by
 obtain⟨ao,cap,rfl,h1,h2⟩:=h;by_cases h0:0<zss.length
 ·obtain⟨b,off,rfl,hlt,hc⟩:=h2 h0;have key:∀ k,k≤zss.length→∃ rss:List (List Raw),rss.length=k∧(∀ i (h:i<zss.length) rs,rss[i]?=some rs→rs.length=zss[i].length∧rs.all Raw.num=true)∧∀ i rs,rss[i]?=some rs→∃ u,w.cell? ⟨b,off+i,none⟩=some u∧VecL w u rs:=by
   intro k
   induction k with
   | zero=>exact fun _=>⟨[],rfl,fun i _ r e=>by simp at e,fun i r e=>by simp at e⟩
   | succ k ih=>
    intro hk;obtain⟨rss,e1,e2,e3⟩:=ih (by omega);obtain⟨u,cu,hu⟩:=hc k zss[k] (by simp);obtain⟨rs,hl,hlen,hnum⟩:=hu.raw;have two:∀ i r,(rss++[rs])[i]?=some r→rss[i]?=some r∨(i=k∧r=rs):=fun i r e=>by
     by_cases hi:i<rss.length
     ·rw [List.getElem?_append_left hi] at e;exact .inl e
     ·rw [List.getElem?_append_right (by omega)] at e;have hik:i-rss.length=0:=by
       have:=(List.getElem?_eq_some_iff.1 e).1;simpa using this
      rw [hik] at e;simp only [List.getElem?_cons_zero,Option.some.injEq] at e;exact .inr ⟨by omega,e.symm⟩
    refine⟨rss++[rs],by simp [e1],fun i hi r e=>?_,fun i r e=>?_⟩
    ·rcases two i r e with h |⟨rfl,rfl⟩
     ·exact e2 i hi r h
     ·exact⟨hlen,hnum⟩
    ·rcases two i r e with h |⟨rfl,rfl⟩
     ·exact e3 i r h
     ·exact⟨u,cu,hl⟩
  obtain⟨rss,e1,e2,e3⟩:=key zss.length zL;exact⟨rss,⟨_,cap,by rw [e1],by rw [e1];exact h1,fun _=>⟨b,off,rfl,hlt,e3⟩⟩,e1,e2⟩
 ·exact⟨[],⟨ao,cap,by rw [show zss.length=0 by omega];rfl,Nat.zero_le _,fun h=>absurd h (by simp)⟩,by simp;omega,fun i hi=>absurd hi (by omega)⟩
theorem zcE (w:World)(v:Value)(zss:List (List Int))(n nv:Nat)(hv:MatN w v zss nv)(hn1:1≤n)(hn:n≤8)(hl:zss.length≤12)(hr:∀ zs∈zss,zs.length=n):
  Calls Tryz.prog 51 #[v,.int .i64 (n:Int)] w fun e w'=>e=.returned .nilIface∧Below w.heap.size w w':=by
 obtain⟨rss,h1,h2,h3⟩:=hv.raw;have e:checkedM rss (n:Int)=.nilIface:=zaP.2 ⟨by omega,by omega,by omega,fun rs h=>by
  obtain⟨i,hi,e⟩:=List.getElem_of_mem h;obtain⟨h4,h5⟩:=h3 i (by omega) rs (by rw [List.getElem?_eq_getElem hi,e]);have:=hr _ (List.getElem_mem (show i<zss.length by omega));exact⟨by omega,h5⟩⟩
 have:=zcD w v rss n h1
 rwa [e] at this
def HermNew (w:World)(n nv:Nat)(ms:List (List Int))(e:Ending)(w':World):Prop:=
 ∃ u hs p,e=.returned (.tuple #[u,.nilIface])∧MatN w' u hs (n*nv+2)∧hs.length≤n∧Below w.heap.size w w'∧FormL n hs p∧Alikes n (InL hs) (InL ms)∧Fresh w.heap.size u
theorem zjH (w:World)(v:Value)(ms:List (List Int))(n nv:Nat)(hv:MatN w v ms nv)(hr:∀ us∈ms,us.length=n)(hn1:1≤n)(hn:n≤8)(hm:ms.length≤12)(hN:nbK n (n*nv+2) nv n≤100000):
  Calls Tryz.prog 48 #[v,.int .i64 (n:Int)] w fun e w'=>HermNew w n nv ms e w':=by
 have HC:=hide (zcE w v ms n nv hv hn1 hn hm hr);have HO:=hide (fun w1 (hb:Below w.heap.size w w1)=>zgn w1 v ms n nv (hv.below hb zL) hr hn1 (by omega) (by omega) hN);obtain⟨ao,cap,rfl,-,-⟩:=hv;clear hr hN;go_enter Tryz.func48,Tryz.ntmps48;go_wp2_with fail;refine HC.out.mono ?_;rintro e w1 ⟨rfl,hb1⟩;have HB1:=hide hb1;clear hb1 HC;go_wp2_with fail;refine(HO.out w1 HB1.out).mono ?_;rintro e w2 ⟨u,hs,p,rfl,h1,h2,h3,h4,h5,h6⟩;have HP:=hide (show HermNew w n nv ms (.returned (.tuple #[u,.nilIface])) w2 from⟨u,hs,p,rfl,h1,h2,HB1.out.trans (h3.mono HB1.out.size),h4,h5,h6.mono HB1.out.size⟩);clear h1 h2 h3 h4 h5 h6 HO HB1;go_wp2;go_ret2;exact HP.out
theorem zdF:∀(zs:List Int) (k:Nat),k<zs.length→(∀ j,j<k→zs.getD j 0=0)→zs.getD k 0≠0→first zs=k
 | [],k,hk,_,_=>absurd hk (by simp)
 | z::zs,0,_,_,hne=>by
  have:z≠0:=by simpa using hne
  rw [first,if_neg this];rfl
 | z::zs,k+1,hk,h0,hne=>by
  have e:z=0:=by simpa using h0 0 (by omega)
  have ih:=zdF zs k (by simpa using hk) (fun j hj=>by simpa using h0 (j+1) (by omega)) (by simpa using hne);rw [first,if_pos e,ih,if_neg (by omega)];omega
theorem FormL.first{hs:List (List Int)}(h:FormL n hs p)(hk:k<hs.length):first hs[k]=p k∧p k<n∧0<hs[k].getD (p k) 0:=by
 have hlen:=h.len _ (List.getElem_mem hk);have h1:=h.form.lt k hk;have h2:=h.form.pos k hk;have h3:=h.form.zero k;simp only [zm hk] at h2 h3;exact⟨zdF _ _ (by omega) (fun j hj=>h3 j hk hj) (by omega),h1,h2⟩
theorem FormL.red{hs:List (List Int)}(h:FormL n hs p){i:Nat}(hik:i<k)(hk:k<hs.length):0≤(hs[i]'(by omega)).getD (p k) 0∧(hs[i]'(by omega)).getD (p k) 0<hs[k].getD (p k) 0:=by
 have:=h.form.red i k hik hk;simpa only [zm hk,zm (show i<hs.length by omega)] using this
def lastP (p:Nat→Nat)(k:Nat):Int:=if k=0 then -1 else (p (k-1):Int)
theorem FormL.last{hs:List (List Int)}(h:FormL n hs p)(hk:k<hs.length):lastP p k<(p k:Int):=by
 unfold lastP;split
 ·omega
 ·have:=h.form.inc (k-1) k (by omega) hk;omega
theorem zfN{hs:List (List Int)}(h:FormL n hs p)(hk:k≤hs.length):-1≤lastP p k∧lastP p k<(n:Int)+1:=by
 unfold lastP;split
 ·omega
 ·have:=h.form.lt (k-1) (by omega);omega
theorem MatN.take{b off cap:Nat}{zss:List (List Int)}(h:MatN w (.slice (some ⟨b,off,none⟩) zss.length cap) zss n)(hk:k<zss.length):MatN w (.slice (some ⟨b,off,none⟩) k cap) (zss.take k) n:=by
 obtain⟨ao,cap',e,h1,h2⟩:=h;simp only [zV,true_and] at e;obtain⟨rfl,rfl⟩:=e;obtain⟨b',off',e,hlt,hc⟩:=h2 (by omega);simp only [Option.some.injEq,Addr.mk.injEq,and_true] at e;obtain⟨rfl,rfl⟩:=e;have hl:(zss.take k).length=k:=by rw [List.length_take];omega
 refine⟨_,cap,by rw [hl],by omega,fun _=>⟨b,off,rfl,hlt,fun i zs hi=>?_⟩⟩;have:i<k:=by have:=(List.getElem?_eq_some_iff.1 hi).1;omega
 exact hc i zs (by rw [← hi,List.getElem?_take,if_pos this])
theorem zj7 (w:World)(v:Value)(hs:List (List Int))(nv:Nat)(hv:MatN w v hs nv)(q:Nat)(pn:Bool)(po:Option Addr)(pl pc:Nat)(z:Int)(hz:NumL w (.agg #[.bool pn,.slice po pl pc]) z nv)
  (hall:∀ i (h:i<hs.length),q<hs[i].length∧0≤hs[i].getD q 0∧hs[i].getD q 0<z) (hl:hs.length≤1000) (hq:q≤1000):
  Calls Tryz.prog 110 #[v,.int .i64 (q:Int),.agg #[.bool pn,.slice po pl pc]] w fun e w'=>e=.returned (.bool true)∧Below w.heap.size w w':=by
 have HV:=hide hv;have HZ:=hide hz;have HALL:=hide hall;obtain⟨ao,cap,rfl,-,-⟩:=hv;have HBW:=hide ((zB w.heap.size w).alloc zL (.cells #[.bool pn,.slice po pl pc] 29));have HC0:Hid ((w.alloc (.cells #[.bool pn,.slice po pl pc] 29)).cell? ⟨w.heap.size,0,none⟩=some (.bool pn)):=by show _=_;rw [World.cell?_alloc_new];rfl
 have HC1:Hid ((w.alloc (.cells #[.bool pn,.slice po pl pc] 29)).cell? ⟨w.heap.size,1,none⟩=some (.slice po pl pc)):=by show _=_;rw [World.cell?_alloc_new];rfl
 have HSZ:Hid (w.heap.size<(w.alloc (.cells #[.bool pn,.slice po pl pc] 29)).heap.size):=by show _<_;simp
 clear hz hall;go_enter Tryz.func110,Tryz.ntmps110;go_wp2;generalize w.alloc (.cells #[.bool pn,.slice po pl pc] 29)=W1 at *;go_loopw [11] (fun i wr=>∃ j:Nat,j≤hs.length∧i=.int .i64 j∧Hid (Below W1.heap.size W1 wr)) (fun i _=>hs.length-(intOf i).toNat)
 case atStart=>exact⟨0,Nat.zero_le _,rfl,hide (zB _ _)⟩
 case round=>
  obtain⟨j,hj,rfl,HBI⟩:=hrel;have HBJ:=hide (HBW.out.trans (HBI.out.mono HBW.out.size));by_cases hjl:j<hs.length
  ·obtain⟨b,off,_,e,hlt,x,cx,hx⟩:=(HV.out.below HBJ.out zL).at j hjl;simp only [zV,true_and] at e;obtain⟨rfl,rfl⟩:=e;obtain⟨hxl,hr1,hr2⟩:=HALL.out j hjl;obtain⟨xb,xoff,xcap,rfl⟩:=hx.form (by omega);obtain⟨lx,xn,xo,xl,xc,x0,x1,xnum⟩:=hx.at q hxl;have hneg:xn=false:=by
    have:=xnum.sgn;cases xn
    ·rfl
    ·have:=this.1 rfl;omega
   subst hneg;have q0:=(HBI.out.cell (p:=⟨w.heap.size,0,none⟩) HSZ.out).trans HC0.out;have q1:=(HBI.out.cell (p:=⟨w.heap.size,1,none⟩) HSZ.out).trans HC1.out;have hlb:w.heap.size<wr.heap.size:=zT HSZ.out HBI.out.size;have HXN:=hide xnum;have HRN2:=hide (HZ.out.below HBJ.out zL);have HCM:Hid (cmpI (hs[j].getD q 0) z=-1):=if_pos hr2;clear xnum hx hr1 hr2;generalize hs[j].getD q 0=xv at *;generalize hs[j].length=xlen at *;have hbx:Below wr.heap.size wr (wr.alloc (.cells #[.bool false,.slice xo xl xc] 29)):=(zB _ _).alloc zL _;have HBX:=hide hbx;have c0:(wr.alloc (.cells #[.bool false,.slice xo xl xc] 29)).cell? ⟨wr.heap.size,0,none⟩=some (.bool false):=by rw [World.cell?_alloc_new];rfl
   have c1:(wr.alloc (.cells #[.bool false,.slice xo xl xc] 29)).cell? ⟨wr.heap.size,1,none⟩=some (.slice xo xl xc):=by rw [World.cell?_alloc_new];rfl
   have c3:=(hbx.cell (p:=⟨w.heap.size,0,none⟩) hlb).trans q0;have c4:=(hbx.cell (p:=⟨w.heap.size,1,none⟩) hlb).trans q1;have HXB:=hide (HXN.out.below hbx zL);have HRB:=hide (HRN2.out.below hbx zL);clear hbx HXN HRN2 HV HZ HALL HC0 HC1;go_wp2_with fail;refine(zdw _ _ _ xv z nv nv (by exact HXB.out) (by exact HRB.out)).mono ?_;rintro e w2 ⟨rfl,hb2⟩;have HB2:=hide (show Below wr.heap.size wr w2 from HBX.out.trans (hb2.mono (by simp)));rw [HCM.out];have HB3:=hide (HBI.out.trans (HB2.out.mono HBI.out.size));clear hb2 HB2 HBX HXB HRB HCM c0 c1 c3 c4 q0 q1 HBI cx x0 x1;go_wp2;go_roundw
   case rel=>exact⟨j+1,by omega,by go_num,HB3⟩
   case measure=>simp [intOf];omega
  ·obtain rfl:j=hs.length:=by omega
   clear HBI;go_wp2;go_ret;exact⟨rfl,HBJ.out⟩
theorem zj1 (w:World)(v:Value)(hs:List (List Int))(n nv:Nat)(p:Nat→Nat)(hv:MatN w v hs nv)(hF:FormL n hs p)(hn:n≤1000)(hl:hs.length≤1000):
  Calls Tryz.prog 75 #[v] w fun e w'=>e=.returned (.bool true)∧Below w.heap.size w w':=by
 have HV:=hide hv;have HF:=hide hF;obtain⟨ao,cap,rfl,-,-⟩:=hv;clear hF;go_enter Tryz.func75,Tryz.ntmps75;go_wp2;go_loopw [3,8] (fun last i wr=>∃ k:Nat,k≤hs.length∧i=.int .i64 k∧last=.int .i64 (lastP p k)∧Hid (Below w.heap.size w wr)) (fun _ i _=>hs.length-(intOf i).toNat)
 case atStart=>exact⟨0,Nat.zero_le _,rfl,rfl,hide (zB _ _)⟩
 case round=>
  obtain⟨k,hk,rfl,rfl,HBE⟩:=hrel;by_cases hkl:k<hs.length
  ·have hmat:=HV.out.below HBE.out zL;obtain⟨b,off,_,e,hlt,u,cu,hu⟩:=hmat.at k hkl;simp only [zV,true_and] at e;obtain⟨rfl,rfl⟩:=e;have HM:=hide hmat;have hcap:hs.length≤cap:=by
    obtain⟨_,_,e,h1,-⟩:=hmat;simp only [zV,true_and] at e;rw [e.2];exact h1
   clear hmat;obtain⟨f1,f2,f3⟩:=HF.out.first hkl;have hlen:=HF.out.len _ (List.getElem_mem hkl);have hlast:=HF.out.last hkl;have hrg:=zfN HF.out (Nat.le_of_lt hkl);have HNX:Hid (lastP p (k+1)=(p k:Int)):=by show _=_;unfold lastP;rw [if_neg (by omega),Nat.add_sub_cancel]
   obtain⟨rb,roff,rcap,rfl⟩:=hu.form (by omega);have HU:=hide hu;have HALL:Hid (∀ i (h:i<(hs.take k).length),p k<(hs.take k)[i].length∧0≤(hs.take k)[i].getD (p k) 0∧(hs.take k)[i].getD (p k) 0<hs[k].getD (p k) 0):=by
    intro i hi;have hik:i<k:=by rw [List.length_take] at hi;omega
    rw [List.getElem_take];have:=HF.out.red hik hkl;have h2:=HF.out.len _ (List.getElem_mem (show i<hs.length by omega));exact⟨by omega,this.1,this.2⟩
   have hlu:=(hu.at (p k) (by omega)).1;have hqz:p k<hs[k].length:=by omega
   have hzl:hs[k].length≤1000:=by omega
   generalize hq:p k=q at *;generalize hs[k]=zs at *;generalize lastP p k=lp at *;have HL:=hide hlen;have HQ:=hide hq;have HF1:=hide f1;clear hlen hq f1 hu;go_wp2_with fail;refine(zaR wr _ zs nv (by exact HU.out) (by omega)).mono ?_;rintro e w1 ⟨rfl,hb1⟩;rw [HF1.out];have HB1:=hide (HBE.out.trans (hb1.mono HBE.out.size));have HU1:=hide (HU.out.below hb1 zL);have HM1:=hide ((HM.out.below hb1 zL).take hkl);have cu1:=(hb1.cell (p:=⟨b,off+k,none⟩) hlt).trans cu;obtain⟨lu1,rn,ro,rl,rc,r0,r1,rnum⟩:=HU1.out.at q hqz;have hneg:rn=false:=by
    have:=rnum.sgn;cases rn
    ·rfl
    ·have:=this.1 rfl;omega
   subst hneg;have hlt1:b<w1.heap.size:=zT hlt hb1.size;have g1:decide ((q:Int)≤lp)=false:=decide_eq_false (by omega);have g2:decide ((q:Int)<0)=false:=decide_eq_false (by omega);have hkc:k≤cap:=by omega
   have hq1000:q≤1000:=by omega
   have HRN:=hide rnum;clear rnum hb1 HU HBE cu hlt hlu HF1 HM;go_wp2_with fail
   go_region_held3 (fun w'=>w'.cell? ⟨b,off+k,none⟩=some (.slice (some ⟨rb,roff,none⟩) zs.length rcap)∧w'.cell? ⟨rb,roff+q*2,none⟩=some (.bool false)∧w'.cell? ⟨rb,roff+q*2+1,none⟩=some (.slice ro rl rc)) (go_keep)
    (first
     |(go_at_call 110;refine(zj7 _ _ (hs.take k) nv (by exact HM1.out.below (zB _ _).drew zL) q false ro rl rc (zs.getD q 0) (by exact HRN.out.below (zB _ _).drew zL) HALL.out (by rw [List.length_take];omega) hq1000).mono ?_;rintro e w2 ⟨rfl,hb2⟩;have p2:=(hb2.cell (p:=⟨b,off+k,none⟩) (by simp;omega)).trans cu1;have p3:=(hb2.cell (p:=⟨rb,roff+q*2,none⟩) (by simp;omega)).trans r0;have p4:=(hb2.cell (p:=⟨rb,roff+q*2+1,none⟩) (by simp;omega)).trans r1;have HB2:=hide (show Below w1.heap.size w1 w2 from(zB _ _).drew.trans (hb2.mono (by simp)));clear hb2))
   have HB3:=hide (HB1.out.trans (HB2.out.mono HB1.out.size));clear p2 p3 p4 r0 r1 cu1 HB2 HB1 HRN HM1 HALL;go_wp2;go_roundw
   case rel=>exact⟨k+1,by omega,by go_num,by rw [HNX.out],HB3⟩
   case measure=>simp [intOf];omega
  ·obtain rfl:k=hs.length:=by omega
   go_wp2;go_ret;exact⟨rfl,HBE.out⟩
def leftN (H:Nat→Nat→Int)(p:Nat→Nat)(v:Nat→Int):Nat→Nat→Int
 | 0=>v
 | i+1=>fun b=>leftN H p v i b-leftN H p v i (p i)/H i (p i)*H i b
def oftenN (H:Nat→Nat→Int)(p:Nat→Nat)(v:Nat→Int)(i:Nat):Int:=leftN H p v i (p i)/H i (p i)
theorem zfQ (H:Nat→Nat→Int)(p:Nat→Nat)(v:Nat→Int)(b:Nat):∀ i,v b=leftN H p v i b+sumN i (fun k=>oftenN H p v k*H k b)
 | 0=>by simp [leftN,sumN]
 | i+1=>by
  have h:=zfQ H p v b i;have e:leftN H p v (i+1) b=leftN H p v i b-oftenN H p v i*H i b:=rfl;have e2:sumN (i+1) (fun k=>oftenN H p v k*H k b)=sumN i (fun k=>oftenN H p v k*H k b)+oftenN H p v i*H i b:=rfl;rw [e,e2];omega
theorem zcQ {r n:Nat}{H:Nat→Nat→Int}{p:Nat→Nat}(F:Form r n H p){v d:Nat→Int}(hv:∀ b,b<n→v b=sumN r (fun k=>d k*H k b)):∀ i,i≤r→(∀ k,k<i→oftenN H p v k=d k)∧∀ b,b<n→leftN H p v i b=sumN r (fun k=>(if k<i then 0 else d k)*H k b)
 | 0,_=>⟨fun k hk=>absurd hk (by omega),fun b hb=>by
  rw [show leftN H p v 0 b=v b from rfl,hv b hb];exact zk fun k _=>by rw [if_neg (by omega)]⟩
 | i+1,hi=>by
  obtain⟨h1,h2⟩:=zcQ F hv i (by omega);have hp:=F.lt i (by omega);have hat:leftN H p v i (p i)=d i*H i (p i):=by
   rw [h2 _ hp];have:=F.at_pivot (fun k=>if k<i then 0 else d k) i (by omega) (fun k hk=>if_pos hk);rw [this,if_neg (by omega)]
  have hof:oftenN H p v i=d i:=by
   unfold oftenN;rw [hat,Int.mul_ediv_cancel _ (by have:=F.pos i (by omega);omega)]
  refine⟨fun k hk=>?_,fun b hb=>?_⟩
  ·by_cases hki:k=i
   ·rw [hki];exact hof
   ·exact h1 k (by omega)
  ·have e:leftN H p v (i+1) b=leftN H p v i b-oftenN H p v i*H i b:=rfl;rw [e,h2 b hb,hof];have e1:sumN r (fun k=>(if k<i then 0 else d k)*H k b)=sumN r (fun k=>(if k<i+1 then 0 else d k)*H k b)+sumN r (fun k=>(if k=i then d k else 0)*H k b):=by
    rw [← zbh];refine zk fun k _=>?_;by_cases h3:k<i
    ·rw [if_pos h3,if_pos (by omega),if_neg (by omega)];simp
    ·by_cases h4:k=i
     ·rw [if_neg h3,if_pos (by omega),if_pos h4];simp
     ·rw [if_neg h3,if_neg (by omega),if_neg h4];simp
   have e2:sumN r (fun k=>(if k=i then d k else 0)*H k b)=d i*H i b:=by
    rw [zW r i (by omega) _ (fun k _ hk=>by rw [if_neg hk,Int.zero_mul]),if_pos rfl]
   rw [e1,e2];omega
theorem zj2{H:Nat→Nat→Int}(F:Form r n H p)(v:Nat→Int):Lat r n H v↔(∀ i,i<r→leftN H p v i (p i)%H i (p i)=0)∧∀ b,b<n→leftN H p v r b=0:=by
 constructor
 ·rintro ⟨d,hv⟩;refine⟨fun i hi=>?_,fun b hb=>?_⟩
  ·rw [(zcQ F hv i (by omega)).2 _ (F.lt i hi),F.at_pivot (fun k=>if k<i then 0 else d k) i hi (fun k hk=>if_pos hk)];exact Int.mul_emod_left _ _
  ·rw [(zcQ F hv r zL).2 b hb];exact(zk (g:=fun _=>0) fun k hk=>by rw [if_pos hk,Int.zero_mul]).trans (zaA r)
 ·rintro ⟨-,h⟩;exact⟨oftenN H p v,fun b hb=>by rw [zfQ H p v b r,h b hb,Int.zero_add]⟩
theorem zkR{H:Nat→Nat→Int}(F:Form r n H p){v d:Nat→Int}(hv:∀ b,b<n→v b=sumN r (fun k=>d k*H k b)):∀ k,k<r→oftenN H p v k=d k:=
 (zcQ F hv r zL).1
def oftL (hs:List (List Int))(p:Nat→Nat)(xs:List Int)(k:Nat):Int:=xs.getD (p k) 0/(hs.getD k []).getD (p k) 0
def leftL (hs:List (List Int))(p:Nat→Nat)(zs:List Int):Nat→List Int
 | 0=>zs
 | k+1=>List.zipWith (fun x y=>x-y) (leftL hs p zs k) ((hs.getD k []).map (oftL hs p (leftL hs p zs k) k*·))
def muchL (hs:List (List Int))(p:Nat→Nat)(zs:List Int):List Int:=(List.range hs.length).map fun k=>oftL hs p (leftL hs p zs k) k
theorem zcf (hs:List (List Int))(p:Nat→Nat)(zs:List Int):(muchL hs p zs).length=hs.length:=by unfold muchL;simp
theorem zaI (m:Nat)(f:Nat→Int)(k:Nat)(hk:k<m):((List.range m).map f).getD k 0=f k:=by
 rw [zG,List.getElem?_map,List.getElem?_range hk];rfl
theorem zga (hs:List (List Int))(p:Nat→Nat)(zs:List Int)(k:Nat)(hk:k<hs.length):(muchL hs p zs).getD k 0=oftL hs p (leftL hs p zs k) k:=zaI _ _ k hk
theorem zbB {n:Nat}{hs:List (List Int)}{p:Nat→Nat}(hF:FormL n hs p){zs:List Int}(hz:zs.length=n):∀ k,k≤hs.length→(leftL hs p zs k).length=n
 | 0,_=>hz
 | k+1,hk=>by
  have h1:=zbB hF hz k (by omega);have h2:=hF.len _ (zq (show k<hs.length by omega));have el:leftL hs p zs (k+1)=List.zipWith (fun x y=>x-y) (leftL hs p zs k) ((hs.getD k []).map (oftL hs p (leftL hs p zs k) k*·)):=rfl;rw [el,zj _ _ _ (by rw [zM,h1,h2])];exact h1
theorem zbA {n:Nat}{hs:List (List Int)}{p:Nat→Nat}(hF:FormL n hs p){zs:List Int}(hz:zs.length=n):∀ k,k≤hs.length→∀ b,b<n→(leftL hs p zs k).getD b 0=leftN (fun k b=>(hs.getD k []).getD b 0) p (fun b=>zs.getD b 0) k b
 | 0,_,_,_=>rfl
 | k+1,hk,b,hb=>by
  have h1:=zbB hF hz k (by omega);have h2:=hF.len _ (zq (show k<hs.length by omega));have h3:=zbA hF hz k (by omega);have h4:=hF.form.lt k (by omega);have e:leftN (fun k b=>(hs.getD k []).getD b 0) p (fun b=>zs.getD b 0) (k+1) b=leftN (fun k b=>(hs.getD k []).getD b 0) p (fun b=>zs.getD b 0) k b-leftN (fun k b=>(hs.getD k []).getD b 0) p (fun b=>zs.getD b 0) k (p k)/(hs.getD k []).getD (p k) 0 *(hs.getD k []).getD b 0:=rfl;have el:leftL hs p zs (k+1)=List.zipWith (fun x y=>x-y) (leftL hs p zs k) ((hs.getD k []).map (oftL hs p (leftL hs p zs k) k*·)):=rfl;rw [e,← h3 b hb,← h3 (p k) h4,el];rw [zl _ _ _ (by rw [zM,h1,h2]) b (by omega),zdY _ _ _ (by omega)];rfl
theorem zcM:∀(zs:List Int),first zs<0↔∀ b,b<zs.length→zs.getD b 0=0
 | []=>⟨fun _ b hb=>absurd hb (by simp),fun _=>by decide⟩
 | z::zs=>by
  have ih:=zcM zs;have hge:=zcL zs;rw [first];by_cases h:z=0
  ·rw [if_pos h];constructor
   ·intro h1 b hb;have h2:first zs<0:=by
     by_cases h3:first zs<0
     ·exact h3
     ·rw [if_neg h3] at h1;omega
    cases b with
    | zero=>simpa using h
    | succ b=>simpa using ih.1 h2 b (by simpa using hb)
   ·intro h1;have h2:first zs<0:=ih.2 fun b hb=>by simpa using h1 (b+1) (by simpa using hb)
    rw [if_pos h2];decide
  ·rw [if_neg h];exact⟨fun h1=>absurd h1 (by decide),fun h1=>absurd (by simpa using h1 0 (by simp)) h⟩
theorem zha{hs:List (List Int)}(hF:FormL n hs p)(hz:zs.length=n):Lat hs.length n (fun k b=>(hs.getD k []).getD b 0) (fun b=>zs.getD b 0)↔(∀ k,k<hs.length→(leftL hs p zs k).getD (p k) 0%(hs.getD k []).getD (p k) 0=0)∧first (leftL hs p zs hs.length)<0:=by
 rw [zj2 hF.form,zcM];have hl:=zbB hF hz hs.length zL;constructor
 ·rintro ⟨h1,h2⟩;exact⟨fun k hk=>by rw [zbA hF hz k (by omega) _ (hF.form.lt k hk)];exact h1 k hk,fun b hb=>by rw [zbA hF hz _ zL b (by omega)];exact h2 b (by omega)⟩
 ·rintro ⟨h1,h2⟩;exact⟨fun k hk=>by rw [← zbA hF hz k (by omega) _ (hF.form.lt k hk)];exact h1 k hk,fun b hb=>by rw [← zbA hF hz _ zL b hb];exact h2 b (by omega)⟩
theorem zgc{hs:List (List Int)}(hF:FormL n hs p)(hz:zs.length=n)(h:Lat hs.length n (fun k b=>(hs.getD k []).getD b 0) (fun b=>zs.getD b 0)):∀ b,b<n→zs.getD b 0=sumN hs.length (fun k=>(muchL hs p zs).getD k 0 *(hs.getD k []).getD b 0):=by
 intro b hb;obtain⟨d,hd⟩:=h;have h1:=zkR hF.form hd;refine(hd b hb).trans (zk fun k hk=>?_);rw [zga hs p zs k hk,← h1 k hk];unfold oftL oftenN;rw [zbA hF hz k (by omega) _ (hF.form.lt k hk)]
theorem zdI{hs:List (List Int)}(hl:∀ r∈hs,r.length=n)(hv:v.length=n)(h:Lat hs.length n (fun k b=>(hs.getD k []).getD b 0) (fun b=>v.getD b 0)):Gens n (InL hs) v:=by
 obtain⟨c,hc⟩:=h;have key:∀ m,m≤hs.length→Gens n (InL hs) ((List.range n).map fun b=>sumN m (fun k=>c k *(hs.getD k []).getD b 0)):=by
  intro m
  induction m with
  | zero=>
   intro _;have e:((List.range n).map fun b=>sumN 0 (fun k=>c k *(hs.getD k []).getD b 0))=List.replicate n 0:=by
    apply zK (by simp);intro k hk;have hk':k<n:=by simpa using hk
    rw [zaI _ _ k hk',zG,List.getElem?_replicate,if_pos hk'];rfl
   rw [e];exact .zero
  | succ m ih=>
   intro hm;have g:=ih (by omega);have hmm:=zq (show m<hs.length by omega);have hml:=hl _ hmm;have e:((List.range n).map fun b=>sumN (m+1) (fun k=>c k *(hs.getD k []).getD b 0))=List.zipWith (fun a b=>1*a+c m*b) ((List.range n).map fun b=>sumN m (fun k=>c k *(hs.getD k []).getD b 0)) (hs.getD m []):=by
    apply zK (by rw [zj _ _ _ (by rw [zM,List.length_range,hml]),zM,zM]);intro k hk;have hk':k<n:=by simpa using hk
    rw [zaI _ _ k hk',zl _ _ _ (by rw [zM,List.length_range,hml]) k (by simpa using hk'),zaI _ _ k hk',Int.one_mul];rfl
   rw [e];exact .comb _ _ g (.base hmm hml)
 have e:v=((List.range n).map fun b=>sumN hs.length (fun k=>c k *(hs.getD k []).getD b 0)):=by
  apply zK (by simp [hv]);intro k hk;rw [zaI _ _ k (by omega)];exact hc k (by omega)
 rw [e];exact key _ zL
theorem zca{hs:List (List Int)}(hl:∀ r∈hs,r.length=n)(hv:v.length=n):Lat hs.length n (fun k b=>(hs.getD k []).getD b 0) (fun b=>v.getD b 0)↔Gens n (InL hs) v:=⟨zdI hl hv,zx⟩
end Go.Proofs.YtdedolkgcdlmeaaGreatDoor
