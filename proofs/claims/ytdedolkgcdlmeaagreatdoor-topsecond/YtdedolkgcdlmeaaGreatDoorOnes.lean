import Derived.Test.YtdedolkgcdlmeaaGreatDoorIns
import Derived.Test.YtdedolkgcdlmeaaGreatDoorLower
namespace Go.Proofs.YtdedolkgcdlmeaaGreatDoor
open Go.RowKit Limbs
def nbK (m S0 nv:Nat):Nat→Nat
 | 0=>nv
 | k+1=>nbK m S0 nv k+(m - k+1) *(S0+3)
theorem zcE {m S0 nv k l:Nat}(h:k≤l):nbK m S0 nv k≤nbK m S0 nv l:=by
 induction l with
 | zero => obtain rfl : k = 0 := by omega
           exact Nat.le_refl _
 | succ l ih=>
  by_cases e:k=l+1
  ·rw [e];exact Nat.le_refl _
  ·exact Nat.le_trans (ih (by omega)) (Nat.le_add_right _ _)
structure InsV (w wr:World)(sb m S0 BIG n k:Nat)(rows R:Nat→Option (List Int))(us zs:List Int)(v:Value):Prop where
 st:StairO w wr sb m R m (fun a=>if a < k then BIG else S0)
 same:∀ a,k≤a→R a=rows a
 ech:Ech R m m
 zero:∀ j,j < k→zs.getD j 0=0
 vec:VecN wr v zs n
 off:∀ b o l c,v=.slice (some ⟨b,o,none⟩) l c→b≠sb
 len:zs.length=m
 gen:Alikes m (RowsOr R zs) (RowsOr rows us)
theorem InsV.later {w wr w':World}{sb m S0 BIG n k:Nat}{rows R:Nat→Option (List Int)}{us zs:List Int}{v:Value}(h:InsV w wr sb m S0 BIG n k rows R us zs v)(hb:Below wr.heap.size wr w'):InsV w w' sb m S0 BIG n k rows R us zs v:=
 ⟨h.st.later hb,h.same,h.ech,h.zero,h.vec.below hb zL,h.off,h.len,h.gen⟩
theorem Ech.set {R:Nat→Option (List Int)}{len m k:Nat}{r:List Int}(h:Ech R len m)(hl:r.length=len)(hz:∀ j,j < k→r.getD j 0=0)(hk:k < m):Ech (putRow R k r) len m:=by
 have key:∀ i v,putRow R k r i=some v→v.length=len∧(∀ j,j < i→v.getD j 0=0)∧i < m:=by
  intro i v e
  unfold putRow at e
  by_cases hi:i=k
  ·rw [if_pos hi] at e
   obtain rfl:=Option.some.inj e
   exact⟨hl,by rw [hi];exact hz,by omega⟩
  ·rw [if_neg hi] at e
   exact⟨h.len i v e,h.zero i v e,h.lt i v e⟩
 exact⟨fun i r e=>(key i r e).1,fun i r e=>(key i r e).2.1,fun i r e=>(key i r e).2.2⟩
set_option maxRecDepth 100000 in
set_option maxHeartbeats 4000000 in
theorem zjj (w W:World)(sb m S0 nv:Nat)(rows:Nat→Option (List Int))(va:Value)(us:List Int)(hs:StairO w W sb m rows m (fun _=>S0))(he:Ech rows m m)(ha:VecN W va us nv)(hul:us.length=m)(hoff:∀ b o l c,va=.slice (some ⟨b,o,none⟩) l c→b≠sb)(h8:m≤1000)(hN:nbK m S0 nv m≤100000):
  Calls Tryz.prog 104 #[.slice (some ⟨sb,0,none⟩) m m,va] W fun e w'=>e=.returned (.tuple #[])∧∃ R,StairO w w' sb m R m (fun _=>200001)∧Ech R m m∧Alikes m (RowsOf R) (RowsOr rows us):=by
 have HS:=hide hs;have HE:=hide he;have HA:=hide ha;have HOF:=hide hoff;have HUL:=hide hul;have HNB:=hide hN
 clear hs he ha hoff hul hN
 go_enter Tryz.func104,Tryz.ntmps104
 go_wp2_with fail
 go_loopw [7,1] (fun i v wr=>∃ k:Nat,k≤m∧i=.int .i64 k∧∃ R zs,Hid (InsV w wr sb m S0 200001 (nbK m S0 nv k) k rows R us zs v)) (fun i _ _=>m - (intOf i).toNat)
 case atStart=>
  exact⟨0,Nat.zero_le _,rfl,rows,us,hide ⟨HS.out.mono fun i hi _=>Nat.le_refl _,fun _ _=>rfl,HE.out,fun j hj=>absurd hj (Nat.not_lt_zero j),HA.out,HOF.out,HUL.out,fun _=>Iff.rfl⟩⟩
 case round=>
  obtain⟨k,hk,rfl,R,zs,HI⟩:=hrel
  by_cases hkl:k < m
  ·have hst:=HI.out.st.stair (f:=k) (n:=S0) (fun i hf hi=>by rw [if_neg (by omega)];exact Nat.le_refl _)
   have HRL:=hide (fun i r e=>(HI.out.ech.len i r e).trans HI.out.len.symm)
   have hb:nbK m S0 nv k+(m - k+1) *(S0+3)≤100000:=Nat.le_trans (zcE (show k+1≤m from hkl)) HNB.out
   have h1:nbK m S0 nv 1≤100000:=Nat.le_trans (zcE (show 1≤m by omega)) HNB.out
   have h2:nbK m S0 nv 1=nv+(m - 0+1) *(S0+3):=rfl
   have h3:(m - 0+1) *(S0+3)=m *(S0+3)+(S0+3):=by rw [Nat.sub_zero,Nat.succ_mul]
   have h4:(m - k+1) *(S0+3)=(m - k) *(S0+3)+(S0+3):=Nat.succ_mul _ _
   have hnb1:nbK m S0 nv (k+1)=nbK m S0 nv k+(m - k+1) *(S0+3):=rfl
   have HL:=hide (zfz wr sb m k (nbK m S0 nv k) S0 R u1 zs (by rw [HI.out.len];exact hst) HRL.out HI.out.vec hk (by have:=HI.out.len;omega) (by have:=HI.out.len;omega) (by omega))
   have HZL:=hide (zbp (f:=k) HRL.out (m - k))
   have HZK:=hide (fun j (hj:j < k)=>zcz (f:=k) HRL.out (j:=j) (by have:=HI.out.len;omega) (fun i r hi e=>HI.out.ech.zero i r e j (by omega)) (m - k))
   have HGE:=hide (zhe (f:=k) (zs:=zs) HI.out.ech.len HI.out.len (m - k))
   have hS:S0≤200001:=by omega
   have HNB1:=hide hnb1
   clear hnb1
   generalize nbK m S0 nv k=n0 at *
   generalize hn1:n0+(m - k) *(S0+3)=n1 at *
   clear hst h1 h2 h3 HRL
   generalize lowN R k zs (m - k)=zs1 at *
   go_wp2_with fail
   refine HL.out.mono ?_
   rintro e w1 ⟨v,rfl,hlow⟩
   have I1:Hid (InsV w w1 sb m S0 200001 n1 k rows R us zs1 v):=by
    have h:=HI.out
    refine hide ⟨h.st.later hlow.below,h.same,h.ech,fun j hj=>(HZK.out j hj).trans (h.zero j hj),hlow.vec,?_,HZL.out.trans h.len,HGE.out.trans h.gen⟩
    rcases hlow.own with rfl |⟨P,rfl,ho⟩
    ·exact h.off
    ·intro b o l c e
     simp only [Value.slice.injEq,Option.some.injEq,Addr.mk.injEq,and_true] at e
     have:=ho.low
     have:=h.st.lt
     omega
   clear HL HZL HZK HGE hlow HI
   obtain⟨vb,voff,vcap,rfl⟩:=I1.out.vec.form (by have:=I1.out.len;omega)
   obtain⟨lv,an,ao,al,ac,a2,a3,na⟩:=I1.out.vec.at k (by have:=I1.out.len;omega)
   have NA:=hide na
   have hkz:k < zs1.length:=by have:=I1.out.len;omega
   clear na
   go_wp2_with fail
   refine(zaq w1 _ (zs1.getD k 0) n1 (by exact NA.out)).mono ?_
   rintro e w2 ⟨rfl,hb2⟩
   have I2:=hide (I1.out.later hb2)
   have lsb:=I2.out.st.lt
   clear I1 NA a2 a3 lv hb2
   by_cases h0:zs1.getD k 0=0
   ·rw [decide_eq_true h0]
    have HN:Hid (InsV w w2 sb m S0 200001 (n0+(m - k+1) *(S0+3)) (k+1) rows R us zs1 (.slice (some ⟨vb,voff,none⟩) zs1.length vcap)):=by
     have h:=I2.out
     refine hide ⟨h.st.mono fun i hi _=>?_,fun a ha=>h.same a (by omega),h.ech,fun j hj=>?_,h.vec.mono (by omega),h.off,h.len,h.gen⟩
     ·by_cases h5:i < k
      ·rw [if_pos h5,if_pos (by omega)];exact Nat.le_refl _
      ·rw [if_neg h5];split <;> omega
     ·by_cases h5:j < k
      ·exact h.zero j h5
      ·obtain rfl:j=k:=by omega
       exact h0
    clear h0 I2
    go_wp2
    go_roundw
    case rel=>exact⟨k+1,by omega,by go_num,R,zs1,by rw [HNB1.out];exact HN⟩
    case measure=>simp [intOf];omega
   ·rw [decide_eq_false h0]
    cases hr:R k with
    | none=>
     have c0:=I2.out.st.nil k hkl hr
     have hbo:=zgp w2
     have HZ1:Hid (∃ z:Int,(z=1∨z=-1)∧(if zs1.getD k 0 < 0 then -1 else 1)=z∧0 < z * zs1.getD k 0):=by
      by_cases h5:zs1.getD k 0 < 0
      ·rw [if_pos h5];exact hide ⟨-1,.inr rfl,rfl,by omega⟩
      ·rw [if_neg h5];exact hide ⟨1,.inl rfl,rfl,by omega⟩
     go_wp2_with fail
     refine(zlB w2 _ zs1 n1 k (by exact I2.out.vec) hkz (by have:=I2.out.len;omega) (by omega)).mono ?_
     rintro e w3 ⟨P,rfl,ho⟩
     have c1:=(ho.below.cell (p:=⟨sb,k,none⟩) lsb).trans c0
     have hfz:=(I2.out.later ho.below).st.thaw k
     have lsb3:=(I2.out.later ho.below).st.lt
     have HP:Hid (∃ R',StairO w (w3.setCell ⟨sb,k,none⟩ (.slice (some ⟨P,0,none⟩) zs1.length zs1.length)) sb m R' m (fun _=>200001)∧Ech R' m m∧Alikes m (RowsOf R') (RowsOr rows us)):=by
      obtain⟨z,hz1,hz2,hz3⟩:=HZ1.out
      rw [hz2] at ho
      have h:=I2.out.later ho.below
      have hl:(zs1.map (z * ·)).length=zs1.length:=List.length_map ..
      have hg:∀ j,(zs1.map (z * ·)).getD j 0=z * zs1.getD j 0:=fun j=>by
       rw [List.getD_eq_getElem?_getD,List.getD_eq_getElem?_getD,List.getElem?_map]
       cases zs1[j]? <;> simp
      have hst:=h.st.set hkl (ho.since I2.out.st.below) (by have:=ho.low;omega) (hl.trans h.len) (by rw [hg];exact hz3)
      rw [hl] at hst
      refine hide ⟨putRow R k (zs1.map (z * ·)),hst.mono fun i hi _=>?_,h.ech.set (hl.trans h.len) (fun j hj=>by rw [hg,h.zero j hj,Int.mul_zero]) hkl,(zes hr h.len hz1).trans h.gen⟩
      split
      ·omega
      ·split <;> omega
     have HLM:Hid ((zs1.map ((if zs1.getD k 0 < 0 then -1 else 1) * ·)).length=zs1.length):=hide (List.length_map ..)
     clear ho I2 HZ1 h0 hr hbo c0
     rw [HLM.out]
     go_wp2
     exact bodyPost_ret (results_none rfl _ _ _) rfl ⟨rfl,HP.out⟩
    | some r=>
     obtain⟨P,c0,hv,hP,hlen,hpos⟩:=I2.out.st.row k hkl r hr
     have hbo:=zgs w2 ⟨P,0,none⟩ r.length r.length
     have HR:=hide hv
     have HRP:=hide (show r.length=m∧0 < r.getD k 0 from⟨hlen,hpos⟩)
     rw [if_neg (Nat.lt_irrefl _)] at HR
     clear hv hlen hpos
     have hkr:k < r.length:=by have:=HRP.out;omega
     go_wp2_with fail
     refine(ziL w2 _ _ r zs1 k S0 n1 100000 (by exact HR.out.vec) (by exact I2.out.vec) (by have:=HRP.out;have:=I2.out.len;omega) hkr (by have:=HRP.out;omega) (by omega) (by omega) (by omega) (by omega) (by have:=HRP.out.2;omega)).mono ?_
     rintro e w3 ⟨g,x,y,s,t,P1,P2,rfl,hg,e1,e2,e3,ho1,ho2⟩
     have c1:=(ho1.below.cell (p:=⟨sb,k,none⟩) lsb).trans c0
     have hfz:=(I2.out.later ho1.below).st.thaw k
     have lsb3:=(I2.out.later ho1.below).st.lt
     have HN:Hid (∃ R' zs',InsV w (w3.setCell ⟨sb,k,none⟩ (.slice (some ⟨P1,0,none⟩) r.length r.length)) sb m S0 200001 (n0+(m - k+1) *(S0+3)) (k+1) rows R' us zs' (.slice (some ⟨P2,0,none⟩) zs1.length zs1.length)):=by
      have h:=I2.out.later ho1.below
      have hlr:r.length=zs1.length:=HRP.out.1.trans h.len.symm
      have la:=zk (fun a b=>x * a+y * b) r zs1 hlr
      have lb:=zk (fun b a=>s * b+-t * a) zs1 r hlr.symm
      have hza:∀ j,j < k→(List.zipWith (fun a b=>x * a+y * b) r zs1).getD j 0=0:=fun j hj=>by
       rw [zl _ _ _ hlr j (by omega),h.ech.zero k r hr j hj,h.zero j hj];omega
      have hzb:∀ j,j < k+1→(List.zipWith (fun b a=>s * b+-t * a) zs1 r).getD j 0=0:=fun j hj=>by
       rw [zl _ _ _ hlr.symm j (by omega)]
       by_cases h5:j < k
       ·rw [h.ech.zero k r hr j h5,h.zero j h5];omega
       ·obtain rfl:j=k:=by omega
        have:s * zs1.getD j 0=t * r.getD j 0:=by rw [e2,e3,← Int.mul_assoc,← Int.mul_assoc,Int.mul_comm s t]
        rw [this,Int.neg_mul];omega
      have hpk:0 < (List.zipWith (fun a b=>x * a+y * b) r zs1).getD k 0:=by
       rw [zl _ _ _ hlr k (by omega),← e1];exact hg
      have hst:=h.st.set hkl (ho1.since I2.out.st.below) (by have:=ho1.low;omega) (la.trans HRP.out.1) hpk
      have hv2:=(ho2.since I2.out.st.below).other (x:=.slice (some ⟨P1,0,none⟩) r.length r.length) (by have:=ho2.low;omega) h.st.low c1 (fun z e=>by cases e)
      rw [la] at hst
      have hvv:=hv2.vec
      rw [lb] at hvv
      refine hide ⟨putRow R k (List.zipWith (fun a b=>x * a+y * b) r zs1),List.zipWith (fun b a=>s * b+-t * a) zs1 r,hst.mono fun i hi _=>?_,fun a ha=>?_,h.ech.set (la.trans HRP.out.1) hza hkl,hzb,hvv.mono (by omega),?_,lb.trans h.len,(zer hr HRP.out.1 h.len hg e1 e2 e3).trans h.gen⟩
      ·by_cases h5:i=k
       ·rw [if_pos h5,if_pos (by omega)];omega
       ·rw [if_neg h5]
        by_cases h6:i < k
        ·rw [if_pos h6,if_pos (by omega)];exact Nat.le_refl _
        ·rw [if_neg h6,if_neg (by omega)];exact Nat.le_refl _
      ·unfold putRow
       rw [if_neg (by omega)]
       exact h.same a (by omega)
      ·intro b o l c e
       simp only [Value.slice.injEq,Option.some.injEq,Addr.mk.injEq,and_true] at e
       have:=ho2.low
       omega
     clear ho1 ho2 e1 e2 e3 hg I2 HR HRP hbo c0 hr h0
     go_wp2
     go_roundw
     case rel=>exact⟨k+1,by omega,by go_num,by rw [HNB1.out];exact HN.out.imp fun _ h=>h.imp fun _ h=>hide h⟩
     case measure=>simp [intOf];omega
  ·obtain rfl:k=m:=by omega
   have HP:=hide (show StairO w wr sb k R k (fun _=>200001)∧Ech R k k∧Alikes k (RowsOf R) (RowsOr rows us) from
    ⟨HI.out.st.mono fun i hi _=>by rw [if_pos hi];exact Nat.le_refl _,HI.out.ech,(zeq HI.out.len HI.out.zero).trans HI.out.gen⟩)
   clear HI
   go_wp2
   exact bodyPost_end (results_none rfl _ _ _) rfl ⟨rfl,R,HP.out⟩
end Go.Proofs.YtdedolkgcdlmeaaGreatDoor
namespace Go.Proofs.YtdedolkgcdlmeaaGreatDoor
structure Form (r n:Nat)(H:Nat→Nat→Int)(p:Nat→Nat):Prop where
 inc:∀ i k,i < k→k < r→p i < p k
 lt:∀ i,i < r→p i < n
 zero:∀ i b,i < r→b < p i→H i b=0
 pos:∀ i,i < r→0 < H i (p i)
 red:∀ i k,i < k→k < r→0≤H i (p k)∧H i (p k) < H k (p k)
def Lat (m n:Nat)(M:Nat→Nat→Int)(v:Nat→Int):Prop:=∃ c:Nat→Int,∀ b,b < n→v b=sumN m (fun k=>c k * M k b)
theorem Lat.row (m n:Nat)(M:Nat→Nat→Int)(i:Nat)(hi:i < m):Lat m n M (M i):=⟨unitR i,fun b _=>(zd9 m i hi M b).symm⟩
theorem Lat.comb {m n:Nat}{M:Nat→Nat→Int}{u v:Nat→Int}(hu:Lat m n M u)(hv:Lat m n M v)(x y:Int):Lat m n M (fun b=>x * u b+y * v b):=by
 obtain⟨c,hc⟩:=hu
 obtain⟨d,hd⟩:=hv
 refine⟨fun k=>x * c k+y * d k,fun b hb=>?_⟩
 show x * u b+y * v b=sumN m (fun k=>(x * c k+y * d k) * M k b)
 rw [hc b hb,hd b hb,← zC,← zC,← zai]
 apply zg
 intro k _
 rw [Int.add_mul,Int.mul_assoc,Int.mul_assoc]
theorem Lat.trans {m m' n:Nat}{M M':Nat→Nat→Int}(h:∀ i,i < m→Lat m' n M' (M i)){v:Nat→Int}(hv:Lat m n M v):Lat m' n M' v:=by
 obtain⟨c,hc⟩:=hv
 have key:∀ q,q≤m→Lat m' n M' (fun b=>sumN q (fun k=>c k * M k b)):=by
  intro q
  induction q with
  | zero=>intro _;exact⟨fun _=>0,fun b _=>by
   show(0:Int)=sumN m' (fun k=>0 * M' k b)
   exact(zX m').symm.trans (zg fun k _=>(Int.zero_mul _).symm)⟩
  | succ q ih=>
   intro hq
   obtain⟨d,hd⟩:=(ih (by omega)).comb (h q (by omega)) 1 (c q)
   exact⟨d,fun b hb=>by
    have h1:1 * sumN q (fun k=>c k * M k b)+c q * M q b=_:=hd b hb
    show sumN q (fun k=>c k * M k b)+c q * M q b=_
    rw [← h1];omega⟩
 obtain⟨d,hd⟩:=key m zL
 exact⟨d,fun b hb=>(hc b hb).trans (hd b hb)⟩
namespace Form
variable {r n:Nat}{H:Nat→Nat→Int}{p:Nat→Nat}
theorem le_pivot (F:Form r n H p){i k:Nat}(h:i≤k)(hk:k < r):p i≤p k:=by
 rcases Nat.lt_or_eq_of_le h with h | h
 ·exact Nat.le_of_lt (F.inc i k h hk)
 ·rw [h];exact Nat.le_refl _
theorem at_pivot (F:Form r n H p)(c:Nat→Int)(i:Nat)(hi:i < r)(h0:∀ k,k < i→c k=0):sumN r (fun k=>c k * H k (p i))=c i * H i (p i):=
 zF r i hi _ fun k hk hne=>by
  rcases(by omega:k < i∨i < k) with h | h
  ·rw [h0 k h,Int.zero_mul]
  ·rw [F.zero k (p i) hk (F.inc i k h hk),Int.mul_zero]
theorem leads (F:Form r n H p){v:Nat→Int}(hv:Lat r n H v){t:Nat}(ht:t < n)(h0:∀ b,b < t→v b=0)(hne:v t≠0):∃ i c,i < r∧p i=t∧v t=c * H i t:=by
 obtain⟨c,hc⟩:=hv
 -- the first row of which something is in it
 have hex:∃ i,i < r∧(∀ k,k < i→c k=0)∧c i≠0:=by
  have key:∀ q,q≤r→(∀ k,k < q→c k=0)∨∃ i,i < r∧(∀ k,k < i→c k=0)∧c i≠0:=by
   intro q
   induction q with
   | zero=>intro _;exact .inl fun k hk=>by omega
   | succ q ih=>
    intro hq
    rcases ih (by omega) with h | h
    ·by_cases hcq:c q=0
     ·exact .inl fun k hk=>by
       by_cases hkq:k=q
       ·rw [hkq];exact hcq
       ·exact h k (by omega)
     ·exact .inr ⟨q,by omega,h,hcq⟩
    ·exact .inr h
  rcases key r zL with h | h
  ·exfalso
   apply hne
   rw [hc t ht,zg (g:=fun _=>0) fun k hk=>by rw [h k hk,Int.zero_mul],zX]
  ·exact h
 obtain⟨i,hi,hk,hci⟩:=hex
 have hpi:v (p i)=c i * H i (p i):=by rw [hc _ (F.lt i hi)];exact F.at_pivot c i hi hk
 have hb:∀ b,b < p i→v b=0:=fun b hbp=>by
  by_cases hbn:b < n
  ·rw [hc b hbn,zg (g:=fun _=>0) fun k hkr=>?_,zX]
   by_cases h:k < i
   ·rw [hk k h,Int.zero_mul]
   ·rw [F.zero k b hkr (zT hbp (F.le_pivot (by omega) hkr)),Int.mul_zero]
  ·have:=F.lt i hi;omega
 have hpt:p i=t:=by
  rcases Nat.lt_trichotomy (p i) t with h | h | h
  ·exfalso
   have h1:=h0 _ h
   rw [hpi] at h1
   rcases Int.mul_eq_zero.1 h1 with h2 | h2
   ·exact hci h2
   ·have:=F.pos i hi;omega
  ·exact h
  ·exact absurd (hb t h) hne
 exact⟨i,c i,hi,hpt,by rw [← hpt];exact hpi⟩
end Form
theorem zgv {r r' n:Nat}{H H':Nat→Nat→Int}{p p':Nat→Nat}(F:Form r n H p)(F':Form r' n H' p')(hin:∀ i,i < r→Lat r' n H' (H i))(hin':∀ i,i < r'→Lat r n H (H' i)):∀ i,i < r→i < r'∧p i=p' i:=by
 have to:∀ i,i < r→∃ j,j < r'∧p' j=p i:=fun i hi=>by
  obtain⟨j,_,hj,e,-⟩:=F'.leads (hin i hi) (F.lt i hi) (fun b hb=>F.zero i b hi hb) (by have:=F.pos i hi;omega)
  exact⟨j,hj,e⟩
 have from':∀ i,i < r'→∃ j,j < r∧p j=p' i:=fun i hi=>by
  obtain⟨j,_,hj,e,-⟩:=F.leads (hin' i hi) (F'.lt i hi) (fun b hb=>F'.zero i b hi hb) (by have:=F'.pos i hi;omega)
  exact⟨j,hj,e⟩
 intro i
 induction i using Nat.strongRecOn with
 | _ i ih=>
  intro hi
  obtain⟨j,hj,ej⟩:=to i hi
  have hji:i≤j:=by
   rcases Nat.lt_or_ge j i with h | h
   ·have h1:=(ih j h (by omega)).2
    have h2:=F.inc j i h hi
    omega
   ·exact h
  have hi':i < r':=by omega
  obtain⟨k,hk,ek⟩:=from' i hi'
  have hki:i≤k:=by
   rcases Nat.lt_or_ge k i with h | h
   ·have h1:=(ih k h (by omega)).2
    have h2:=F'.inc k i h hi'
    omega
   ·exact h
  have h1:=F.le_pivot hki hk
  have h2:=F'.le_pivot hji hj
  exact⟨hi',by omega⟩
theorem ziO {r r' n:Nat}{H H':Nat→Nat→Int}{p p':Nat→Nat}(F:Form r n H p)(F':Form r' n H' p')(hin:∀ i,i < r→Lat r' n H' (H i))(hin':∀ i,i < r'→Lat r n H (H' i)):
  r=r'∧∀ i,i < r→p i=p' i∧∀ b,b < n→H i b=H' i b:=by
 have hp:=zgv F F' hin hin'
 have hp':=zgv F' F hin' hin
 have hr:r=r':=by
  rcases Nat.lt_trichotomy r r' with h | h | h
  ·have:=(hp' r h).1;omega
  ·exact h
  ·have:=(hp r' h).1;omega
 subst hr
 -- the pivots
 have hd:∀ i,i < r→H i (p i)=H' i (p i):=fun i hi=>by
  have e:=(hp i hi).2
  have h1:=F.pos i hi
  have h2:=F'.pos i hi
  rw [← e] at h2
  obtain⟨j,c,hj,ej,hc⟩:=F'.leads (hin i hi) (F.lt i hi) (fun b hb=>F.zero i b hi hb) (by omega)
  obtain⟨k,d,hk,ek,hd⟩:=F.leads (hin' i hi) (t:=p i) (F.lt i hi) (fun b hb=>F'.zero i b hi (by omega)) (by omega)
  have ji:j=i:=by
   rcases Nat.lt_trichotomy j i with h | h | h
   ·have:=F'.inc j i h hi;omega
   ·exact h
   ·have:=F'.inc i j h hj;omega
  have ki:k=i:=by
   rcases Nat.lt_trichotomy k i with h | h | h
   ·have:=F.inc k i h hi;omega
   ·exact h
   ·have:=F.inc i k h hk;omega
  rw [ji] at hc
  rw [ki] at hd
  generalize H i (p i)=x at *
  generalize H' i (p i)=y at *
  have hc0:0 < c:=by
   rcases(by omega:0 < c∨c≤0) with h | h
   ·exact h
   ·have:=Int.mul_nonpos_of_nonpos_of_nonneg h (by omega:0≤y)
    omega
  have hd0:0 < d:=by
   rcases(by omega:0 < d∨d≤0) with h | h
   ·exact h
   ·have:=Int.mul_nonpos_of_nonpos_of_nonneg h (by omega:0≤x)
    omega
  have h3:y≤c * y:=by
   have:=Int.mul_le_mul (by omega:(1:Int)≤c) (Int.le_refl y) (by omega) (by omega)
   omega
  have h4:x≤d * x:=by
   have:=Int.mul_le_mul (by omega:(1:Int)≤d) (Int.le_refl x) (by omega) (by omega)
   omega
  omega
 refine⟨rfl,fun i hi=>⟨(hp i hi).2,?_⟩⟩
 -- what is between two rows
 have hu:Lat r n H (fun b=>1 * H i b+(-1) * H' i b):=(Lat.row r n H i hi).comb (hin' i hi) 1 (-1)
 obtain⟨c,hc⟩:=hu
 have hz:∀ k,k < r→c k=0:=by
  have key:∀ q,q≤r→∀ k,k < q→c k=0:=by
   intro q
   induction q with
   | zero=>intro _ k hk;omega
   | succ q ih=>
    intro hq k hk
    by_cases hkq:k=q
    ·subst hkq
     have h1:1 * H i (p k)+(-1) * H' i (p k)=_:=hc (p k) (F.lt k (by omega))
     rw [F.at_pivot c k (by omega) (ih (by omega))] at h1
     have hpos:=F.pos k (by omega)
     have ek:=(hp k (by omega)).2
     have hdk:=hd k (by omega)
     have hlt:absI (1 * H i (p k)+(-1) * H' i (p k)) < H k (p k):=by
      rcases Nat.lt_trichotomy k i with h | h | h
      ·rw [F.zero i (p k) hi (F.inc k i h hi),F'.zero i (p k) hi (by rw [ek];exact F'.inc k i h hi)]
       exact hpos
      ·subst h
       rw [hd k hi]
       rw [show 1 * H' k (p k)+(-1) * H' k (p k)=0 by omega,← hdk]
       exact hpos
      ·obtain⟨a1,a2⟩:=F.red i k h (by omega)
       obtain⟨b1,b2⟩:=F'.red i k h (by omega)
       rw [← ek] at b1 b2
       unfold absI
       split <;> omega
     rw [h1,zaj,zad (by omega:0≤H k (p k))] at hlt
     rcases(by have:=zak (c k);omega:absI (c k)=0∨1≤absI (c k)) with h | h
     ·exact zcU.1 h
     ·have:=Int.mul_le_mul h (Int.le_refl (H k (p k))) (by omega) (by omega)
      omega
    ·exact ih (by omega) k (by omega)
  exact key r zL
 intro b hb
 have h1:1 * H i b+(-1) * H' i b=_:=hc b hb
 rw [zg (g:=fun _=>0) fun k hk=>by rw [hz k hk,Int.zero_mul],zX] at h1
 omega
end Go.Proofs.YtdedolkgcdlmeaaGreatDoor
namespace Go.Proofs.YtdedolkgcdlmeaaGreatDoor
open Go.RowKit Limbs
theorem zd5 {rows:Nat→Option (List Int)}{m k l a:Nat}(hkl:k≤l)(hl:l≤m)(ha:m - k≤a):tidyN rows m l a=tidyN rows m k a:=by
 induction l with
 | zero => obtain rfl : k = 0 := by omega
           rfl
 | succ l ih=>
  by_cases e:k=l+1
  ·rw [e]
  ·have:tidyN rows m (l+1) a=tidyAt (tidyN rows m l) m (m - 1 - l) a:=rfl
   rw [this]
   unfold tidyAt
   rw [if_neg (by omega)]
   exact ih (by omega) (by omega)
theorem zjz {rows:Nat→Option (List Int)}{f len m:Nat}{us:List Int}(h:Ech rows len m)(hm:m≤len)(hus:us.length=len)(hp:∀ i r,rows i=some r→0 < r.getD i 0)(k i:Nat)(r:List Int)(hi:f≤i)(hik:i < f+k)(hr:rows i=some r):
  0≤(lowN rows f us k).getD i 0∧(lowN rows f us k).getD i 0 < r.getD i 0:=by
 have hl:∀ i r,rows i=some r→r.length=us.length:=fun i r e=>(h.len i r e).trans hus.symm
 have him:=h.lt i r hr
 induction k with
 | zero=>omega
 | succ k ih=>
  have hlk:=zbp (f:=f) hl k
  unfold lowN lowAt
  by_cases e:i=f+k
  ·subst e
   rw [hr]
   dsimp only
   unfold lowRow
   rw [zl _ _ _ (hlk.trans (hl _ r hr).symm) _ (by omega)]
   have hy:=hp _ r hr
   generalize (lowN rows f us k).getD (f+k) 0=a at *
   generalize r.getD (f+k) 0=y at *
   have h1:=Int.emod_nonneg a (show y≠0 by omega)
   have h2:=Int.emod_lt_of_pos a hy
   have h3:=Int.mul_ediv_add_emod a y
   rw [Int.one_mul,Int.neg_mul,Int.mul_comm]
   omega
  ·have ih:=ih (by omega)
   split
   ·exact ih
   ·rename_i r' hr'
    unfold lowRow
    rw [zl _ _ _ (hlk.trans (hl _ r' hr').symm) _ (by omega),h.zero _ r' hr' i (by omega)]
    omega
def Pos (rows:Nat→Option (List Int)):Prop:=∀ i r,rows i=some r→0 < r.getD i 0
theorem Pos.tidyN {rows:Nat→Option (List Int)}{len m:Nat}(hp:Pos rows)(h:Ech rows len m)(hm:m≤len)(k:Nat):Pos (tidyN rows m k):=by
 induction k with
 | zero=>exact hp
 | succ k ih=>
  intro i r e
  have hE:=h.all hm k
  have e':tidyAt (Go.Proofs.YtdedolkgcdlmeaaGreatDoor.tidyN rows m k) m (m - 1 - k) i=some r:=e
  unfold tidyAt at e'
  by_cases hi:i=m - 1 - k
  ·rw [if_pos hi] at e'
   obtain⟨r0,e0,rfl⟩:=Option.map_eq_some_iff.1 e'
   rw [← hi] at e0 ⊢
   have hl0:=hE.len _ _ e0
   have hlt:=hE.lt _ _ e0
   rw [zcz (fun i r e=>(hE.len i r e).trans hl0.symm) (by omega) (fun i' r' hi' e'=>hE.zero i' r' e' i (by omega))]
   exact ih i r0 e0
  ·rw [if_neg hi] at e'
   exact ih i r e'
theorem zgS {rows:Nat→Option (List Int)}{len m:Nat}(hp:Pos rows)(h:Ech rows len m)(hm:m≤len){i j:Nat}{ri rj:List Int}(hij:i < j)(hi:tidyN rows m m i=some ri)(hj:tidyN rows m m j=some rj):0≤ri.getD j 0∧ri.getD j 0 < rj.getD j 0:=by
 have hjm:=(h.all hm m).lt j rj hj
 have hE:=h.all hm (m - 1 - i)
 rw [zd5 (k:=m - 1 - i) (by omega) zL (by omega)] at hj
 rw [zd5 (k:=m - 1 - i+1) (by omega) zL (by omega)] at hi
 have e':tidyAt (tidyN rows m (m - 1 - i)) m (m - 1 - (m - 1 - i)) i=some ri:=hi
 unfold tidyAt at e'
 have ei:m - 1 - (m - 1 - i)=i:=by omega
 rw [ei,if_pos rfl] at e'
 obtain⟨r0,e0,rfl⟩:=Option.map_eq_some_iff.1 e'
 exact zjz hE hm (hE.len _ _ e0) (hp.tidyN h hm _) _ j rj (by omega) (by omega) hj
theorem places (T:Nat→Option (List Int))(m:Nat):∃(r:Nat) (p:Nat→Nat),(∀ k,k < r→p k < m∧∃ v,T (p k)=some v)∧(∀ i k,i < k→k < r→p i < p k)∧(∀ i,i < m→∀ v,T i=some v→∃ k,k < r∧p k=i):=by
 induction m with
 | zero=>exact⟨0,fun _=>0,fun k hk=>absurd hk (Nat.not_lt_zero k),fun i k _ hk=>absurd hk (Nat.not_lt_zero k),fun i hi=>absurd hi (Nat.not_lt_zero i)⟩
 | succ m ih=>
  obtain⟨r,p,h1,h2,h3⟩:=ih
  cases e:T m with
  | none=>
   refine⟨r,p,fun k hk=>⟨Nat.lt_succ_of_lt (h1 k hk).1,(h1 k hk).2⟩,h2,fun i hi v hv=>?_⟩
   by_cases him:i=m
   ·rw [him,e] at hv;cases hv
   ·exact h3 i (by omega) v hv
  | some w=>
   refine⟨r+1,fun k=>if k=r then m else p k,fun k hk=>?_,fun i k hik hk=>?_,fun i hi v hv=>?_⟩
   ·dsimp only
    by_cases hkr:k=r
    ·rw [if_pos hkr];exact⟨Nat.lt_succ_self m,w,e⟩
    ·rw [if_neg hkr];exact⟨Nat.lt_succ_of_lt (h1 k (by omega)).1,(h1 k (by omega)).2⟩
   ·dsimp only
    rw [if_neg (show i≠r by omega)]
    by_cases hkr:k=r
    ·rw [if_pos hkr];exact(h1 i (by omega)).1
    ·rw [if_neg hkr];exact h2 i k hik (by omega)
   ·by_cases him:i=m
    ·exact⟨r,Nat.lt_succ_self r,by dsimp only;rw [if_pos rfl,him]⟩
    ·obtain⟨k,hk,hpk⟩:=h3 i (by omega) v hv
     exact⟨k,Nat.lt_succ_of_lt hk,by dsimp only;rw [if_neg (by omega)];exact hpk⟩
theorem zlj {rows:Nat→Option (List Int)}{m:Nat}(hp:Pos rows)(h:Ech rows m m):∃(r:Nat) (p:Nat→Nat),Form r m (fun k b=>((tidyN rows m m (p k)).getD []).getD b 0) p∧(∀ k,k < r→∃ v,tidyN rows m m (p k)=some v)∧(∀ i v,tidyN rows m m i=some v→∃ k,k < r∧p k=i):=by
 obtain⟨r,p,h1,h2,h3⟩:=places (tidyN rows m m) m
 have hE:=h.all (Nat.le_refl m) m
 refine⟨r,p,⟨h2,fun i hi=>(h1 i hi).1,fun i b hi hb=>?_,fun i hi=>?_,fun i k hik hk=>?_⟩,fun k hk=>(h1 k hk).2,fun i v hv=>h3 i (hE.lt i v hv) v hv⟩
 ·obtain⟨-,v,e⟩:=h1 i hi
  rw [e]
  exact hE.zero _ v e b hb
 ·obtain⟨-,v,e⟩:=h1 i hi
  rw [e]
  exact hp.tidyN h (Nat.le_refl m) m _ v e
 ·obtain⟨-,v,e⟩:=h1 i (by omega)
  obtain⟨-,v',e'⟩:=h1 k hk
  rw [e,e']
  exact zgS hp h (Nat.le_refl m) (h2 i k hik hk) e e'
theorem Gens.lat {len:Nat}{S:List Int→Prop}{x:List Int}(h:Gens len S x)(r:Nat)(M:Nat→Nat→Int)(hS:∀ v,S v→v.length=len→∃ k,k < r∧∀ b,b < len→v.getD b 0=M k b):Lat r len M (fun b=>x.getD b 0):=by
 induction h with
 | base hs hl=>
  obtain⟨k,hk,e⟩:=hS _ hs hl
  obtain⟨c,hc⟩:=Lat.row r len M k hk
  exact⟨c,fun b hb=>(e b hb).trans (hc b hb)⟩
 | zero=>
  refine⟨fun _=>0,fun b hb=>?_⟩
  have e:(List.replicate len (0:Int)).getD b 0=0:=by
   rw [List.getD_eq_getElem?_getD,List.getElem?_replicate]
   split <;> rfl
  have z:∀ r,sumN r (fun k=>0 * M k b)=0:=fun r=>by
   induction r with
   | zero=>rfl
   | succ r ih=>simp [sumN] at ih ⊢;omega
  exact e.trans (z r).symm
 | comb x y hu hv h1 h2=>
  obtain⟨c,hc⟩:=Lat.comb h1 h2 x y
  exact⟨c,fun b hb=>(zl _ _ _ (hu.len.trans hv.len.symm) b (by rw [hu.len];exact hb)).trans (hc b hb)⟩
theorem zJ {r n mm:Nat}{H M:Nat→Nat→Int}(h:∀ a,a < r→Lat mm n M (H a)):∃ C:Nat→Nat→Int,∀ a b,a < r→b < n→H a b=sumN mm (fun k=>C a k * M k b):=by
 refine⟨fun a=>if ha:a < r then Classical.choose (h a ha) else fun _=>0,fun a b ha hb=>?_⟩
 dsimp only
 rw [dif_pos ha]
 exact Classical.choose_spec (h a ha) b hb
theorem zli {rows:Nat→Option (List Int)}{m:Nat}(hp:Pos rows)(h:Ech rows m m){S:List Int→Prop}(ha:Alikes m (RowsOf rows) S)(mm:Nat)(M:Nat→Nat→Int)(Bd:Int)(hBd:0≤Bd)(hM:∀ a b,a < mm→b < m→absI (M a b)≤Bd)
  (hS:∀ v,S v→v.length=m→∃ k,k < mm∧∀ b,b < m→v.getD b 0=M k b) (hS':∀ k,k < mm→∃ v,S v∧v.length=m∧∀ b,b < m→v.getD b 0=M k b):
  ∃ r,r≤m∧r≤mm∧∀ i v,tidyN rows m m i=some v→∀ b,b < m→absI (v.getD b 0)≤r * facP r Bd:=by
 obtain⟨r,p,F,h1,h2⟩:=zlj hp h
 have hE:=h.all (Nat.le_refl m) m
 have hT:=zeu h (Nat.le_refl m) m
 have hrm:∀ k,k < r→k≤p k:=fun k=>by
  induction k with
  | zero=>exact fun _=>Nat.zero_le _
  | succ k ih=>intro hk;have:=ih (by omega);have:=F.inc k (k+1) (by omega) hk;omega
 have hr:r≤m:=by
  by_cases h0:r=0
  ·omega
  ·have:=hrm (r - 1) (by omega);have:=F.lt (r - 1) (by omega);omega
 obtain⟨C,hC⟩:=zJ (r:=r) (n:=m) (mm:=mm) (H:=fun k b=>((tidyN rows m m (p k)).getD []).getD b 0) (M:=M) (fun a haa=>by
  obtain⟨v,e⟩:=h1 a haa
  have g:Gens m S v:=(ha v).1 ((hT v).1 (.base ⟨_,e⟩ (hE.len _ v e)))
  have:=g.lat mm M hS
  simpa only [e,Option.getD_some] using this)
 obtain⟨T,hTT⟩:=zJ (r:=mm) (n:=m) (mm:=r) (H:=M) (M:=fun k b=>((tidyN rows m m (p k)).getD []).getD b 0) (fun a haa=>by
  obtain⟨v,hv,hvl,e⟩:=hS' a haa
  have g:Gens m (RowsOf (tidyN rows m m)) v:=(hT v).2 ((ha v).2 (.base hv hvl))
  obtain⟨c,hc⟩:=g.lat r (fun k b=>((tidyN rows m m (p k)).getD []).getD b 0) (fun u hu hul=>by
   obtain⟨i,ei⟩:=hu
   obtain⟨k,hk,rfl⟩:=h2 i u ei
   exact⟨k,hk,fun b _=>by rw [ei];rfl⟩)
  exact⟨c,fun b hb=>(e b hb).symm.trans (hc b hb)⟩)
 refine⟨r,hr,zbx r mm m _ M C p F.lt (fun i k hi hki=>F.zero i (p k) hi (F.inc k i hki hi)) (fun i hi=>F.pos i hi) hC,fun i v e b hb=>?_⟩
 obtain⟨k,hk,rfl⟩:=h2 i v e
 have:=zfc r mm m (fun k b=>((tidyN rows m m (p k)).getD []).getD b 0) M C T p Bd hBd F.lt (fun i k hi hki=>F.zero i (p k) hi (F.inc k i hki hi)) (fun i hi=>F.pos i hi) (fun i k hi hk hik=>⟨(F.red i k hik hk).1,Int.le_of_lt (F.red i k hik hk).2⟩) hC hTT hM k b hk hb
 simpa only [e,Option.getD_some] using this
def InL (hs:List (List Int)):List Int→Prop:=fun v=>v∈hs
structure FormL (n:Nat)(hs:List (List Int))(p:Nat→Nat):Prop where
 len:∀ r∈hs,r.length=n
 form:Form hs.length n (fun k b=>(hs.getD k []).getD b 0) p
theorem zp {hs:List (List Int)}{k:Nat}(hk:k < hs.length):hs.getD k []=hs[k]:=by
 rw [List.getD_eq_getElem?_getD,List.getElem?_eq_getElem hk,Option.getD_some]
theorem zr {hs:List (List Int)}{k:Nat}(hk:k < hs.length):hs.getD k []∈hs:=by
 rw [zp hk];exact List.getElem_mem hk
theorem zx {n:Nat}{hs:List (List Int)}{v:List Int}(h:Gens n (InL hs) v):Lat hs.length n (fun k b=>(hs.getD k []).getD b 0) (fun b=>v.getD b 0):=
 h.lat _ _ (fun v hv hl=>by
  obtain⟨k,hk,e⟩:=List.getElem_of_mem hv
  exact⟨k,hk,fun b _=>by rw [zp hk,e]⟩)
theorem zfb {n:Nat}{hs hs':List (List Int)}{p p':Nat→Nat}(h:FormL n hs p)(h':FormL n hs' p')(ha:Alikes n (InL hs) (InL hs')):hs=hs':=by
 obtain⟨e,hr⟩:=ziO h.form h'.form (fun i hi=>zx ((ha _).1 (.base (zr hi) (h.len _ (zr hi))))) (fun i hi=>zx ((ha _).2 (.base (zr hi) (h'.len _ (zr hi)))))
 apply List.ext_getElem e
 intro k h1 h2
 have hl:=h.len _ (List.getElem_mem h1)
 have hl':=h'.len _ (List.getElem_mem h2)
 apply zy (hl.trans hl'.symm)
 intro b hb
 have:=(hr k h1).2 b (by omega)
 rwa [zp h1,zp h2] at this
def rowsL (T:Nat→Option (List Int))(n:Nat):List (List Int):=(List.range n).filterMap T
theorem zgm {T:Nat→Option (List Int)}{n:Nat}(h:T n=none):rowsL T (n+1)=rowsL T n:=by
 unfold rowsL
 rw [List.range_succ,List.filterMap_append]
 simp [h]
theorem zgn {T:Nat→Option (List Int)}{n:Nat}{r:List Int}(h:T n=some r):rowsL T (n+1)=rowsL T n ++ [r]:=by
 unfold rowsL
 rw [List.range_succ,List.filterMap_append]
 simp [h]
theorem zgl (T:Nat→Option (List Int))(n:Nat):(rowsL T n).length≤n:=by
 unfold rowsL
 have:=List.length_filterMap_le T (List.range n)
 rwa [List.length_range] at this
theorem zdU {T:Nat→Option (List Int)}{len m:Nat}(hE:Ech T len m)(v:List Int):v∈rowsL T m↔∃ i,T i=some v:=by
 unfold rowsL
 rw [List.mem_filterMap]
 exact⟨fun⟨i,_,e⟩=>⟨i,e⟩,fun⟨i,e⟩=>⟨i,List.mem_range.2 (hE.lt i v e),e⟩⟩
theorem zkv (T:Nat→Option (List Int))(q:Nat):∃ p:Nat→Nat,(∀ k,k < (rowsL T q).length→p k < q∧T (p k)=some ((rowsL T q).getD k []))∧∀ i k,i < k→k < (rowsL T q).length→p i < p k:=by
 induction q with
 | zero=>exact⟨fun _=>0,fun k hk=>absurd hk (by simp [rowsL]),fun i k _ hk=>absurd hk (by simp [rowsL])⟩
 | succ q ih=>
  obtain⟨p,h1,h2⟩:=ih
  cases e:T q with
  | none=>
   rw [zgm e]
   exact⟨p,fun k hk=>⟨Nat.lt_succ_of_lt (h1 k hk).1,(h1 k hk).2⟩,h2⟩
  | some r=>
   rw [zgn e]
   refine⟨fun k=>if k=(rowsL T q).length then q else p k,fun k hk=>?_,fun i k hik hk=>?_⟩
   ·rw [List.length_append,List.length_singleton] at hk
    dsimp only
    by_cases hkr:k=(rowsL T q).length
    ·rw [if_pos hkr]
     refine⟨Nat.lt_succ_self q,?_⟩
     rw [e,hkr,List.getD_eq_getElem?_getD,List.getElem?_append_right zL,Nat.sub_self]
     rfl
    ·rw [if_neg hkr]
     refine⟨Nat.lt_succ_of_lt (h1 k (by omega)).1,?_⟩
     rw [(h1 k (by omega)).2,List.getD_eq_getElem?_getD,List.getD_eq_getElem?_getD,List.getElem?_append_left (by omega)]
   ·rw [List.length_append,List.length_singleton] at hk
    dsimp only
    rw [if_neg (show i≠(rowsL T q).length by omega)]
    by_cases hkr:k=(rowsL T q).length
    ·rw [if_pos hkr];exact(h1 i (by omega)).1
    ·rw [if_neg hkr];exact h2 i k hik (by omega)
theorem zlk {rows:Nat→Option (List Int)}{m:Nat}(hp:Pos rows)(h:Ech rows m m):∃ p,FormL m (rowsL (tidyN rows m m) m) p:=by
 have hE:=h.all (Nat.le_refl m) m
 obtain⟨p,h1,h2⟩:=zkv (tidyN rows m m) m
 refine⟨p,⟨fun r hr=>?_,⟨h2,fun i hi=>(h1 i hi).1,fun i b hi hb=>?_,fun i hi=>?_,fun i k hik hk=>?_⟩⟩⟩
 ·obtain⟨i,e⟩:=(zdU hE r).1 hr
  exact hE.len i r e
 ·exact hE.zero _ _ (h1 i hi).2 b hb
 ·exact hp.tidyN h (Nat.le_refl m) m _ _ (h1 i hi).2
 ·exact zgS hp h (Nat.le_refl m) (h2 i k hik hk) (h1 i (by omega)).2 (h1 k hk).2
theorem zhf {T:Nat→Option (List Int)}{len m:Nat}(hE:Ech T len m):Alikes len (InL (rowsL T m)) (RowsOf T):=
 .of (fun v hv hvl=>.base ((zdU hE v).1 hv) hvl) (fun v hv hvl=>.base ((zdU hE v).2 hv) hvl)
theorem zet {n:Nat}{rows:Nat→Option (List Int)}{l:List (List Int)}{us:List Int}(h:Alikes n (RowsOf rows) (InL l)):Alikes n (RowsOr rows us) (InL (l ++ [us])):=by
 refine .of (fun v hv hvl=>?_) (fun v hv hvl=>?_)
 ·rcases hv with hv | rfl
  ·exact((h v).1 (.base hv hvl)).trans (fun x hx hxl=>.base (List.mem_append_left _ hx) hxl)
  ·exact .base (List.mem_append_right _ (List.mem_singleton.2 rfl)) hvl
 ·rcases List.mem_append.1 hv with hv | hv
  ·exact((h v).2 (.base hv hvl)).trans (fun x hx hxl=>.base (.inl hx) hxl)
  ·rw [List.mem_singleton] at hv
   subst hv
   exact .base (.inr rfl) hvl
def fac:Nat→Nat
 | 0=>1
 | n+1=>(n+1) * fac n
theorem ziF (n v:Nat):facP n (bp v)=(fac n:Int) * bp (n * v):=by
 induction n with
 | zero=>simp [facP,fac,bp]
 | succ n ih=>
  have e:(n+1) * v=v+n * v:=by rw [Nat.succ_mul,Nat.add_comm]
  rw [facP,ih,e,zbg,fac,Int.natCast_mul]
  rw [Int.mul_assoc,← Int.mul_assoc (bp v),Int.mul_comm (bp v),Int.mul_assoc]
theorem ziH:∀ r,r < 17→r * fac r < 18446744073709551616:=by decide
theorem zdo {n v r:Nat}(hr:r≤n)(hn:n≤16):(r:Int) * facP r (bp v) < bp (n * v+2):=by
 have h1:=ziH r (by omega)
 have h2:bp (r * v)≤bp (n * v):=zY (Nat.mul_le_mul_right v hr)
 have h3:=zD (r * v)
 have e:bp (n * v+2)=18446744073709551616 * bp (n * v):=by rw [Nat.add_comm,zbg];rfl
 rw [ziF,e,← Int.mul_assoc]
 have h4:((r:Int) *(fac r:Int))=((r * fac r:Nat):Int):=by rw [Int.natCast_mul]
 rw [h4]
 generalize r * fac r=q at *
 have h5:(q:Int) * bp (r * v)≤18446744073709551615 * bp (r * v):=Int.mul_le_mul_of_nonneg_right (by omega) (by omega)
 omega
end Go.Proofs.YtdedolkgcdlmeaaGreatDoor
