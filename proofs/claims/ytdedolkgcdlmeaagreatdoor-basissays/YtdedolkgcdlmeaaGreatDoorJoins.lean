import Derived.Test.YtdedolkgcdlmeaaGreatDoorMatRaw
import Derived.Lib.IndexBytes
import Derived.Shelf.LaysM
import Derived.Test.YtdedolkgcdlmeaaGreatDoorProg
import Derived.Shelf.Strings.OnBuilder
import Derived.Shelf.Strings.Count
import Derived.Shelf.Strings.Split
import Derived.Lib.Split
import Derived.Lib.Join
set_option maxRecDepth 100000
set_option maxHeartbeats 4000000
namespace Go.Proofs.YtdedolkgcdlmeaaGreatDoor
open Go.ChangeShapes Go.WideShapes Go.ChangeAt Go.RowKit Go.Joins Limbs
variable {v:Value}{w w':World}{gs:List Int}
theorem Tryz.cellsVec:Tryz.prog.cellsOf 72=1:=by kernel_rfl
def MatC (W:World)(v:Value)(rss:List (List Raw)):Prop:=
 ∃ ao cap,v=.slice ao rss.length cap∧rss.length≤cap∧rss.length≤9223372036854775807 ∧
  (0<rss.length→∃ b off,ao=some ⟨b,off,none⟩∧b<W.heap.size∧∀ i rs,rss[i]?=some rs→∃ u,W.cell? ⟨b,off+i,none⟩=some u∧VecC W u rs)
theorem zkV {H:Type}{enc:TypeId × Value→H}{W:World}{n:Nat}{y:DataW H × List MemPlace}
  (hf:DataW.trod enc Tryz.prog W 0 (fun _=>true) true n 72 [v]=some y):∃ rs,VecC W v rs:=by
 obtain⟨a0,len,cap,e⟩:=slice_form Tryz.underlying72 hf;simp only [List.cons.injEq,and_true] at e;subst e;rcases Go.Deep.open_slice_pairs Tryz.underlying72 Tryz.underlying29 Tryz.cellsNum rfl rfl Tryz.cellsBool Tryz.cellsSl hf with⟨hcs,_⟩ |⟨a,l,c,m,n,V0,V1,D0,D1,P0,P1,hcs,_,hl,hm,hmm,_,hc⟩
 ·simp only [List.cons.injEq,zV,and_true] at hcs;obtain⟨rfl,rfl,rfl⟩:=hcs;exact⟨[],none,0,rfl,by simp,by simp,fun h=>absurd h (by simp)⟩
 ·simp only [List.cons.injEq,zV,and_true] at hcs;obtain⟨rfl,rfl,rfl⟩:=hcs;have hm':len≤m:=by simp at hmm;omega
  have each:∀ i,i<len→∃ r:Raw,V0 i=.bool r.neg∧V1 i=r.s∧CameR W r:=fun i hi=>by
   obtain⟨-,-,h0,h1⟩:=hc i (by omega);obtain⟨b,e0,-⟩:=DataW.trod_bool Tryz.underlying4 h0;obtain⟨r,e1,e2,e3⟩:=zgr h1 b;simp only [List.cons.injEq,and_true] at e0;exact⟨r,by rw [e0,e1],e2.symm,e3⟩
  obtain⟨q,hq⟩:=Go.Deep.choose_lt each;have hlen:((List.range len).map q).length=len:=by simp
  refine⟨(List.range len).map q,some a,cap,by rw [hlen],by rw [hlen];exact hl,by rw [hlen];unfold maxLen at hm;omega,fun h0=>?_⟩;rw [hlen] at h0;obtain⟨k0,-,-,-⟩:=hc 0 (by omega);obtain⟨blk,off,spot⟩:=a;have hsp:spot=none:=by simpa [Addr.add] using World.cell?_spot k0
  subst hsp;refine⟨blk,off,rfl,by simpa [Addr.add] using World.block_lt_of_cell? W _ k0,fun i r hi=>?_⟩;obtain⟨hi',e⟩:=List.getElem?_eq_some_iff.1 hi;rw [hlen] at hi';have e':r=q i:=by simpa using e.symm
  obtain⟨c0,c1,-,-⟩:=hc i (by omega);obtain⟨q0,q1,q2⟩:=hq i hi';rw [Go.WideShapes.add_plain,q0] at c0;rw [Go.WideShapes.add_plain,q1] at c1;rw [e'];exact⟨c0,c1,q2⟩
theorem VecC.below{rs:List Raw}(h:VecC w v rs)(hb:Below w.heap.size w w'):VecC w' v rs:=by
 obtain⟨ao,cap,hv,h1,h1',h2⟩:=h;refine⟨ao,cap,hv,h1,h1',fun h0=>?_⟩;obtain⟨b,off,e,hlt,hc⟩:=h2 h0;refine⟨b,off,e,zT hlt hb.size,fun i r hi=>?_⟩;obtain⟨h3,h4,h5,h6,h7⟩:=hc i r hi;exact⟨(hb.cell (p:=⟨b,off+i*2,none⟩) hlt).trans h3,(hb.cell (p:=⟨b,off+i*2+1,none⟩) hlt).trans h4,h5,h6,fun hl=>(h7 hl).below hb zL⟩
theorem MatC.below{rss:List (List Raw)}(h:MatC w v rss)(hb:Below w.heap.size w w'):MatC w' v rss:=by
 obtain⟨ao,cap,hv,h1,h1',h2⟩:=h;refine⟨ao,cap,hv,h1,h1',fun h0=>?_⟩;obtain⟨b,off,e,hlt,hc⟩:=h2 h0;refine⟨b,off,e,zT hlt hb.size,fun i r hi=>?_⟩;obtain⟨u,h3,h4⟩:=hc i r hi;exact⟨u,(hb.cell (p:=⟨b,off+i,none⟩) hlt).trans h3,h4.below hb⟩
def limbsV (rs:List Raw):Nat:=(rs.map (·.zs.length)).sum
def limbsM (rss:List (List Raw)):Nat:=(rss.map limbsV).sum
def lightM (rss:List (List Raw))(limbs:Int):Bool:=decide (rss.length≤14) && rss.all lightV && decide ((limbsM rss:Int)≤limbs)
theorem zka (rs:List Raw)(k:Nat)(hk:k<rs.length):limbsV (rs.take (k+1))=limbsV (rs.take k)+rs[k].zs.length:=by
 unfold limbsV;rw [List.take_succ_eq_append_getElem hk,List.map_append,List.sum_append];simp
theorem zj9 (rss:List (List Raw))(k:Nat)(hk:k<rss.length):limbsM (rss.take (k+1))=limbsM (rss.take k)+limbsV rss[k]:=by
 unfold limbsM;rw [List.take_succ_eq_append_getElem hk,List.map_append,List.sum_append];simp
theorem zfY (rs:List Raw)(h:rs.all (fun r=>decide (r.zs.length≤8))=true):limbsV rs≤8*rs.length:=by
 induction rs with
 | nil=>simp [limbsV]
 | cons r rs ih=>
  rw [List.all_cons,Bool.and_eq_true] at h;have h1:=of_decide_eq_true h.1;have h2:=ih h.2;simp only [limbsV,List.map_cons,List.sum_cons,List.length_cons] at h2 ⊢;omega
theorem zfX {rs:List Raw}(h:lightV rs=true):limbsV rs≤80∧rs.length≤10:=by
 unfold lightV at h;rw [Bool.and_eq_true] at h;have h1:=of_decide_eq_true h.1;have:=zfY rs h.2;omega
theorem zj8 (rss:List (List Raw))(h:rss.all lightV=true):limbsM rss≤80*rss.length:=by
 induction rss with
 | nil=>simp [limbsM]
 | cons r rs ih=>
  rw [List.all_cons,Bool.and_eq_true] at h;have h1:=(zfX h.1).1;have h2:=ih h.2;simp only [limbsM,List.map_cons,List.sum_cons,List.length_cons] at h2 ⊢;omega
theorem zfU (w:World)(v:Value)(rss:List (List Raw))(limbs:Int)(hv:MatC w v rss)(b:Bool)(hb:b=lightM rss limbs):
  Calls Tryz.prog 10 #[v,.int .i64 limbs] w fun e w'=>e=.returned (.bool b)∧w'=w:=by
 have HB:=hide hb;have HV:=hide hv;obtain⟨ao,cap,rfl,-,hmx,hc⟩:=hv;clear hb;by_cases h14:14<rss.length
 ·have hl:(14:Int)<(rss.length:Int):=by omega
  have hbf:b=false:=by rw [HB.out];unfold lightM;rw [decide_eq_false (by omega)];rfl
  subst hbf;clear hc;go_enter Tryz.func10,Tryz.ntmps10;go_wp2;go_ret;exact⟨rfl,rfl⟩
 ·have hl:¬((14:Int)<(rss.length:Int)):=by omega
  have HE:Hid (b=(rss.all lightV && decide ((limbsM rss:Int)≤limbs))):=by
   show _=_;rw [HB.out];unfold lightM;rw [decide_eq_true (by omega),Bool.true_and]
  clear HB;have HC:=hide hc;clear hc;go_enter Tryz.func10,Tryz.ntmps10;go_wp2
  go_loop [5,6] (fun n i=>∃ k:Nat,k≤rss.length∧i=.int .i64 k∧n=.int .i64 (limbsM (rss.take k):Nat)∧Hid ((rss.take k).all lightV=true)) (fun _ i=>rss.length-(intOf i).toNat)
  case atStart=>exact⟨0,Nat.zero_le _,rfl,rfl,by show _=_;simp⟩
  case round=>
   obtain⟨k,hk,rfl,rfl,HG⟩:=hrel;have hle:=zj8 (rss.take k) HG.out;have hlen:(rss.take k).length=k:=by rw [List.length_take];omega
   by_cases hkl:k<rss.length
   ·obtain⟨bk,off,rfl,hlt,hc⟩:=HC.out (by omega);obtain⟨u,c0,hu⟩:=hc k rss[k] (by simp [hkl]);clear hc;have HU:=hide hu;have HT:Hid ((rss.take (k+1)).all lightV=lightV rss[k]):=by
     show _=_;rw [List.take_succ_eq_append_getElem hkl,List.all_append,HG.out];simp
    have HF:Hid (lightV rss[k]=false→rss.all lightV=false):=fun h=>by
     rw [List.all_eq_false];exact⟨rss[k],List.getElem_mem hkl,by simp [h]⟩
    have HS:=hide (zj9 rss k hkl);generalize limbsM (rss.take k)=N0 at *;generalize rss[k]=rs at *;go_wp2_with fail;refine(zfW w u rs HU.out (lightV rs) rfl).mono ?_;rintro e w1 ⟨rfl,rfl⟩;cases hlv:lightV rs
    ·have hbf:b=false:=by rw [HE.out,HF.out hlv];rfl
     subst hbf;clear HT HF HS HE HG;go_wp2;go_ret;exact⟨rfl,rfl⟩
    ·have HG':=hide (HT.out.trans hlv);obtain⟨hlm,hl10⟩:=zfX hlv;have H8:Hid (rs.all (fun r=>decide (r.zs.length≤8))=true):=by
      unfold lightV at hlv;rw [Bool.and_eq_true] at hlv;exact hlv.2
     clear HT HF HG hlv;obtain⟨vo,vcap,rfl,-,-,hc⟩:=hu;have HC2:=hide hc;clear hc;go_wp2
     go_loop [5,8] (fun n j=>∃ q:Nat,q≤rs.length∧j=.int .i64 q∧n=.int .i64 (N0+limbsV (rs.take q):Nat)) (fun _ j=>rs.length-(intOf j).toNat)
     case atStart=>exact⟨0,Nat.zero_le _,rfl,rfl⟩
     case round=>
      obtain⟨q,hq,rfl,rfl⟩:=hrel;by_cases hql:q<rs.length
      ·obtain⟨vb,voff,rfl,hvlt,hc⟩:=HC2.out (by omega);obtain⟨d0,d1,⟨o,c,hs⟩,hz,-⟩:=hc q rs[q] (by simp [hql]);clear hc;have HSV:=hide (zka rs q hql);have hz8:rs[q].zs.length≤8:=of_decide_eq_true (List.all_eq_true.1 H8.out _ (List.getElem_mem hql));have hb1:limbsV (rs.take q)≤80:=by
        have h2:=zfY (rs.take q) (List.all_eq_true.2 fun r hr=>List.all_eq_true.1 H8.out r (List.mem_of_mem_take hr));rw [List.length_take] at h2;omega
       generalize limbsV (rs.take q)=M0 at *;generalize rs[q]=r at *;obtain⟨rn,rsl,rz⟩:=r;simp only at hs hz hz8 d0 d1;subst hs;go_wp2
       go_round
       case rel=>exact⟨q+1,by omega,by go_num,by rw [HSV.out];go_num⟩
       case measure=>simp [intOf];omega
      ·obtain rfl:q=rs.length:=by omega
       have HN1:Hid (N0+limbsV (rs.take rs.length)=limbsM (rss.take (k+1))):=by
        show _=_;rw [List.take_length];exact HS.out.symm
       have hle2:limbsM (rss.take (k+1))≤80*14+80:=by have:=HS.out;omega
       rw [HN1.out];clear HN1 HS;go_wp2
       go_round
       case rel=>exact⟨k+1,by omega,by go_num,rfl,HG'⟩
       case measure=>simp [intOf];omega
   ·obtain rfl:k=rss.length:=by omega
    have HFN:Hid (b=decide ((limbsM rss:Int)≤limbs)):=by
     show _=_;have:=HG.out;rw [List.take_length] at this;rw [HE.out,this,Bool.true_and]
    rw [List.take_length] at hle;clear HG HE;rw [List.take_length];generalize limbsM rss=N0 at *;obtain rfl:=HFN.out;clear HFN;go_wp2;go_ret;exact⟨rfl,rfl⟩
theorem zaH {rs:List Raw}(h:lightV rs=true):∀ r∈rs,r.zs.length≤8:=by
 unfold lightV at h;rw [Bool.and_eq_true] at h;exact fun r hr=>of_decide_eq_true (List.all_eq_true.1 h.2 r hr)
theorem MatC.light{rss:List (List Raw)}(h:MatC w v rss)(hl:∀ rs∈rss,lightV rs=true):MatL w v rss:=by
 obtain⟨ao,cap,hv,h1,-,h2⟩:=h;refine⟨ao,cap,hv,h1,fun h0=>?_⟩;obtain⟨b,off,e,hlt,hc⟩:=h2 h0;refine⟨b,off,e,hlt,fun i rs hi=>?_⟩;obtain⟨u,h3,h4⟩:=hc i rs hi;exact⟨u,h3,h4.light fun r hr=>Nat.le_trans (zaH (hl rs (List.mem_of_getElem? hi)) r hr) (by decide)⟩
theorem zfV {rss:List (List Raw)}{n:Int}(h:lightM rss n=true):rss.length≤14∧∀ rs∈rss,lightV rs=true:=by
 unfold lightM at h;rw [Bool.and_eq_true,Bool.and_eq_true] at h;exact⟨of_decide_eq_true h.1.1,fun rs hr=>List.all_eq_true.1 h.1.2 rs hr⟩
def pad:Nat→Nat→List UInt8
 | 0,_=>[]
 | k+1,g=>pad k (g/10)++[UInt8.ofNat (48+g%10)]
theorem zc9 (k g:Nat):(pad k g).length=k:=by
 induction k generalizing g with
 | zero=>rfl
 | succ k ih=>simp [pad,ih]
theorem zfe (k:Nat):∀ q g:Nat,1≤q→g<10 ^ k→Lib.decDigits (q*10 ^ k+g)=Lib.decDigits q++pad k g:=by
 induction k with
 | zero => intro q g _ hg; have : g = 0 := by simpa using hg
           subst this;simp [pad]
 | succ k ih=>
  intro q g hq hg;have e1:q*10 ^ (k+1)=10 *(q*10 ^ k):=by rw [Nat.pow_succ,← Nat.mul_assoc,Nat.mul_comm]
  have e0:0<q*10 ^ k:=Nat.mul_pos (by omega) (Nat.pow_pos (by decide));have hg':g/10<10 ^ k:=by rw [Nat.pow_succ] at hg;omega
  rw [Lib.decDigits,dif_neg (by omega)];have e2:(q*10 ^ (k+1)+g)/10=q*10 ^ k+g/10:=by omega
  have e3:(q*10 ^ (k+1)+g)%10=g%10:=by omega
  rw [e2,e3,ih q (g/10) hq hg',List.append_assoc];rfl
theorem zdx (u:Nat):(Lib.decDigits u).length≤u+1∧1≤(Lib.decDigits u).length:=by
 induction u using Nat.strongRecOn with
 | _ u ih=>
  rw [Lib.decDigits];by_cases h:u<10
  ·rw [dif_pos h];simp
  ·rw [dif_neg h];have:=ih (u/10) (by omega);simp;omega
theorem nine (g:Nat)(hg:g<1000000000):(Lib.decDigits (1000000000+g)).drop 1=pad 9 g:=by
 have:=zfe 9 1 g zL hg;rw [show 1*10 ^ 9+g=1000000000+g by omega] at this;rw [this,Lib.decDigits_one (by decide)];rfl
theorem zjy (q g:Nat)(hq:1≤q)(hg:g<1000000000):Lib.decDigits (q*1000000000+g)=Lib.decDigits q++pad 9 g:=zfe 9 q g hq hg
theorem zfH(h:∀ g∈gs,0≤g∧g<1000000000):0≤gv gs:=by
 induction gs with
 | nil=>simp [gv]
 | cons x xs ih=>have:=ih fun g hg=>h g (by simp [hg]);have:=h x (by simp);simp only [gv];omega
theorem zjC(h:∀ g∈gs,0≤g∧g<1000000000)(hl:gs.length≠0)(hn:gs.getD (gs.length-1) 0≠0):0<gv gs:=by
 induction gs with
 | nil=>simp at hl
 | cons x xs ih=>
  have hx:=h x (by simp);have hxs:∀ g∈xs,0≤g∧g<1000000000:=fun g hg=>h g (by simp [hg]);have h0:=zfH hxs;simp only [gv];by_cases e:xs.length=0
  ·have:xs=[]:=List.eq_nil_of_length_eq_zero e;subst this;simp at hn;simp [gv];omega
  ·have:=ih hxs e (by
    have e2:(x::xs).length-1=(xs.length-1)+1:=by simp;omega
    rw [e2,List.getD_cons_succ] at hn;exact hn)
   omega
theorem zl9(h:∀ g∈gs,0≤g∧g<1000000000)(hn:gs.getD (gs.length-1) 0≠0){p:Nat}(hp:p+1<gs.length):
  Lib.decDigits (gv (gs.drop p)).toNat=Lib.decDigits (gv (gs.drop (p+1))).toNat++pad 9 (gs.getD p 0).toNat:=by
 have hm:gs.getD p 0∈gs:=by rw [zG,List.getElem?_eq_getElem (by omega)];exact List.getElem_mem _
 have hg:=h _ hm;have hd:∀ g∈gs.drop (p+1),0≤g∧g<1000000000:=fun g hg=>h g (List.mem_of_mem_drop hg);have hl:(gs.drop (p+1)).length=gs.length-(p+1):=List.length_drop;have h1:=zjC hd (by omega) (by rw [zdJ,hl,show p+1+(gs.length-(p+1)-1)=gs.length-1 by omega];exact hn);have e:gs.drop p=gs.getD p 0::gs.drop (p+1):=zz gs p (by omega);rw [e];simp only [gv];rw [← zjy _ _ (by omega) (by omega)];congr 1;omega
def txt (z:Int):List UInt8:=Lib.itoa z
def TextPost (w:World)(z:Int)(e:Ending)(w':World):Prop:=e=.returned (.string ⟨(txt z).toArray⟩)∧Below w.heap.size w w'
def ItoaOk (w:World)(z:Int):Prop:=
 ∀(W:World) (k:Nat),Below w.heap.size w W→k<10000000000→(k<100∨100≤z.natAbs) →
  Calls Tryz.prog 120 #[.int .i64 k] W fun e w'=>e=.returned (.string ⟨(Lib.decDigits k).toArray⟩)∧Below W.heap.size W w'
def sgnB (neg:Bool):List UInt8:=if neg=true then [45] else []
theorem zjB(h:∀ g∈gs,0≤g∧g<1000000000)(top:Nat)(hl:gs.length=top+1):gp top*gs.getD top 0≤gv gs:=by
 induction gs generalizing top with
 | nil=>simp at hl
 | cons x xs ih=>
  have hx:=h x (by simp);have hxs:∀ g∈xs,0≤g∧g<1000000000:=fun g hg=>h g (by simp [hg]);cases top with
  | zero=>
   have:=zfH hxs;simp [gv,gp];omega
  | succ top=>
   have:=ih hxs top (by simpa using hl);rw [List.getD_cons_succ];simp only [gv,gp];rw [Int.mul_assoc];omega
theorem zcA {T e:TypeId}{B b:Nat}{bs:List Value}(h:Lib.IsBuilderF T e B b bs w)(hb:Below w.heap.size w w'):Lib.IsBuilderF T e B b bs w':=by
 have hg:w.grownBy w' none:=⟨hb.os,hb.tape,hb.output,hb.size,fun k hk _=>hb.block k hk⟩;have key:∀ p,Lib.BuilderAtF T e B b p bs w→Lib.BuilderAtF T e B b p bs w':=fun p hp=>by
  have hlt:=hp.lt;obtain⟨hB,v,hbk,hown,hne⟩:=hp;exact⟨hB,v,by rw [hb.block b hlt];exact hbk,hown.kept hg (by cases v.ownBlock <;> simp),hne⟩
 exact h.elim (fun x=>.inl (key _ x)) (fun x=>.inr (key _ x))
theorem zl8 (w:World)(va:Value)(z:Int)(n:Nat)(ha:NumL w va z n)(hn:n≤900000)(hz:z≠0)(hIt:ItoaOk w z):
  Calls Tryz.prog 92 #[va] w fun e w'=>TextPost w z e w':=by
 have HN:=hide ha;obtain⟨an,sa,a,rfl,hla,nra,hza,hx,hna⟩:=ha;have HA:=hide hla;obtain⟨ao,acap,rfl,hac,halen,halb,-⟩:=hla;have hane:a.length≠0:=fun h=>hz (by rw [hx,(zaT halb nra).2 h];split <;> rfl);have hpos:=zce halb nra hane;have HX:=hide hx;clear hx;have HI:=hide hIt;clear hIt;have hd0:decide (z=0)=false:=decide_eq_false hz;go_enter Tryz.func92,Tryz.ntmps92;go_wp2_with fail;have hB:=zg w (.bool an) (.slice ao a.length acap) 29 w.heap.size rfl;have hb0:Below w.heap.size w (w.alloc (.cells #[.bool an,.slice ao a.length acap] 29)):=(zB _ _).alloc zL _;have hs0:w.heap.size<(w.alloc (.cells #[.bool an,.slice ao a.length acap] 29)).heap.size:=by simp
 generalize w.alloc (.cells #[.bool an,.slice ao a.length acap] 29)=W at *;refine(zat W _ z n (HN.out.below hb0 zL)).mono ?_;rintro e w2 ⟨rfl,hb2⟩;rw [hd0];replace hB:=hB.later hb2 hs0;replace hb0:=hb0.trans (hb2.mono hb0.size);have hs2:=zT hs0 hb2.size;clear hb2 hs0;obtain⟨p0,p1,-,-⟩:=hB;go_wp2_with fail;refine(ziN w2 _ a (HA.out.below hb0 zL) nra).mono ?_;rintro e w3 ⟨v,gs,rfl,hown,hb3,hgv,hg9,hlast,hgl⟩;have hgne:gs.length≠0:=fun h=>by rw [List.eq_nil_of_length_eq_zero h] at hgv;simp [gv] at hgv;omega
 replace hlast:=hlast.resolve_left hgne;obtain⟨top,htop⟩:∃ top,gs.length=top+1:=⟨gs.length-1,by omega⟩;obtain⟨g,cap,rfl,hgb,hglt⟩:=hown.form (by omega);have hcells:=fun i hi=>hown.cellAt i hi;rw [htop] at hcells hgl hlast ⊢;rw [Nat.add_sub_cancel] at hlast;have HC:Hid (∀ i,i<top+1→w3.cell? ⟨g,i,none⟩=some (.int .i64 (gs.getD i 0))):=fun i hi=>by
  rw [hcells i (by omega),List.getElem?_map,List.getElem?_eq_getElem (by omega)];simp [List.getD_eq_getElem?_getD,show i<gs.length by omega]
 clear hcells hown;have q0:w3.cell? ⟨w.heap.size,0,none⟩=some (.bool an):=(hb3.cell (p:=⟨w.heap.size,0,none⟩) hs2).trans p0;have hbw3:=hb0.trans (hb3.mono hb0.size);have HV:=hide hgv;have HG9:=hide hg9;have HLast:=hide hlast;have HTop:=hide htop;clear hgv hg9 hlast htop p0 p1 hb3;have hs3:w.heap.size<w3.heap.size:=by have:=hbw3.size;omega
 have hct:=HC.out top (by omega);obtain⟨gt,HGT⟩:∃ gt,Hid (gt=gs.getD top 0):=⟨_,rfl⟩;rw [← HGT.out] at hct;have hgt:0<gt∧gt<1000000000:=by
  have:=HG9.out (gs.getD top 0) (by rw [zG,List.getElem?_eq_getElem (by have:=HTop.out;omega)];exact List.getElem_mem _);have h2:=HLast.out;rw [HGT.out];omega
 have hbu:=Lib.IsBuilderF.of (Lib.fresh_isBuilder 165 5 w3);have hbb:Below w3.heap.size w3 (w3.alloc (.cells #[.pointer none,.slice none 0 0] 165)):=(zB _ _).alloc zL _;have HBU:=hide hbu;clear hbu;have HEND:Hid (∀ w9,Below w3.heap.size w3 w9→TextPost w z (.returned (.string ⟨(sgnB an++Lib.decDigits (gv (gs.drop 0)).toNat).toArray⟩)) w9):=fun w9 h9=>by
  refine⟨?_,hbw3.trans (h9.mono hbw3.size)⟩;have e:txt z=sgnB an++Lib.decDigits (gv (gs.drop 0)).toNat:=by
   rw [List.drop_zero,← HV.out];unfold txt sgnB Lib.itoa;have:=HX.out;cases an
   ·simp at this ⊢;rw [this,if_neg (by omega)]
   ·simp at this ⊢;rw [this,if_pos (by omega)];simp;congr 1;omega
  rw [e]
 have HIT:Hid (∀(W:World) (k:Nat),Below w3.heap.size w3 W→k<10000000000→(k<100∨top≠0∨100≤gt)→Calls Tryz.prog 120 #[.int .i64 k] W fun e w'=>e=.returned (.string ⟨(Lib.decDigits k).toArray⟩)∧Below W.heap.size W w'):=fun W k hW hk hc=>by
  refine HI.out W k (hbw3.trans (hW.mono hbw3.size)) hk ?_;rcases hc with hc | hc
  ·exact .inl hc
  ·right;have h1:=zjB HG9.out top HTop.out;rw [← HGT.out,← HV.out] at h1;have h2:100≤lv a:=by
    rcases hc with hc | hc
    ·have h3:=zfA (m:=1) (n:=top) (by omega);have h4:gp top*1≤gp top*gt:=Int.mul_le_mul_of_nonneg_left (by omega) (by have:=zbz top;omega);simp [gp] at h3;omega
    ·have h3:=zbz top;have h4:1*gt≤gp top*gt:=Int.mul_le_mul_of_nonneg_right (by omega) (by omega);omega
   have:=HX.out;split at this <;> omega
 have HTXT:Hid (∀ p,p+1<gs.length→Lib.decDigits (gv (gs.drop p)).toNat=Lib.decDigits (gv (gs.drop (p+1))).toNat++pad 9 (gs.getD p 0).toNat):=fun p hp=>zl9 HG9.out (by rw [HTop.out,Nat.add_sub_cancel];exact HLast.out) hp;have HT0:Hid (Lib.decDigits (gv (gs.drop top)).toNat=Lib.decDigits gt.toNat):=by
  show _=_;rw [zz gs top (by have:=HTop.out;omega),List.drop_eq_nil_of_le (by have:=HTop.out;omega),← HGT.out];simp [gv]
 have HG:Hid (∀ p,p<top+1→0≤gs.getD p 0∧gs.getD p 0<1000000000):=fun p hp=>HG9.out _ (by rw [zG,List.getElem?_eq_getElem (by have:=HTop.out;omega)];exact List.getElem_mem _);obtain⟨gn,hgn⟩:∃ gn:Nat,gt=(gn:Int):=Int.eq_ofNat_of_zero_le (by omega);subst hgn;clear HI HN HA HX HGT HV HG9 HLast;have hgn1:gn<1000000000:=by omega
 have hdl:=(zdx gn).1;have hctA:∀ W',Below w3.heap.size w3 W'→W'.cell? ⟨g,top,none⟩=some (.int .i64 (gn:Int)):=fun W' h=>(h.cell (p:=⟨g,top,none⟩) hglt).trans hct;have HCT:=hide hctA;clear hctA hct;cases an
 ·have HBF:Hid (Lib.IsBuilderF 165 5 w3.heap.size w3.heap.size (Lib.byteCells (sgnB false)) (w3.alloc (.cells #[.pointer none,.slice none 0 0] 165))):=HBU.out;have hctb:=HCT.out _ hbb;go_wp2_with fail;generalize w3.alloc (.cells #[.pointer none,.slice none 0 0] 165)=wb at *;clear hctb q0;refine(HIT.out wb gn hbb (by omega) (by omega)).mono ?_;rintro e w5 ⟨rfl,hb5⟩;go_wp2_with fail;refine(Go.Proofs.Tryz.Builder_WriteString_k w3.heap.size w3.heap.size _ _ _ (zcA HBF.out hb5) (by simp [Lib.byteCells,sgnB,ByteArray.size];omega) (by have:=hbb.size;have:=hb5.size;omega)).mono ?_;rintro e w6 ⟨rfl,hbu6,hb6,-⟩;have hs6:(Lib.byteCells (sgnB false)++Lib.strCells ⟨(Lib.decDigits gn).toArray⟩)=Lib.byteCells (sgnB false++Lib.decDigits (gv (gs.drop (top-0))).toNat):=by
   rw [Nat.sub_zero,HT0.out,Lib.byteCells_append];rfl
  rw [hs6] at hbu6;have HB6:=hide (show Lib.IsBuilderF 165 5 w3.heap.size w3.heap.size _ w6 from .inr hbu6);have hbw6:=(hbb.trans (hb5.mono hbb.size)).trans hb6;have hll:(sgnB false++Lib.decDigits (gv (gs.drop (top-0))).toNat).length≤1000000100:=by rw [Nat.sub_zero,HT0.out];simp [sgnB];omega
  clear hbu6 hs6 hb6 hb5 HBF HBU hbb;go_wp2;go_loopw [25] (fun i wr=>∃ k:Nat,k≤top∧i=.int .i64 k∧Hid (Lib.IsBuilderF 165 5 w3.heap.size w3.heap.size (Lib.byteCells (sgnB false++Lib.decDigits (gv (gs.drop (top-k))).toNat)) wr)∧Below w3.heap.size w3 wr∧(sgnB false++Lib.decDigits (gv (gs.drop (top-k))).toNat).length≤1000000100+9*k) (fun i _=>top-(intOf i).toNat)
  case atStart=>exact⟨0,Nat.zero_le _,rfl,HB6,hbw6,hll⟩
  case round=>
   obtain⟨k,hk,rfl,HBK,hbk,hlk⟩:=hrel;by_cases hlt:k<top
   ·obtain⟨p,hp⟩:∃ p,p=top-1-k:=⟨_,rfl⟩;have hP:(top:Int)-1-(k:Int)=(p:Int):=by omega
    have hpl:p<top+1:=by omega
    have hcp:=(hbk.cell (p:=⟨g,p,none⟩) hglt).trans (HC.out p hpl);have hg:=HG.out p hpl;have HST:=hide (HTXT.out p (by have:=HTop.out;omega));have HKE:=hide (show top-k=p+1 by omega);have HKE2:=hide (show top-(k+1)=p by omega);obtain⟨q,hq⟩:∃ q:Nat,gs.getD p 0=(q:Int):=Int.eq_ofNat_of_zero_le hg.1;rw [hq] at hcp hg HST;clear hp hq;go_wp2_with fail;rw [show(1000000000:Int)+(q:Int)=((1000000000+q:Nat):Int) by omega];refine(HIT.out wr (1000000000+q) hbk (by omega) (by omega)).mono ?_;rintro e w7 ⟨rfl,hb7⟩;have hdq:=(zdx (1000000000+q)).2;have HN9:=hide (nine q (by omega));obtain⟨s,HSs⟩:∃ s:ByteArray,Hid (s=⟨(Lib.decDigits (1000000000+q)).toArray⟩):=⟨_,rfl⟩;have hs1:1≤s.size:=by rw [HSs.out];simpa [ByteArray.size] using hdq
    rw [← HSs.out];have hcell9:Lib.strCells (s.extract 1 s.size)=Lib.byteCells (pad 9 q):=by
     rw [Lib.strCells_eq,Lib.extract_to_end,HSs.out];show Lib.byteCells ((Lib.decDigits (1000000000+q)).toArray.toList.drop 1)=_;rw [List.toList_toArray,HN9.out]
    have hsz9:(s.extract 1 s.size).size=9:=by
     have:=Lib.strCells_length (s.extract 1 s.size);rw [hcell9,Lib.byteCells_length,zc9] at this;exact this.symm
    have HC9:=hide hcell9;have HZ9:=hide hsz9;clear hcell9 hsz9 hdq;go_wp2_with fail;refine(Go.Proofs.Tryz.Builder_WriteString_k w3.heap.size w3.heap.size _ _ _ (zcA HBK.out hb7) (by rw [HZ9.out,Lib.byteCells_length];omega) (by have:=hbk.size;have:=hb7.size;omega)).mono ?_;rintro e w8 ⟨rfl,hbu8,hb8,-⟩;rw [HC9.out,← Lib.byteCells_append,List.append_assoc,HKE.out] at hbu8;have hst:=HST.out;rw [Int.toNat_natCast] at hst;rw [← hst] at hbu8;have HB8:Hid (Lib.IsBuilderF 165 5 w3.heap.size w3.heap.size (Lib.byteCells (sgnB false++Lib.decDigits (gv (gs.drop (top-(k+1)))).toNat)) w8):=by rw [HKE2.out];exact .inr hbu8
    have hbw8:=(hbk.trans (hb7.mono hbk.size)).trans hb8;have hl8:(sgnB false++Lib.decDigits (gv (gs.drop (top-(k+1)))).toNat).length≤1000000100+9 *(k+1):=by
     rw [HKE2.out,hst,← List.append_assoc,List.length_append,zc9];rw [HKE.out] at hlk;omega
    clear hbu8 hst hb8 hb7 HST;go_wp2;go_roundw
    case rel=>exact⟨k+1,by omega,by go_num,HB8,hbw8,hl8⟩
    case measure=>simp [intOf];omega
   ·obtain rfl:k=top:=by omega
    rw [Nat.sub_self] at HBK;go_wp2_with fail;refine(Go.Proofs.Tryz.Builder_String_any_k w3.heap.size w3.heap.size _ _ HBK.out hbk.size).mono ?_;rintro e w8 ⟨rfl,-,hb8,-⟩;have HF:=hide (HEND.out w8 (hbk.trans hb8));go_wp2;go_ret;exact HF.out
 ·go_wp2_with fail;refine(Go.Proofs.Tryz.Builder_WriteByte_k w3.heap.size w3.heap.size [] 45 _ HBU.out (by decide) (by simp)).mono ?_;rintro e wb ⟨rfl,hbu2,hbb2,-⟩;have HBF:Hid (Lib.IsBuilderF 165 5 w3.heap.size w3.heap.size (Lib.byteCells (sgnB true)) wb):=.inr hbu2;replace hbb:=hbb.trans hbb2;clear hbu2 hbb2;have hctb:=HCT.out _ hbb;go_wp2_with fail;clear hctb q0;refine(HIT.out wb gn hbb (by omega) (by omega)).mono ?_;rintro e w5 ⟨rfl,hb5⟩;go_wp2_with fail;refine(Go.Proofs.Tryz.Builder_WriteString_k w3.heap.size w3.heap.size _ _ _ (zcA HBF.out hb5) (by simp [Lib.byteCells,sgnB,ByteArray.size];omega) (by have:=hbb.size;have:=hb5.size;omega)).mono ?_;rintro e w6 ⟨rfl,hbu6,hb6,-⟩;have hs6:(Lib.byteCells (sgnB true)++Lib.strCells ⟨(Lib.decDigits gn).toArray⟩)=Lib.byteCells (sgnB true++Lib.decDigits (gv (gs.drop (top-0))).toNat):=by
   rw [Nat.sub_zero,HT0.out,Lib.byteCells_append];rfl
  rw [hs6] at hbu6;have HB6:=hide (show Lib.IsBuilderF 165 5 w3.heap.size w3.heap.size _ w6 from .inr hbu6);have hbw6:=(hbb.trans (hb5.mono hbb.size)).trans hb6;have hll:(sgnB true++Lib.decDigits (gv (gs.drop (top-0))).toNat).length≤1000000100:=by rw [Nat.sub_zero,HT0.out];simp [sgnB];omega
  clear hbu6 hs6 hb6 hb5 HBF HBU hbb;go_wp2;go_loopw [25] (fun i wr=>∃ k:Nat,k≤top∧i=.int .i64 k∧Hid (Lib.IsBuilderF 165 5 w3.heap.size w3.heap.size (Lib.byteCells (sgnB true++Lib.decDigits (gv (gs.drop (top-k))).toNat)) wr)∧Below w3.heap.size w3 wr∧(sgnB true++Lib.decDigits (gv (gs.drop (top-k))).toNat).length≤1000000100+9*k) (fun i _=>top-(intOf i).toNat)
  case atStart=>exact⟨0,Nat.zero_le _,rfl,HB6,hbw6,hll⟩
  case round=>
   obtain⟨k,hk,rfl,HBK,hbk,hlk⟩:=hrel;by_cases hlt:k<top
   ·obtain⟨p,hp⟩:∃ p,p=top-1-k:=⟨_,rfl⟩;have hP:(top:Int)-1-(k:Int)=(p:Int):=by omega
    have hpl:p<top+1:=by omega
    have hcp:=(hbk.cell (p:=⟨g,p,none⟩) hglt).trans (HC.out p hpl);have hg:=HG.out p hpl;have HST:=hide (HTXT.out p (by have:=HTop.out;omega));have HKE:=hide (show top-k=p+1 by omega);have HKE2:=hide (show top-(k+1)=p by omega);obtain⟨q,hq⟩:∃ q:Nat,gs.getD p 0=(q:Int):=Int.eq_ofNat_of_zero_le hg.1;rw [hq] at hcp hg HST;clear hp hq;go_wp2_with fail;rw [show(1000000000:Int)+(q:Int)=((1000000000+q:Nat):Int) by omega];refine(HIT.out wr (1000000000+q) hbk (by omega) (by omega)).mono ?_;rintro e w7 ⟨rfl,hb7⟩;have hdq:=(zdx (1000000000+q)).2;have HN9:=hide (nine q (by omega));obtain⟨s,HSs⟩:∃ s:ByteArray,Hid (s=⟨(Lib.decDigits (1000000000+q)).toArray⟩):=⟨_,rfl⟩;have hs1:1≤s.size:=by rw [HSs.out];simpa [ByteArray.size] using hdq
    rw [← HSs.out];have hcell9:Lib.strCells (s.extract 1 s.size)=Lib.byteCells (pad 9 q):=by
     rw [Lib.strCells_eq,Lib.extract_to_end,HSs.out];show Lib.byteCells ((Lib.decDigits (1000000000+q)).toArray.toList.drop 1)=_;rw [List.toList_toArray,HN9.out]
    have hsz9:(s.extract 1 s.size).size=9:=by
     have:=Lib.strCells_length (s.extract 1 s.size);rw [hcell9,Lib.byteCells_length,zc9] at this;exact this.symm
    have HC9:=hide hcell9;have HZ9:=hide hsz9;clear hcell9 hsz9 hdq;go_wp2_with fail;refine(Go.Proofs.Tryz.Builder_WriteString_k w3.heap.size w3.heap.size _ _ _ (zcA HBK.out hb7) (by rw [HZ9.out,Lib.byteCells_length];omega) (by have:=hbk.size;have:=hb7.size;omega)).mono ?_;rintro e w8 ⟨rfl,hbu8,hb8,-⟩;rw [HC9.out,← Lib.byteCells_append,List.append_assoc,HKE.out] at hbu8;have hst:=HST.out;rw [Int.toNat_natCast] at hst;rw [← hst] at hbu8;have HB8:Hid (Lib.IsBuilderF 165 5 w3.heap.size w3.heap.size (Lib.byteCells (sgnB true++Lib.decDigits (gv (gs.drop (top-(k+1)))).toNat)) w8):=by rw [HKE2.out];exact .inr hbu8
    have hbw8:=(hbk.trans (hb7.mono hbk.size)).trans hb8;have hl8:(sgnB true++Lib.decDigits (gv (gs.drop (top-(k+1)))).toNat).length≤1000000100+9 *(k+1):=by
     rw [HKE2.out,hst,← List.append_assoc,List.length_append,zc9];rw [HKE.out] at hlk;omega
    clear hbu8 hst hb8 hb7 HST;go_wp2;go_roundw
    case rel=>exact⟨k+1,by omega,by go_num,HB8,hbw8,hl8⟩
    case measure=>simp [intOf];omega
   ·obtain rfl:k=top:=by omega
    rw [Nat.sub_self] at HBK;go_wp2_with fail;refine(Go.Proofs.Tryz.Builder_String_any_k w3.heap.size w3.heap.size _ _ HBK.out hbk.size).mono ?_;rintro e w8 ⟨rfl,-,hb8,-⟩;have HF:=hide (HEND.out w8 (hbk.trans hb8));go_wp2;go_ret;exact HF.out
end Go.Proofs.YtdedolkgcdlmeaaGreatDoor
/- strconv.Itoa in general, laid at this translation. -/
namespace Go.Proofs
open Go.Shelf Go.RowKit Go.Sort
def Tryz.laysM171_ren:Go.Shelf.Ren:=⟨fun | 171=>120 | 243=>139 | 246=>155 | 283=>161 | 284=>162 | 285=>163 | 286=>164 | 129=>166 | 317=>165 | 318=>167 | 319=>168 | 320=>169 | 337=>170 | 338=>171 | n=>n,fun | 3=>3 | 9=>9 | 2=>2 | 4=>4 | 171=>200 | 0=>0 | 53=>140 | 37=>163 | 5=>5 | 173=>203 | 212=>207 | 51=>104 | 20=>20 | 213=>208 | 46=>142 | 232=>210 | 233=>211 | n=>n,fun | 17=>2 | 18=>3 | 19=>4 | n=>n⟩
theorem Tryz.laysM171:Go.Proofs.LaysM.n171 Tryz.prog Tryz.laysM171_ren:={
 mixed:=by kernel_rfl
 f129:=Tryz.func166.trans (congrArg some (by kernel_rfl))
 f171:=Tryz.func120.trans (congrArg some (by kernel_rfl))
 f243:=Tryz.func139.trans (congrArg some (by kernel_rfl))
 f246:=Tryz.func155.trans (congrArg some (by kernel_rfl))
 f283:=Tryz.func161.trans (congrArg some (by kernel_rfl))
 f284:=Tryz.func162.trans (congrArg some (by kernel_rfl))
 f285:=Tryz.func163.trans (congrArg some (by kernel_rfl))
 f286:=Tryz.func164.trans (congrArg some (by kernel_rfl))
 f317:=Tryz.func165.trans (congrArg some (by kernel_rfl))
 f318:=Tryz.func167.trans (congrArg some (by kernel_rfl))
 f319:=Tryz.func168.trans (congrArg some (by kernel_rfl))
 f320:=Tryz.func169.trans (congrArg some (by kernel_rfl))
 f337:=Tryz.func170.trans (congrArg some (by kernel_rfl))
 f338:=Tryz.func171.trans (congrArg some (by kernel_rfl))
 t0:=Tryz.underlying0
 a0:=Tryz.isAgg0
 z0:=Tryz.sizeOf0
 v0:=Tryz.zeroValue0
 t2:=Tryz.underlying2
 a2:=Tryz.isAgg2
 z2:=Tryz.sizeOf2
 v2:=Tryz.zeroValue2
 t3:=Tryz.underlying3
 a3:=Tryz.isAgg3
 z3:=Tryz.sizeOf3
 v3:=Tryz.zeroValue3
 t4:=Tryz.underlying4
 a4:=Tryz.isAgg4
 z4:=Tryz.sizeOf4
 v4:=Tryz.zeroValue4
 t5:=Tryz.underlying5
 a5:=Tryz.isAgg5
 z5:=Tryz.sizeOf5
 v5:=Tryz.zeroValue5
 t9:=Tryz.underlying9
 a9:=Tryz.isAgg9
 z9:=Tryz.sizeOf9
 v9:=Tryz.zeroValue9
 t20:=Tryz.underlying20
 a20:=Tryz.isAgg20
 z20:=Tryz.sizeOf20
 v20:=Tryz.zeroValue20
 t37:=Tryz.underlying163
 a37:=Tryz.isAgg163
 z37:=Tryz.sizeOf163
 v37:=Tryz.zeroValue163
 t46:=Tryz.underlying142
 a46:=Tryz.isAgg142
 z46:=Tryz.sizeOf142
 v46:=Tryz.zeroValue142
 t51:=Tryz.underlying104
 a51:=Tryz.isAgg104
 z51:=Tryz.sizeOf104
 v51:=Tryz.zeroValue104
 t53:=Tryz.underlying140
 a53:=Tryz.isAgg140
 z53:=Tryz.sizeOf140
 v53:=Tryz.zeroValue140
 t171:=Tryz.underlying200
 a171:=Tryz.isAgg200
 z171:=Tryz.sizeOf200
 v171:=Tryz.zeroValue200
 t173:=Tryz.underlying203
 a173:=Tryz.isAgg203
 z173:=Tryz.sizeOf203
 v173:=Tryz.zeroValue203
 t212:=Tryz.underlying207
 a212:=Tryz.isAgg207
 z212:=Tryz.sizeOf207
 v212:=Tryz.zeroValue207
 t213:=Tryz.underlying208
 a213:=Tryz.isAgg208
 z213:=Tryz.sizeOf208
 t232:=Tryz.underlying210
 a232:=Tryz.isAgg210
 z232:=Tryz.sizeOf210
 v232:=Tryz.zeroValue210
 t233:=Tryz.underlying211
 a233:=Tryz.isAgg211
 z233:=Tryz.sizeOf211
 v233:=Tryz.zeroValue211
 g17:=by kernel_rfl
 g18:=by kernel_rfl
 g19:=by kernel_rfl
 i0:=by kernel_rfl
 i2:=by kernel_rfl
 i3:=by kernel_rfl
 i4:=by kernel_rfl
 i5:=by kernel_rfl
 i9:=by kernel_rfl
 i20:=by kernel_rfl
 i37:=by kernel_rfl
 i46:=by kernel_rfl
 i51:=by kernel_rfl
 i53:=by kernel_rfl
 i171:=by kernel_rfl
 i173:=by kernel_rfl
 i212:=by kernel_rfl
 i232:=by kernel_rfl
 i233:=by kernel_rfl
 m17:=by kernel_rfl
 m18:=by kernel_rfl
 m19:=by kernel_rfl }
open Go.RowKit Go.Sort Go.Lib in
theorem Tryz.strconv_Itoa (n : Int) (h0 : -9223372036854775808 ≤ n) (h1 : n ≤ 9223372036854775807) (w : World) (htab : Lib.TabIs Tryz.prog w "internal/strconv.uint64pow10" .u64 Lib.pow10Tab) :
  Calls Tryz.prog 120 #[.int .i64 n] w fun e w'=>e=.returned (.string ⟨(Lib.itoa n).toArray⟩)∧∃ k os,w'=grow (w.drewN k) os:=Any.strconv_Itoa Tryz.laysM171 n h0 h1 w htab
end Go.Proofs
/- The text of a number of any size, where the library's table of powers of ten is laid. -/
namespace Go.Proofs.YtdedolkgcdlmeaaGreatDoor
open Go.RowKit Limbs
variable {w:World}
def Tab (w : World) : Prop := Lib.TabIs Tryz.prog w "internal/strconv.uint64pow10" .u64 Lib.pow10Tab
theorem Tab.below{w':World}(h:Tab w)(hb:Below w.heap.size w w'):Tab w':=by
 unfold Tab Lib.TabIs World.var? at h ⊢
 obtain ⟨g, hg⟩ : ∃ g, Tryz.prog.globalNamed "internal/strconv.uint64pow10" = some g := by
  cases hg : Tryz.prog.globalNamed "internal/strconv.uint64pow10" with
  | none=>rw [hg] at h;cases h
  | some g=>exact⟨g,rfl⟩
 rw [hg] at h ⊢;simp only [Option.bind_some] at h ⊢;have hlt:g<w.heap.size:=by
  rcases Nat.lt_or_ge g w.heap.size with h' | h'
  ·exact h'
  ·rw [Array.getElem?_eq_none h'] at h;cases h
 rw [hb.block g hlt];exact h
theorem zjY(ht:Tab w)(z:Int):ItoaOk w z:=fun W k hb hk _=>by
 refine(Go.Proofs.Tryz.strconv_Itoa k (by omega) (by omega) W (ht.below hb)).mono ?_;rintro e w' ⟨rfl,n,os,rfl⟩;refine⟨by rw [Lib.itoa_nonneg],rfl,rfl,rfl,by simp [Go.Sort.grow],fun j hj=>?_⟩;simp [Go.Sort.grow,Array.getElem?_append,hj]
theorem zl7 (w:World)(va:Value)(z:Int)(n:Nat)(ht:Tab w)(ha:NumL w va z n)(hn:n≤900000)(hz:z≠0):
  Calls Tryz.prog 92 #[va] w fun e w'=>TextPost w z e w':=zl8 w va z n ha hn hz (zjY ht z)
theorem zmo:txt 0=[48]:=by
 unfold txt Lib.itoa;rw [if_neg (by decide),show(0:Int).toNat=0 from rfl,Lib.decDigits,dif_pos (by decide)];rfl
theorem zma (w:World)(va:Value)(n:Nat)(ha:NumL w va 0 n):
  Calls Tryz.prog 92 #[va] w fun e w'=>TextPost w 0 e w':=by
 have HA:=hide ha;obtain⟨⟨an,ao,al,ac⟩,rfl⟩:=ha.nm;dsimp only at *;clear ha;have hb0:Box (w.alloc (.cells #[.bool an,.slice ao al ac] 29)) w.heap.size (.bool an) (.slice ao al ac):=zg w _ _ _ _ rfl;have HW:Hid (Below w.heap.size w (w.alloc (.cells #[.bool an,.slice ao al ac] 29))):=(zB _ _).alloc zL _;obtain⟨k0,k1,-,-⟩:=hb0;go_enter Tryz.func92,Tryz.ntmps92;go_wp2_with fail;refine(zat _ _ 0 n (HA.out.below HW.out zL)).mono ?_;rintro e w1 ⟨rfl,hb⟩;rw [decide_eq_true rfl];have HF:Hid (TextPost w 0 (.returned (.string ⟨#[48]⟩)) w1):=⟨by rw [zmo],HW.out.trans (hb.mono HW.out.size)⟩;clear hb;go_wp2;go_ret;exact HF.out
theorem zl6 (w:World)(va:Value)(z:Int)(n:Nat)(ht:Tab w)(ha:NumL w va z n)(hn:n≤900000):
  Calls Tryz.prog 92 #[va] w fun e w'=>TextPost w z e w':=by
 by_cases hz:z=0
 ·subst hz;exact zma w va n ha
 ·exact zl7 w va z n ht ha hn hz
end Go.Proofs.YtdedolkgcdlmeaaGreatDoor
/- strings.Join, Count, Split, laid at this translation. -/
namespace Go.Proofs
open Go.Shelf Go.RowKit
def Tryz.lays156_ren:Go.Shelf.Ren:=⟨fun | 156=>93 | 165=>122 | 166=>119 | 169=>121 | 240=>138 | 241=>140 | 276=>154 | 277=>156 | n=>n,fun | 31=>136 | 9=>9 | 3=>3 | 4=>4 | 0=>0 | 20=>20 | 72=>165 | 76=>167 | 70=>162 | 37=>163 | 75=>31 | 127=>185 | 164=>194 | 5=>5 | 80=>170 | n=>n,fun | n=>n⟩
theorem Tryz.lays156:Go.Proofs.Lays.n156 Tryz.prog Tryz.lays156_ren:={
 mixed:=by kernel_rfl
 f156:=Tryz.func93.trans (congrArg some (by kernel_rfl))
 f165:=Tryz.func122.trans (congrArg some (by kernel_rfl))
 f166:=Tryz.func119.trans (congrArg some (by kernel_rfl))
 f169:=Tryz.func121.trans (congrArg some (by kernel_rfl))
 f240:=Tryz.func138.trans (congrArg some (by kernel_rfl))
 f241:=Tryz.func140.trans (congrArg some (by kernel_rfl))
 f276:=Tryz.func154.trans (congrArg some (by kernel_rfl))
 f277:=Tryz.func156.trans (congrArg some (by kernel_rfl))
 t0:=Tryz.underlying0
 a0:=Tryz.isAgg0
 z0:=Tryz.sizeOf0
 v0:=Tryz.zeroValue0
 t3:=Tryz.underlying3
 a3:=Tryz.isAgg3
 z3:=Tryz.sizeOf3
 v3:=Tryz.zeroValue3
 t4:=Tryz.underlying4
 a4:=Tryz.isAgg4
 z4:=Tryz.sizeOf4
 v4:=Tryz.zeroValue4
 t9:=Tryz.underlying9
 a9:=Tryz.isAgg9
 z9:=Tryz.sizeOf9
 v9:=Tryz.zeroValue9
 t20:=Tryz.underlying20
 a20:=Tryz.isAgg20
 z20:=Tryz.sizeOf20
 v20:=Tryz.zeroValue20
 t31:=Tryz.underlying136
 a31:=Tryz.isAgg136
 z31:=Tryz.sizeOf136
 v31:=Tryz.zeroValue136
 t37:=Tryz.underlying163
 a37:=Tryz.isAgg163
 z37:=Tryz.sizeOf163
 v37:=Tryz.zeroValue163
 t70:=Tryz.underlying162
 a70:=Tryz.isAgg162
 z70:=Tryz.sizeOf162
 v70:=Tryz.zeroValue162
 t72:=Tryz.underlying165
 a72:=Tryz.isAgg165
 z72:=Tryz.sizeOf165
 v72:=Tryz.zeroValue165
 t75:=Tryz.underlying31
 a75:=Tryz.isAgg31
 z75:=Tryz.sizeOf31
 v75:=Tryz.zeroValue31
 t76:=Tryz.underlying167
 a76:=Tryz.isAgg167
 z76:=Tryz.sizeOf167
 v76:=Tryz.zeroValue167
 t127:=Tryz.underlying185
 a127:=Tryz.isAgg185
 z127:=Tryz.sizeOf185
 v127:=Tryz.zeroValue185
 t164:=Tryz.underlying194
 a164:=Tryz.isAgg194
 z164:=Tryz.sizeOf194
 v164:=Tryz.zeroValue194 }
theorem Tryz.Builder_Extra_156:Builder.Extra Tryz.prog Tryz.lays156_ren:={
 sizeBuilder:=by kernel_rfl
 liesBuilder:=by kernel_rfl
 t5:=Tryz.underlying5
 a5:=Tryz.isAgg5
 z5:=Tryz.sizeOf5
 v5:=Tryz.zeroValue5
 infoByte:=by kernel_rfl
 cellsByte:=by kernel_rfl
 sizeByte:=by kernel_rfl
 neB5:=by decide }
open Go.RowKit in
theorem Tryz.strings_Join (bk o c:Nat)(xs:List ByteArray)(sep:ByteArray)(w:World)(hcells:∀(j:Nat) x,xs[j]?=some x→w.cell? ⟨bk,o+j,none⟩=some (.string x))(hbk:bk<w.heap.size)(hN:xs.length≤140737488355328)(hcap:xs.length≤c)(hlen:(Lib.join (xs.map (·.data.toList)) sep.data.toList).length≤140737488355328):
  Calls Tryz.prog 93 #[.slice (some ⟨bk,o,none⟩) xs.length c,.string sep] w fun e w'=>e=.returned (.string ⟨(Lib.join (xs.map (·.data.toList)) sep.data.toList).toArray⟩)∧Below w.heap.size w w':=Any.strings_Join Tryz.lays156 Tryz.Builder_Extra_156 bk o c xs sep w hcells hbk hN hcap hlen
end Go.Proofs
/- Texts put together with one byte between, and cut at it again. No Go in it. -/
namespace Go.Proofs.YtdedolkgcdlmeaaGreatDoor
open Go
end Go.Proofs.YtdedolkgcdlmeaaGreatDoor
