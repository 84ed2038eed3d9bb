import Derived.Test.YtdedolkgcdlmeaaGreatDoorAddSub
set_option maxHeartbeats 800000
namespace Go.Proofs.YtdedolkgcdlmeaaGreatDoor
open Go.RowKit Limbs
variable{w wr W:World}{zs a b:List Int}{i n B j:Nat}{v u0 u1 u x a0 a1 b0 b1 r0 r1:Value}{z cy:Int}
def MulInv (w wr:World)(a b:List Int)(i j:Nat)(cy:Int)(zs:List Int):Prop:=
 zs.length=a.length+b.length∧Row wr w.heap.size zs∧Below w.heap.size w wr ∧
  lv zs+bp (i+j)*cy=lv (a.take i)*lv b+bp i *(a.getD i 0*lv (b.take j))∧∀ t,i+b.length≤t→zs.getD t 0=0
def MulOut (w wr:World)(a b:List Int)(i:Nat)(zs:List Int):Prop:=
 zs.length=a.length+b.length∧Row wr w.heap.size zs∧Below w.heap.size w wr ∧
  lv zs=lv (a.take i)*lv b∧∀ t,i+b.length≤t→zs.getD t 0=0
theorem zdG (n t:Nat):(List.replicate n (0:Int)).getD t 0=0:=by
 rw [List.getD_eq_getElem?_getD];by_cases h:t<n
 ·simp [h]
 ·simp [h]
theorem MulOut.start (w:World)(a b:List Int):MulOut w (w.alloc (.cells (madeCells #[.int .u32 0] (a.length+b.length)) 104)) a b 0 (List.replicate (a.length+b.length) 0):=
 ⟨List.length_replicate,Row.made w _,(Below.refl _ _).alloc (Nat.le_refl _) _,by simp [lv,zi8],fun _ _=>zdG _ _⟩
theorem MulOut.inner(h:MulOut w wr a b i zs):MulInv w wr a b i 0 0 zs:=by
 obtain⟨h1,h2,h3,h4,h5⟩:=h;exact⟨h1,h2,h3,by simp [lv,h4],h5⟩
theorem MulInv.drewN(h:MulInv w wr a b i j cy zs)(n:Nat):MulInv w (wr.drewN n) a b i j cy zs:=by
 obtain⟨h1,h2,h3,h4,h5⟩:=h;exact⟨h1,h2,zZ h3 n,h4,h5⟩
theorem MulInv.step(h:MulInv w wr a b i j cy zs)(hi:i<a.length)(hj:j<b.length){T:Int}(hT:T=cy+(a.getD i 0*b.getD j 0+zs.getD (i+j) 0)):
  MulInv w (wr.setCell ⟨w.heap.size,i+j,none⟩ (.int .u32 (T%4294967296))) a b i (j+1) (T/4294967296) (zs.set (i+j) (T%4294967296)):=by
 obtain⟨h1,h2,h3,h4,h5⟩:=h;refine⟨by rw [List.length_set];exact h1,h2.store (by omega) (by omega),h3.setCell (Nat.le_refl _) _,?_,fun t ht=>?_⟩
 ·rw [zfy _ _ _ (by omega),zD];have e:bp (i+j) *(T%4294967296+4294967296 *(T/4294967296))=bp (i+j)*T:=by rw [Int.emod_add_mul_ediv]
  have e2:bp (i+(j+1)) *(T/4294967296)=bp (i+j) *(4294967296 *(T/4294967296)):=by rw [← Nat.add_assoc];simp only [bp];rw [Int.mul_comm 4294967296 (bp (i+j)),Int.mul_assoc]
  have e3:bp (i+j) *(a.getD i 0*b.getD j 0)=bp i *(a.getD i 0 *(bp j*b.getD j 0)):=by
   rw [zbO,Int.mul_assoc,Int.mul_left_comm (bp j)]
  rw [e2,Int.mul_sub];rw [Int.mul_add] at e;rw [hT,Int.mul_add,Int.mul_add] at e;rw [← hT] at e;rw [Int.mul_add,Int.mul_add];omega
 ·rw [zQ _ _ _ _ (by omega),if_neg (by omega)];exact h5 t ht
theorem MulInv.done(h:MulInv w wr a b i b.length cy zs)(hi:i<a.length)(hc:0≤cy∧cy<4294967296):
  MulOut w (wr.setCell ⟨w.heap.size,i+b.length,none⟩ (.int .u32 cy)) a b (i+1) (zs.set (i+b.length) cy):=by
 obtain⟨h1,h2,h3,h4,h5⟩:=h;refine⟨by rw [List.length_set];exact h1,h2.store (by omega) hc,h3.setCell (Nat.le_refl _) _,?_,fun t ht=>?_⟩
 ·rw [zfy _ _ _ (by omega),zD,h5 _ (Nat.le_refl _),Int.sub_zero,h4,List.take_length,Int.add_mul,Int.mul_assoc]
 ·rw [zQ _ _ _ _ (by omega),if_neg (by omega)];exact h5 t (by omega)
theorem zdU{x y:Int}(hx:0≤x∧x<4294967296)(hy:0≤y∧y<4294967296):0≤x*y∧x*y≤18446744065119617025:=by
 have h1:x*y≤4294967295*4294967295:=Int.mul_le_mul (by omega) (by omega) hy.1 (by omega);exact⟨Int.mul_nonneg hx.1 hy.1,by omega⟩
theorem zjx (w:World)(va vb:Value)(a b:List Int)(ha:Lim w va a)(hb:Lim w vb b)(hla:a.length≤400000)(hlb:b.length≤400000):
  Calls Tryz.prog 99 #[va,vb] w fun e w'=>LimPost w (lv a*lv b) (a.length+b.length) e w':=by
 obtain⟨ao,acap,rfl,hacap,halen,halb,hac⟩:=ha;obtain⟨bo,bcap,rfl,hbcap,hblen,hblb,hbc⟩:=hb;have hmk:=zbc (a.length+b.length) (by omega);rw [Int.natCast_add] at hmk;go_enter Tryz.func99,Tryz.ntmps99;go_wp2;go_loopw [17] (fun i wr=>∃(k:Nat) (zs:List Int),k≤a.length∧i=.int .i64 k∧MulOut w wr a b k zs) (fun i _=>a.length-(intOf i).toNat)
 case atStart=>exact⟨0,_,Nat.zero_le _,rfl,MulOut.start w a b⟩
 case round=>
  obtain⟨i,zs,hi,rfl,hout⟩:=hrel;by_cases hlt:i<a.length
  ·obtain⟨wo,rfl⟩:∃ wo:World,wo=wr:=⟨_,rfl⟩;replace hac:=hac (by omega);obtain⟨ab,aoff,rfl,hab,hac⟩:=hac;have hai:=hac i hlt;clear hac;have hgx:=halb i;go_wp2;go_loopw [7,22] (fun c j wr=>∃(k:Nat) (cy:Int) (zs:List Int),k≤b.length∧j=.int .i64 k∧c=.int .u64 cy∧0≤cy∧cy<4294967296∧MulInv w wr a b i k cy zs) (fun _ j _=>b.length-(intOf j).toNat)
   case atStart=>exact⟨0,0,zs,Nat.zero_le _,rfl,rfl,by decide,by decide,hout.inner⟩
   case round=>
    obtain⟨j,cy,ys,hj,rfl,rfl,hc0,hc1,hinv⟩:=hrel;by_cases hjl:j<b.length
    ·replace hbc:=hbc (by omega);obtain⟨bb,boff,rfl,hbb,hbc⟩:=hbc;have hbj:=hbc j hjl;clear hbc;have hgy:=hblb j;have hgz:=hinv.2.1.2.1 (i+j);have hbe:=hinv.2.2.1;obtain⟨hcell,hfr⟩:=hinv.2.1.2.2 (i+j) (by have:=hinv.1;omega);have hca:wr.cell? ⟨ab,aoff+i,none⟩=some (.int .u32 (a.getD i 0)):=(hbe.cell (p:=⟨ab,aoff+i,none⟩) hab).trans hai;have hcb:wr.cell? ⟨bb,boff+j,none⟩=some (.int .u32 (b.getD j 0)):=(hbe.cell (p:=⟨bb,boff+j,none⟩) hbb).trans hbj;have hpr:=zdU hgx hgy;have hst:=hinv.step hlt hjl rfl;have hsz:=hinv.2.1.1;clear hai hbj;generalize a.getD i 0=x at *;generalize b.getD j 0=y at *;generalize ys.getD (i+j) 0=z at *;go_wp2
     go_quiet (fail)
     have hT0:0≤cy+(x*y+z):=by omega
     have hT1:cy+(x*y+z)<18446744073709551616:=by omega
     generalize cy+(x*y+z)=T at *;go_wp2;go_roundw
     case rel=>exact⟨j+1,T/4294967296,_,by omega,by go_num,rfl,by omega,by omega,hst.drewN _⟩
     case measure=>simp [intOf];omega
    ·obtain rfl:j=b.length:=by omega
     have hdo:=hinv.done hlt ⟨hc0,hc1⟩;obtain⟨hcell,hfr⟩:=hinv.2.1.2.2 (i+b.length) (by have:=hinv.1;omega);generalize ys.getD (i+b.length) 0=z at *;go_wp2;go_roundw
     case rel=>exact⟨i+1,_,by omega,by go_num,hdo⟩
     case measure=>simp [intOf];omega
  ·obtain rfl:i=a.length:=by omega
   have hl:=hout.1;have hv:Hid (lv zs=lv a*lv b):=by have:=hout.2.2.2.1;rw [List.take_length] at this;exact this
   go_wp2;go_ret;exact zdO hl hout.2.1 hout.2.2.1 hv.out (by omega) (Nat.le_refl _)
def NumL (w:World)(v:Value)(z:Int)(n:Nat):Prop:=
 ∃ neg s zs,v=.agg #[.bool neg,s]∧Lim w s zs∧Nrm zs∧(zs.length=0→neg=false)∧z=(if neg=true then-lv zs else lv zs)∧zs.length≤n
def NumPost (w:World)(z:Int)(n:Nat)(e:Ending)(w':World):Prop:=
 ∃ r,e=.returned r∧NumL w' r z n∧Below w.heap.size w w'
theorem NumL.below{w':World}(h:NumL w v z n)(hb:Below B w w')(hB:w.heap.size≤B):NumL w' v z n:=by
 obtain⟨neg,s,zs,h1,h2,h3⟩:=h;exact⟨neg,s,zs,h1,h2.below hb hB,h3⟩
theorem NumL.mono{m:Nat}(h:NumL w v z n)(hm:n≤m):NumL w v z m:=by
 obtain⟨neg,s,zs,h1,h2,h3,h4,h5,h6⟩:=h;exact⟨neg,s,zs,h1,h2,h3,h4,h5,Nat.le_trans h6 hm⟩
theorem z8 (w:World)(neg:Bool)(v:Value)(zs:List Int)(n:Nat)(h:Lim w v zs)(hn:zs.length≤n):
  Calls Tryz.prog 95 #[.bool neg,v] w fun e w'=>NumPost w (if neg=true then-lv zs else lv zs) n e w':=by
 have HL:Hid (Lim w v zs):=h;obtain⟨ao,cap,rfl,hcap,hlen,hlb,hc⟩:=h;clear hc;go_enter Tryz.func95,Tryz.ntmps95;go_wp2_with fail;refine(zej _ _ _ zs (HL.out.below ((Below.refl _ _).alloc (Nat.le_refl _) _) (Nat.le_refl _))).mono ?_;rintro e w' ⟨m,hm,rfl,hv,hnr,rfl⟩;have HV:Hid (lv (zs.take m)=lv zs):=hv;clear hv;have hl:(zs.take m).length=m:=by rw [List.length_take];omega
 have HL2:=HL.out.take m hm;cases neg
 ·have HF:Hid (NumPost w (lv zs) n (.returned (.agg #[.bool false,.slice ao m cap])) (w.alloc (Obj.cells #[Value.bool false,.slice ao m cap] 29))):=
   ⟨_,rfl,⟨false,_,zs.take m,rfl,HL2.below ((Below.refl _ _).alloc (Nat.le_refl _) _) (Nat.le_refl _),hnr,fun _=>rfl,HV.out.symm,by omega⟩,(Below.refl _ _).alloc (Nat.le_refl _) _⟩
  go_wp2;exact bodyPost_ret (v:=.agg #[.bool false,.slice ao m cap]) (by simp [results,Tryz.results95,go_sem]) rfl HF.out
 ·by_cases h0:m=0
  ·subst h0;have HF:Hid (NumPost w (-lv zs) n (.returned (.agg #[.bool false,.slice ao 0 cap])) (w.alloc (Obj.cells #[Value.bool false,.slice ao 0 cap] 29))):=
    ⟨_,rfl,⟨false,_,zs.take 0,rfl,HL2.below ((Below.refl _ _).alloc (Nat.le_refl _) _) (Nat.le_refl _),hnr,fun _=>rfl,by have:=HV.out;simp [lv] at this ⊢;omega,by omega⟩,(Below.refl _ _).alloc (Nat.le_refl _) _⟩
   go_wp2;exact bodyPost_ret (v:=.agg #[.bool false,.slice ao 0 cap]) (by simp [results,Tryz.results95,go_sem]) rfl HF.out
  ·have HF:Hid (NumPost w (-lv zs) n (.returned (.agg #[.bool true,.slice ao m cap])) (w.alloc (Obj.cells #[Value.bool true,.slice ao m cap] 29))):=
    ⟨_,rfl,⟨true,_,zs.take m,rfl,HL2.below ((Below.refl _ _).alloc (Nat.le_refl _) _) (Nat.le_refl _),hnr,fun h=>absurd h (by omega),by rw [if_pos rfl,HV.out],by omega⟩,(Below.refl _ _).alloc (Nat.le_refl _) _⟩
   have hd:decide (0<m)=true:=by simp;omega
   go_wp2;exact bodyPost_ret (v:=.agg #[.bool true,.slice ao m cap]) (by simp [results,Tryz.results95,go_sem]) rfl HF.out
def NewSl (w:World)(s:Value):Prop:=∀ a l c,s=.slice (some a) l c→w.heap.size≤a.block
def IntPost (w:World)(x:Int)(n:Nat)(e:Ending)(w':World):Prop:=NumPost w x n e w'∧∀ neg s,e=.returned (.agg #[.bool neg,s])→NewSl w s
def sg (neg:Bool)(z:Int):Int:=if neg=true then-z else z
theorem Lim.setCell(h:Lim w v zs){p:Addr}(hp:w.cell? p=some u)(hu:∀ z,u≠.int .u32 z):Lim (w.setCell p x) v zs:=by
 obtain⟨ao,cap,hv,h1,h2,h3,h4⟩:=h;refine⟨ao,cap,hv,h1,h2,h3,fun h0=>?_⟩;obtain⟨b,off,e,hlt,hc⟩:=h4 h0;refine⟨b,off,e,by simpa using hlt,fun i hi=>?_⟩;have hci:=hc i hi;refine Eq.trans (World.cell?_setCell_other (h:=fun e=>?_) ..) hci;rw [e,hci] at hp;exact hu _ (Option.some.inj hp).symm
theorem NumL.setCell(h:NumL w v z n){p:Addr}(hp:w.cell? p=some u)(hu:∀ z,u≠.int .u32 z):NumL (w.setCell p x) v z n:=by
 obtain⟨neg,s,zs,h1,h2,h3⟩:=h;exact⟨neg,s,zs,h1,h2.setCell hp hu,h3⟩
theorem boxed{w2:World}{rn:Bool}{rs:Value}(hr:NumL w2 (.agg #[.bool rn,rs]) z n)(c0:w2.cell? ⟨B,0,none⟩=some u0)(c1:w2.cell? ⟨B,1,none⟩=some u1)(hu0:∀ z,u0≠.int .u32 z)(hu1:∀ z,u1≠.int .u32 z)(hb:Below w.heap.size w w2)(hB:w.heap.size≤B):
  NumPost w z n (.returned (.agg #[.bool rn,rs])) ((w2.setCell ⟨B,0,none⟩ (.bool rn)).setCell ⟨B,1,none⟩ rs):=by
 refine⟨_,rfl,(hr.setCell c0 hu0).setCell (p:=⟨B,1,none⟩) (u:=u1) ?_ hu1,(hb.setCell (by exact hB) _).setCell (by exact hB) _⟩;exact Eq.trans (World.cell?_setCell_other (h:=fun e=>by simp at e) ..) c1
def Box (w:World)(B:Nat)(u0 u1:Value):Prop:=
 w.cell? ⟨B,0,none⟩=some u0∧w.cell? ⟨B,1,none⟩=some u1∧w.frozen? ⟨B,0,none⟩=false∧w.frozen? ⟨B,1,none⟩=false
theorem zf (W:World)(u0 u1:Value)(t:TypeId)(B:Nat)(hB:B=W.heap.size):Box (W.alloc (.cells #[u0,u1] t)) B u0 u1:=by
 subst hB;simp [Box]
theorem Box.later{w1:World}{C:Nat}(h:Box W B u0 u1)(hb:Below C W w1)(hB:B<C):Box w1 B u0 u1:=by
 obtain⟨h1,h2,h3,h4⟩:=h;exact⟨(hb.cell (p:=⟨B,0,none⟩) hB).trans h1,(hb.cell (p:=⟨B,1,none⟩) hB).trans h2,(hb.frozen (p:=⟨B,0,none⟩) hB).trans h3,(hb.frozen (p:=⟨B,1,none⟩) hB).trans h4⟩
theorem zey (w:World)(an:Bool)(va:Value)(a:List Int)(neg:Bool)(vb:Value)(b:List Int)(ha:Lim w va a)(hb:Lim w vb b)(na:Nrm a)(nb:Nrm b)(n:Nat)(hla:a.length≤n)(hlb:b.length≤n)(hn:n≤900000):
  Calls Tryz.prog 125 #[.agg #[.bool an,va],.bool neg,vb] w fun e w'=>NumPost w (sg an (lv a)+sg neg (lv b)) (n+1) e w':=by
 have HA:Hid (Lim w va a):=ha;have HB:Hid (Lim w vb b):=hb;obtain⟨ao,acap,rfl,hacap,halen,halb,hac⟩:=ha;obtain⟨bo,bcap,rfl,hbcap,hblen,hblb,hbc⟩:=hb;clear hac hbc;have hbel:∀ o1 o2,Below w.heap.size w ((w.alloc o1).alloc o2):=fun o1 o2=>((Below.refl _ _).alloc (Nat.le_refl _) _).alloc (by simp) _;by_cases hs:an=neg
 ·subst hs;go_enter Tryz.func125,Tryz.ntmps125;go_wp2_with fail;refine(zex _ _ _ a b (HA.out.below (hbel _ _) (Nat.le_refl _)) (HB.out.below (hbel _ _) (Nat.le_refl _)) (by omega) (by omega)).mono ?_;rintro e w1 ⟨v1,zs,rfl,hl1,hv1,hn1,hb1⟩;go_wp2_with fail;refine(z8 _ _ _ zs (n+1) hl1 (by omega)).mono ?_;rintro e w2 ⟨r,rfl,hr,hb2⟩;have hb12:=hb1.trans (hb2.mono hb1.size);have c0:w2.cell? ⟨w.heap.size+1,0,none⟩=some (.bool false):=(hb12.cell (p:=⟨w.heap.size+1,0,none⟩) (by simp)).trans (by simp);have c1:w2.cell? ⟨w.heap.size+1,1,none⟩=some (.slice none 0 0):=(hb12.cell (p:=⟨w.heap.size+1,1,none⟩) (by simp)).trans (by simp);have f0:w2.frozen? ⟨w.heap.size+1,0,none⟩=false:=(hb12.frozen (p:=⟨w.heap.size+1,0,none⟩) (by simp)).trans (by simp);have f1:w2.frozen? ⟨w.heap.size+1,1,none⟩=false:=(hb12.frozen (p:=⟨w.heap.size+1,1,none⟩) (by simp)).trans (by simp);have HR:=hide hr;obtain⟨rn,rs,rz,rfl,hl,-⟩:=hr;obtain⟨ro,rcap,rfl,-⟩:=hl;clear hl1;have HV:=hide hv1;clear hv1;have e:(if an=true then -lv zs else lv zs)=sg an (lv a)+sg an (lv b):=by rw [HV.out];unfold sg;split <;> omega
  rw [e] at HR;have HF:=hide (boxed (w:=w) HR.out c0 c1 (by simp) (by simp) ((hbel _ _).trans (hb12.mono (by simp;omega))) (by simp));clear hb12 hb1 hb2 HR e;go_wp2;exact bodyPost_ret (v:=.agg #[.bool rn,.slice ro rz.length rcap]) (by simp [results,Tryz.results125,go_sem,c0,c1]) rfl HF.out
 ·have hs1:(an==neg)=false:=by simpa using hs
  have hs2:neg=!an:=by cases an <;> cases neg <;> simp_all
  subst hs2;clear hs;by_cases hlt:lv a<lv b
  ·have hcm:=hide (zad hlt);go_enter Tryz.func125,Tryz.ntmps125;go_wp2_with fail;refine(zaS _ _ _ a b (HA.out.below (hbel _ _) (Nat.le_refl _)) (HB.out.below (hbel _ _) (Nat.le_refl _)) na nb).mono ?_;rintro e w0 ⟨rfl,hb0⟩;rw [hcm.out];have q1:w0.cell? ⟨w.heap.size,1,none⟩=some (.slice ao a.length acap):=(hb0.cell (p:=⟨w.heap.size,1,none⟩) (by simp;omega)).trans (by simp);have hbw:=(hbel _ _).trans (hb0.mono (by simp;omega));go_wp2_with fail;refine(zed _ _ _ b a (HB.out.below hbw (Nat.le_refl _)) (HA.out.below hbw (Nat.le_refl _)) na (by omega)).mono ?_;rintro e w1 ⟨v1,zs,rfl,hl1,hv1,hn1,hb1⟩;go_wp2_with fail;refine(z8 _ _ _ zs (n+1) hl1 (by omega)).mono ?_;rintro e w2 ⟨r,rfl,hr,hb2⟩;have hb12:=hb0.trans ((hb1.trans (hb2.mono hb1.size)).mono hb0.size);have c0:w2.cell? ⟨w.heap.size+1,0,none⟩=some (.bool false):=(hb12.cell (p:=⟨w.heap.size+1,0,none⟩) (by simp)).trans (by simp);have c1:w2.cell? ⟨w.heap.size+1,1,none⟩=some (.slice none 0 0):=(hb12.cell (p:=⟨w.heap.size+1,1,none⟩) (by simp)).trans (by simp);have f0:w2.frozen? ⟨w.heap.size+1,0,none⟩=false:=(hb12.frozen (p:=⟨w.heap.size+1,0,none⟩) (by simp)).trans (by simp);have f1:w2.frozen? ⟨w.heap.size+1,1,none⟩=false:=(hb12.frozen (p:=⟨w.heap.size+1,1,none⟩) (by simp)).trans (by simp);have HR:=hide hr;obtain⟨rn,rs,rz,rfl,hl,-⟩:=hr;obtain⟨ro,rcap,rfl,-⟩:=hl;clear hl1;have HV:=hide hv1;clear hv1;have e:(if (!an)=true then -lv zs else lv zs)=sg an (lv a)+sg (!an) (lv b):=by rw [HV.out];unfold sg;cases an <;> simp <;> omega
   rw [e] at HR;have HF:=hide (boxed (w:=w) HR.out c0 c1 (by simp) (by simp) ((hbel _ _).trans (hb12.mono (by simp;omega))) (by simp));clear hb12 hb1 hb2 HR e hbw hb0 q1;go_wp2;exact bodyPost_ret (v:=.agg #[.bool rn,.slice ro rz.length rcap]) (by simp [results,Tryz.results125,go_sem,c0,c1]) rfl HF.out
  ·have hcm:0≤cmpI (lv a) (lv b):=by unfold cmpI;rw [if_neg hlt];split <;> decide
   go_enter Tryz.func125,Tryz.ntmps125;go_wp2_with fail;refine(zaS _ _ _ a b (HA.out.below (hbel _ _) (Nat.le_refl _)) (HB.out.below (hbel _ _) (Nat.le_refl _)) na nb).mono ?_;rintro e w0 ⟨rfl,hb0⟩;generalize cmpI (lv a) (lv b)=cc at *;have q0:w0.cell? ⟨w.heap.size,0,none⟩=some (.bool an):=(hb0.cell (p:=⟨w.heap.size,0,none⟩) (by simp;omega)).trans (by simp);have q1:w0.cell? ⟨w.heap.size,1,none⟩=some (.slice ao a.length acap):=(hb0.cell (p:=⟨w.heap.size,1,none⟩) (by simp;omega)).trans (by simp);have hbw:=(hbel _ _).trans (hb0.mono (by simp;omega));have r0:w0.cell? ⟨w.heap.size+1,0,none⟩=some (.bool false):=(hb0.cell (p:=⟨w.heap.size+1,0,none⟩) (by simp)).trans (by simp);have r1:w0.cell? ⟨w.heap.size+1,1,none⟩=some (.slice none 0 0):=(hb0.cell (p:=⟨w.heap.size+1,1,none⟩) (by simp)).trans (by simp);have g0:w0.frozen? ⟨w.heap.size+1,0,none⟩=false:=(hb0.frozen (p:=⟨w.heap.size+1,0,none⟩) (by simp)).trans (by simp);have g1:w0.frozen? ⟨w.heap.size+1,1,none⟩=false:=(hb0.frozen (p:=⟨w.heap.size+1,1,none⟩) (by simp)).trans (by simp);have hz0:w.heap.size+1<w0.heap.size:=by have:=hb0.size;simp at this;omega
   go_wp2_with fail
   go_region_held3 (fun w'=>w'.cell? ⟨w.heap.size,0,none⟩=some (.bool an)∧w'.cell? ⟨w.heap.size,1,none⟩=some (.slice ao a.length acap)) (go_keep)
    (first
     |(go_at_call 128;refine(zed _ _ _ a b (HA.out.below (by exact hbw.drew) (Nat.le_refl _)) (HB.out.below (by exact hbw.drew) (Nat.le_refl _)) nb (by omega)).mono ?_;rintro e w1 ⟨v1,zs,rfl,hl1,hv1,hn1,hb1⟩;have p0:w1.cell? ⟨w.heap.size,0,none⟩=some (.bool an):=(hb1.cell (p:=⟨w.heap.size,0,none⟩) (by simp;omega)).trans q0;have p1:w1.cell? ⟨w.heap.size,1,none⟩=some (.slice ao a.length acap):=(hb1.cell (p:=⟨w.heap.size,1,none⟩) (by simp;omega)).trans q1;have HV:=hide hv1;clear hv1)
     |(go_at_call 95;refine(z8 _ _ _ zs (n+1) hl1 (by omega)).mono ?_;rintro e w2 ⟨r,rfl,hr,hb2⟩;have hb12:=hb1.trans (hb2.mono hb1.size);have p0':w2.cell? ⟨w.heap.size,0,none⟩=some (.bool an):=(hb12.cell (p:=⟨w.heap.size,0,none⟩) (by simp;omega)).trans q0;have p1':w2.cell? ⟨w.heap.size,1,none⟩=some (.slice ao a.length acap):=(hb12.cell (p:=⟨w.heap.size,1,none⟩) (by simp;omega)).trans q1;have c0:w2.cell? ⟨w.heap.size+1,0,none⟩=some (.bool false):=(hb12.cell (p:=⟨w.heap.size+1,0,none⟩) (by simp;omega)).trans r0;have c1:w2.cell? ⟨w.heap.size+1,1,none⟩=some (.slice none 0 0):=(hb12.cell (p:=⟨w.heap.size+1,1,none⟩) (by simp;omega)).trans r1;have f0:w2.frozen? ⟨w.heap.size+1,0,none⟩=false:=(hb12.frozen (p:=⟨w.heap.size+1,0,none⟩) (by simp;omega)).trans g0;have f1:w2.frozen? ⟨w.heap.size+1,1,none⟩=false:=(hb12.frozen (p:=⟨w.heap.size+1,1,none⟩) (by simp;omega)).trans g1;have HR:=hide hr;obtain⟨rn,rs,rz,rfl,hl,-⟩:=hr;obtain⟨ro,rcap,rfl,-⟩:=hl))
   have e:(if an=true then -lv zs else lv zs)=sg an (lv a)+sg (!an) (lv b):=by rw [HV.out];unfold sg;cases an <;> simp <;> omega
   rw [e] at HR;have HF:=hide (boxed (w:=w) HR.out c0 c1 (by simp) (by simp) (hbw.trans ((show Below w0.heap.size w0 w2 from⟨hb12.os,hb12.tape,hb12.output,hb12.size,hb12.block⟩).mono (by omega))) (by simp));clear hb12 hb1 hb2 HR e hbw hb0;go_wp2;exact bodyPost_ret (v:=.agg #[.bool rn,.slice ro rz.length rcap]) (by simp [results,Tryz.results125,go_sem,c0,c1]) rfl HF.out
theorem zgT (w:World)(va vb:Value)(x y:Int)(n:Nat)(ha:NumL w va x n)(hb:NumL w vb y n)(hn:n≤900000):
  Calls Tryz.prog 160 #[va,vb] w fun e w'=>NumPost w (x+y) (n+1) e w':=by
 obtain⟨an,sa,a,rfl,hla,nra,-,hx,hna⟩:=ha;obtain⟨bn,sb,b,rfl,hlb,nrb,-,hy,hnb⟩:=hb;have HA:=hide hla;have HB:=hide hlb;obtain⟨ao,acap,rfl,-⟩:=hla;obtain⟨bo,bcap,rfl,-⟩:=hlb;have hbel:∀ o1 o2 o3,Below w.heap.size w (((w.alloc o1).alloc o2).alloc o3):=fun o1 o2 o3=>(((Below.refl _ _).alloc (Nat.le_refl _) _).alloc (by simp) _).alloc (by simp;omega) _;have HX:=hide hx;clear hx;have HY:=hide hy;clear hy;go_enter Tryz.func160,Tryz.ntmps160;go_wp2_with fail;refine(zey _ _ _ a _ _ b (HA.out.below (hbel _ _ _) (Nat.le_refl _)) (HB.out.below (hbel _ _ _) (Nat.le_refl _)) nra nrb n hna hnb hn).mono ?_;rintro e w2 ⟨r,rfl,hr,hb2⟩;obtain⟨c0,c1,f0,f1⟩:=(zf _ _ _ _ (w.heap.size+2) (by simp)).later hb2 (by simp);have HR:=hide hr;obtain⟨rn,rs,rz,rfl,hl,-⟩:=hr;obtain⟨ro,rcap,rfl,-⟩:=hl;have e:sg an (lv a)+sg bn (lv b)=x+y:=by rw [HX.out,HY.out];rfl
 rw [e] at HR;have HF:=hide (boxed (w:=w) HR.out c0 c1 (by simp) (by simp) ((hbel _ _ _).trans (hb2.mono (by simp;omega))) (by simp));clear hb2 HR e;go_wp2;exact bodyPost_ret (v:=.agg #[.bool rn,.slice ro rz.length rcap]) (by simp [results,Tryz.results160,go_sem,c0,c1]) rfl HF.out
theorem Box.drew(h:Box w B u0 u1):Box w.drew B u0 u1:=h
structure Three (w W:World)(a0 a1 b0 b1 r0 r1:Value):Prop where
 fst:Box W w.heap.size a0 a1
 snd:Box W (w.heap.size+1) b0 b1
 res:Box W (w.heap.size+2) r0 r1
 below:Below w.heap.size w W
 size:w.heap.size+2<W.heap.size
theorem three (w:World)(a0 a1 b0 b1 r0 r1:Value)(t1 t2 t3:TypeId):Three w (((w.alloc (.cells #[a0,a1] t1)).alloc (.cells #[b0,b1] t2)).alloc (.cells #[r0,r1] t3)) a0 a1 b0 b1 r0 r1 where
 fst:=(zf w _ _ _ _ rfl).later (((Below.refl _ _).alloc (by simp) _).alloc (by simp) _:Below (w.heap.size+1) _ _) (by omega)
 snd:=(zf (w.alloc _) _ _ _ _ (by simp)).later ((Below.refl _ _).alloc (by simp) _:Below (w.heap.size+2) _ _) (by omega)
 res:=zf _ _ _ _ _ (by simp)
 below:=(((Below.refl _ _).alloc (Nat.le_refl _) _).alloc (by simp) _).alloc (by simp;omega) _
 size:=by simp
theorem Three.later{W':World}(h:Three w W a0 a1 b0 b1 r0 r1)(hb:Below W.heap.size W W'):Three w W' a0 a1 b0 b1 r0 r1 where
 fst:=h.fst.later hb (by have:=h.size;omega)
 snd:=h.snd.later hb (by have:=h.size;omega)
 res:=h.res.later hb h.size
 below:=h.below.trans (hb.mono h.below.size)
 size:=Nat.lt_of_lt_of_le h.size hb.size
theorem Three.drew(h:Three w W a0 a1 b0 b1 r0 r1):Three w W.drew a0 a1 b0 b1 r0 r1:=⟨h.fst,h.snd,h.res,h.below.drew,h.size⟩
theorem zkq (an bn:Bool)(p q:Int):(if (!(an==bn))=true then -(p*q) else p*q)=sg an p*sg bn q:=by
 unfold sg;cases an <;> cases bn <;> simp [Int.neg_mul,Int.mul_neg]
theorem zca (w:World)(va vb:Value)(x y:Int)(n m:Nat)(ha:NumL w va x n)(hb:NumL w vb y m)(hn:n≤400000)(hm:m≤400000):
  Calls Tryz.prog 57 #[va,vb] w fun e w'=>NumPost w (x*y) (n+m) e w':=by
 obtain⟨an,sa,a,rfl,hla,nra,-,hx,hna⟩:=ha;obtain⟨bn,sb,b,rfl,hlb,nrb,-,hy,hnb⟩:=hb;have HA:=hide hla;have HB:=hide hlb;obtain⟨ao,acap,rfl,-⟩:=hla;obtain⟨bo,bcap,rfl,-⟩:=hlb;have HX:=hide hx;clear hx;have HY:=hide hy;clear hy;go_enter Tryz.func57,Tryz.ntmps57;go_wp2_with fail;have hT:=three w (.bool an) (.slice ao a.length acap) (.bool bn) (.slice bo b.length bcap) (.bool false) (.slice none 0 0) 29 29 29;generalize ((w.alloc (.cells #[.bool an,.slice ao a.length acap] 29)).alloc (.cells #[.bool bn,.slice bo b.length bcap] 29)).alloc (.cells #[.bool false,.slice none 0 0] 29)=W at *;obtain⟨k0,k1,-,-⟩:=hT.fst;obtain⟨l0,l1,-,-⟩:=hT.snd;have hn2:¬(w.heap.size+1+1=w.heap.size):=by omega
 have hn3:¬(w.heap.size=w.heap.size+1+1):=by omega
 go_region_held3 (fun w'=>w'.cell? ⟨w.heap.size,0,none⟩=some (.bool an)∧w'.cell? ⟨w.heap.size,1,none⟩=some (.slice ao a.length acap)∧w'.cell? ⟨w.heap.size+1,0,none⟩=some (.bool bn)∧w'.cell? ⟨w.heap.size+1,1,none⟩=some (.slice bo b.length bcap)) (go_keep)
  (first
   |(go_at_call 99;refine(zjx _ _ _ a b (HA.out.below (by exact hT.below.drew) (Nat.le_refl _)) (HB.out.below (by exact hT.below.drew) (Nat.le_refl _)) (by omega) (by omega)).mono ?_;rintro e w1 ⟨v1,zs,rfl,hl1,hv1,hn1,hb1⟩;have HV:=hide hv1;clear hv1;have hT1:=hT.drew.later hb1;obtain⟨p0,p1,-,-⟩:=hT1.fst;obtain⟨q0,q1,-,-⟩:=hT1.snd)
   |(go_at_call 95;refine(z8 _ _ _ zs (n+m) hl1 (by omega)).mono ?_;rintro e w2 ⟨r,rfl,hr,hb2⟩;have hT2:=hT1.later hb2;obtain⟨p0',p1',-,-⟩:=hT2.fst;obtain⟨q0',q1',-,-⟩:=hT2.snd;obtain⟨c0,c1,f0,f1⟩:=hT2.res;have HR:=hide hr;obtain⟨rn,rs,rz,rfl,hl,-⟩:=hr;obtain⟨ro,rcap,rfl,-⟩:=hl))
 have e:(if (!(an==bn))=true then -lv zs else lv zs)=x*y:=by rw [HV.out,zkq,HX.out,HY.out];rfl
 rw [e] at HR;have HF:=hide (boxed (w:=w) HR.out c0 c1 (by simp) (by simp) hT2.below (by omega));clear hT hT1 hT2 hb1 hb2 HR e;go_wp2;exact bodyPost_ret (v:=.agg #[.bool rn,.slice ro rz.length rcap]) (by simp [results,Tryz.results57,go_sem,c0,c1]) rfl HF.out
theorem zam (w:World)(va:Value)(x:Int)(n:Nat)(ha:NumL w va x n):
  Calls Tryz.prog 14 #[va] w fun e w'=>e=.returned (.bool (decide (x=0)))∧Below w.heap.size w w':=by
 obtain⟨an,sa,a,rfl,hla,nra,hz,hx,hna⟩:=ha;obtain⟨ao,acap,rfl,-,hlen,hlb,-⟩:=hla;have e:decide (x=0)=decide (a.length=0):=by
  rw [decide_eq_decide,← zaI hlb nra,hx];split <;> omega
 rw [e];clear hx e;by_cases h0:a.length=0
 ·have h1:((a.length:Int)==0)=true:=by simp [h0]
  rw [decide_eq_true h0];clear h0;go_enter Tryz.func14,Tryz.ntmps14;go_wp2;go_ret;exact⟨rfl,(Below.refl _ _).alloc (Nat.le_refl _) _⟩
 ·have h1:((a.length:Int)==0)=false:=by rw [beq_eq_false_iff_ne];omega
  rw [decide_eq_false h0];go_enter Tryz.func14,Tryz.ntmps14;go_wp2;go_ret;exact⟨rfl,(Below.refl _ _).alloc (Nat.le_refl _) _⟩
theorem zb9(h:LB zs)(hn:Nrm zs)(h0:zs.length≠0):0<lv zs:=by
 have h1:=zF h;have h2:=zaI h hn;by_cases e:lv zs=0
 ·exact absurd (h2.1 e) h0
 ·omega
theorem zhp (a b:Int):cmpI b a=cmpI (-a) (-b):=by
 unfold cmpI
 repeat' split
 all_goals omega
theorem zhz (w:World)(va vb:Value)(x y:Int)(n m:Nat)(ha:NumL w va x n)(hb:NumL w vb y m):
  Calls Tryz.prog 91 #[va,vb] w fun e w'=>CmpPost w (cmpI x y) e w':=by
 obtain⟨an,sa,a,rfl,hla,nra,hza,hx,-⟩:=ha;obtain⟨bn,sb,b,rfl,hlb,nrb,hzb,hy,-⟩:=hb;have HA:=hide hla;have HB:=hide hlb;obtain⟨ao,acap,rfl,-,-,halb,-⟩:=hla;obtain⟨bo,bcap,rfl,-,-,hblb,-⟩:=hlb;have hpa:=zb9 halb nra;have hpb:=zb9 hblb nrb;have hqa:=zF halb;have hqb:=zF hblb;have hbel:∀ o1 o2,Below w.heap.size w ((w.alloc o1).alloc o2):=fun o1 o2=>((Below.refl _ _).alloc (Nat.le_refl _) _).alloc (by simp) _;cases an <;> cases bn
 ·have HX:Hid (cmpI (lv a) (lv b)=cmpI x y):=by show _=_;rw [hx,hy];rfl
  clear hx hy hza hzb hpa hpb;go_enter Tryz.func91,Tryz.ntmps91;go_wp2_with fail;refine(zaS _ _ _ a b (HA.out.below (hbel _ _) (Nat.le_refl _)) (HB.out.below (hbel _ _) (Nat.le_refl _)) nra nrb).mono ?_;rintro e w2 ⟨rfl,hb2⟩;go_wp2;go_ret;exact⟨zah HX.out,(hbel _ _).trans (hb2.mono (by simp;omega))⟩
 ·have HX:Hid (1=cmpI x y):=by
   have:0<lv b:=hpb (fun h=>by have:=hzb h;simp at this);show _=_;rw [zac];rw [hx,hy];simp;omega
  clear hx hy hza hzb hpa hpb;go_enter Tryz.func91,Tryz.ntmps91;go_wp2;go_ret;exact⟨zah HX.out,hbel _ _⟩
 ·have HX:Hid (-1=cmpI x y):=by
   have:0<lv a:=hpa (fun h=>by have:=hza h;simp at this);show _=_;rw [zad];rw [hx,hy];simp;omega
  clear hx hy hza hzb hpa hpb;go_enter Tryz.func91,Tryz.ntmps91;go_wp2;go_ret;exact⟨zah HX.out,hbel _ _⟩
 ·have HX:Hid (cmpI (lv b) (lv a)=cmpI x y):=by show _=_;rw [hx,hy];exact zhp _ _
  clear hx hy hza hzb hpa hpb;go_enter Tryz.func91,Tryz.ntmps91;go_wp2_with fail;refine(zaS _ _ _ b a (HB.out.below (hbel _ _) (Nat.le_refl _)) (HA.out.below (hbel _ _) (Nat.le_refl _)) nrb nra).mono ?_;rintro e w2 ⟨rfl,hb2⟩;go_wp2;go_ret;exact⟨zah HX.out,(hbel _ _).trans (hb2.mono (by simp;omega))⟩
theorem zcK (W:World)(lo hi:Int)(t:TypeId)(hlo:0≤lo∧lo<4294967296)(hhi:0≤hi∧hi<4294967296)(B:Nat)(hB:B=W.heap.size):Lim (W.alloc (.cells #[.int .u32 lo,.int .u32 hi] t)) (.slice (some ⟨B,0,none⟩) 2 2) [lo,hi]:=by
 subst hB;refine⟨_,2,rfl,Nat.le_refl _,by simp,zcm hlo (zcm hhi zaN),fun _=>⟨_,0,rfl,by simp,fun i hi=>?_⟩⟩;rcases(by simp at hi;omega:i=0∨i=1) with rfl | rfl <;> simp
theorem zcN (n:Int):lv [n%4294967296,n/4294967296]=n:=by simp only [lv];omega
theorem zaJ (w:World)(n:Int)(h0:-9223372036854775808≤n)(h1:n≤9223372036854775807):
  Calls Tryz.prog 53 #[.int .i64 n] w fun e w'=>NumPost w n 2 e w':=by
 by_cases hn:n<0
 ·have hw:IntKind.u64.wrap (-IntKind.u64.wrap n)=-n:=by rw [IntKind.wrap_u64,IntKind.wrap_u64];omega
  have hw2:-n/4294967296%4294967296=-n/4294967296:=by omega
  have HN:=hide (zcN (-n));go_enter Tryz.func53,Tryz.ntmps53;go_wp2_with fail;refine(z8 _ _ _ [-n%4294967296,-n/4294967296] 2 (zcK _ _ _ _ (by omega) (by omega) _ (by simp)) (Nat.le_refl _)).mono ?_;rintro e w2 ⟨r,rfl,hr,hb2⟩;obtain⟨c0,c1,f0,f1⟩:=Box.later (B:=w.heap.size) ((zf w _ _ _ _ rfl).later ((Below.refl _ _).alloc (by simp) _:Below (w.heap.size+1) _ _) (by omega)) hb2 (by simp;omega);rw [HN.out,if_pos rfl,Int.neg_neg] at hr;have HF:=hide (fun rn rs (h:NumL w2 (.agg #[.bool rn,rs]) n 2)=>boxed (w:=w) h c0 c1 (by simp) (by simp) ((((Below.refl _ _).alloc (Nat.le_refl _) _).alloc (by simp) _).trans (hb2.mono (by simp;omega))) (Nat.le_refl _));have HR:=hide hr;obtain⟨rn,rs,rz,rfl,hl,-⟩:=hr;obtain⟨ro,rcap,rfl,-⟩:=hl;clear hb2;go_wp2;exact bodyPost_ret (v:=.agg #[.bool rn,.slice ro rz.length rcap]) (by simp [results,Tryz.results53,go_sem,c0,c1]) rfl (HF.out _ _ HR.out)
 ·have HN:=hide (zcN n);go_enter Tryz.func53,Tryz.ntmps53;go_wp2_with fail;refine(z8 _ _ _ [n%4294967296,n/4294967296] 2 (zcK _ _ _ _ (by omega) (by omega) _ (by simp)) (Nat.le_refl _)).mono ?_;rintro e w2 ⟨r,rfl,hr,hb2⟩;obtain⟨c0,c1,f0,f1⟩:=Box.later (B:=w.heap.size) ((zf w _ _ _ _ rfl).later ((Below.refl _ _).alloc (by simp) _:Below (w.heap.size+1) _ _) (by omega)) hb2 (by simp;omega);rw [HN.out,if_neg (by decide)] at hr;have HF:=hide (fun rn rs (h:NumL w2 (.agg #[.bool rn,rs]) n 2)=>boxed (w:=w) h c0 c1 (by simp) (by simp) ((((Below.refl _ _).alloc (Nat.le_refl _) _).alloc (by simp) _).trans (hb2.mono (by simp;omega))) (Nat.le_refl _));have HR:=hide hr;obtain⟨rn,rs,rz,rfl,hl,-⟩:=hr;obtain⟨ro,rcap,rfl,-⟩:=hl;clear hb2;go_wp2;exact bodyPost_ret (v:=.agg #[.bool rn,.slice ro rz.length rcap]) (by simp [results,Tryz.results53,go_sem,c0,c1]) rfl (HF.out _ _ HR.out)
def isNum (neg:Bool)(zs:List Int):Bool:=if zs.length=0 then !neg else zs.getD (zs.length-1) 0 != 0
def checked (b:Bool):Value:=if b=true then .nilIface else .iface 102 (.int .i64 3)
theorem zhk (w:World)(neg:Bool)(s:Value)(zs:List Int)(hl:Lim w s zs):
  Calls Tryz.prog 123 #[.agg #[.bool neg,s]] w fun e w'=>e=.returned (checked (isNum neg zs))∧Below w.heap.size w w':=by
 obtain⟨ao,acap,rfl,-,hlen,hlb,hc⟩:=hl;by_cases h0:zs.length=0
 ·have hb:((zs.length:Int)==0)=true:=by simp [h0]
  have e:isNum neg zs=!neg:=by unfold isNum;rw [if_pos h0]
  rw [e];clear hc h0 e;cases neg
  ·go_enter Tryz.func123,Tryz.ntmps123;go_wp2;go_ret;exact⟨rfl,(Below.refl _ _).alloc (Nat.le_refl _) _⟩
  ·go_enter Tryz.func123,Tryz.ntmps123;go_wp2;go_ret;exact⟨rfl,(Below.refl _ _).alloc (Nat.le_refl _) _⟩
 ·have hb:((zs.length:Int)==0)=false:=by rw [beq_eq_false_iff_ne];omega
  obtain⟨b,off,rfl,hbb,hc⟩:=hc (by omega);have hcc:=hc (zs.length-1) (by omega);have hi:(zs.length:Int)-1=((zs.length-1:Nat):Int):=by omega
  obtain⟨k,hk⟩:∃ k,k=zs.length-1:=⟨_,rfl⟩;have hkl:k<zs.length:=by omega
  rw [← hk] at hi hcc;have e:isNum neg zs=(zs.getD k 0 != 0):=by unfold isNum;rw [if_neg h0,hk]
  rw [e];have hz:=hlb k;clear hc hk e;generalize zs.getD k 0=z at *;have hcc2:∀ o,(w.alloc o).cell? ⟨b,off+k,none⟩=some (.int .u32 z):=fun o=>((((Below.refl w.heap.size w).alloc (Nat.le_refl _) o).cell (p:=⟨b,off+k,none⟩) hbb)).trans hcc;by_cases hz0:z=0
  ·subst hz0;go_enter Tryz.func123,Tryz.ntmps123;go_wp2;go_ret;exact⟨rfl,(Below.refl _ _).alloc (Nat.le_refl _) _⟩
  ·have hz1:(z==0)=false:=by simp [hz0]
   have hz2:(z != 0)=true:=by simp [hz0]
   rw [hz2];go_enter Tryz.func123,Tryz.ntmps123;go_wp2;go_ret;exact⟨rfl,(Below.refl _ _).alloc (Nat.le_refl _) _⟩
theorem zA:(∀ (a:Act) (t:Nat) (v:Value),a.put (some t) v={a with tmps:=a.tmps.setIfInBounds t v})∧(∀ (a:Act) (v:Value),a.put none v=a)∧(∀ (α:Type) (l:List α) (i:Nat) (v:α),l.toArray.setIfInBounds i v=(l.set i v).toArray)∧(∀ (α:Type) (x:α) (l:List α) (v:α),(x :: l).set 0 v=v :: l)∧∀ (α:Type) (x:α) (l:List α) (n:Nat) (v:α),(x :: l).set (n+1) v=x :: l.set n v :=
 ⟨fun _ _ _=>rfl,fun _ _=>rfl,fun _ _ _ _=>List.setIfInBounds_toArray ..,fun _ _ _ _=>rfl,fun _ _ _ _ _=>rfl⟩
theorem zL:n≤n:=Nat.le_refl n
theorem zT{a b c:Nat}(h:a < b)(k:b≤c):a < c:=Nat.lt_of_lt_of_le h k
theorem zI.{u}{α:Type u}{a b:α}(h:some a=some b):a=b:=Option.some.inj h
theorem zB(B:Nat)(w:World):Below B w w:=Below.refl B w
theorem zV(a:Option Addr)(c e:Nat)(b:Option Addr)(d f:Nat):(Value.slice a c e=Value.slice b d f)=(a=b∧c=d∧e=f):=Value.slice.injEq ..
theorem zM{α β:Type}{l:List α}(f:α→β):(l.map f).length=l.length:=List.length_map ..
theorem zG{α:Type}{l:List α}{a:α}:l.getD i a=l[i]?.getD a:=by rw [List.getD_eq_getElem?_getD]
theorem zN{l:List Nat}{P:Nat→Prop}(h:l=[]):∀ j∈l,P j:=fun j hj=>by rw [h] at hj;cases hj
theorem zO{l:List Nat}{P:Nat→Prop}{a:Nat}(h:l=[a])(k:P a):∀ j∈l,P j:=fun j hj=>by
 rw [h] at hj;cases hj with
 | head=>exact k
 | tail _ h=>cases h
end Go.Proofs.YtdedolkgcdlmeaaGreatDoor
