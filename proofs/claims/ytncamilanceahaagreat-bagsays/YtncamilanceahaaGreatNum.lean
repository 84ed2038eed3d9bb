import Derived.Test.YtncamilanceahaaGreatTrim
set_option maxHeartbeats 800000
namespace Go.Proofs.YtncamilanceahaaGreat
open Go.RowKit Limbs
variable{w wr:World}{zs a b:List Int}{cy z:Int}{m n i k g B j:Nat}{v u x u0 u1:Value}
def Row (w:World)(g:Nat)(zs:List Int):Prop:=
 g<w.heap.size∧LB zs∧∀ j,j<zs.length→w.cell? ⟨g,j,none⟩=some (.int .u32 (zs.getD j 0))∧w.frozen? ⟨g,j,none⟩=false
theorem Tryz.infoU32:(Tryz.prog.info? 112).map (fun i=>(i.zero,i.size,i.bytes))=some (some (.int .u32 0),1,4):=by kernel_rfl
theorem zaR (m:Nat)(hm:m≤3000000)(W:World):(Instr.makeSlice 88 (.int .i64 (m:Int)) (.int .i64 (m:Int))).run Tryz.prog W=.ok (.slice (some ⟨W.heap.size,0,none⟩) m m) (W.alloc (.cells (madeCells #[.int .u32 0] m) 112)):=by
 obtain⟨i0,hi,hz0,hz1,hz2⟩:=info_parts Tryz.infoU32;have h:=run_make (P:=Tryz.prog) W 88 112 i0 (.int .u32 0) Tryz.underlying88 hi hz0 .i64 .i64 m m (by omega) (by omega) (by rw [hz2];omega) (by omega);rw [hz1,Int.toNat_natCast,Nat.mul_one] at h;exact h
theorem Row.made (w:World)(m:Nat):Row (w.alloc (.cells (madeCells #[.int .u32 0] m) 112)) w.heap.size (List.replicate m 0):=by
 refine⟨by simp,zfM m,fun j hj=>⟨?_,World.frozen?_alloc_new _ _ _ _⟩⟩;rw [List.length_replicate] at hj;rw [World.cell?_alloc_new];simp [madeCells,hj,Nat.mod_one,List.getD_eq_getElem?_getD]
theorem Row.store(h:Row w g zs)(hk:k<zs.length)(hz:0≤z∧z<4294967296):Row (w.setCell ⟨g,k,none⟩ (.int .u32 z)) g (zs.set k z):=by
 obtain⟨h1,h2,h3⟩:=h;refine⟨by simpa [World.setCell] using h1,zfN h2 k hz,fun j hj=>?_⟩;rw [List.length_set] at hj;obtain⟨c1,c2⟩:=h3 j hj;obtain⟨c3,c4⟩:=h3 k hk;rw [World.frozen?_setCell,zC zs k j z hk];refine⟨?_,c2⟩;by_cases e:j=k
 ·subst e;rw [if_pos rfl];exact World.cell?_setCell_same (h:=c3) ..
 ·rw [if_neg e,← c1];exact World.cell?_setCell_other (h:=fun h=>e (congrArg Addr.off h).symm) ..
theorem Row.lim(h:Row w g zs)(cap:Nat)(hc:zs.length≤cap)(hl:zs.length≤1000000):Lim w (.slice (some ⟨g,0,none⟩) zs.length cap) zs:=by
 obtain⟨h1,h2,h3⟩:=h;exact⟨_,cap,rfl,hc,hl,h2,fun _=>⟨g,0,rfl,h1,fun i hi=>by rw [Nat.zero_add];exact(h3 i hi).1⟩⟩
def LimPost (w:World)(z:Int)(n:Nat)(e:Ending)(w':World):Prop:=
 ∃ v zs,e=.returned v∧Lim w' v zs∧lv zs=z∧zs.length≤n∧Below w.heap.size w w'
def AddInv (w wr:World)(a b:List Int)(m k:Nat)(cy:Int)(zs:List Int):Prop:=
 zs.length=m∧Row wr w.heap.size zs∧Below w.heap.size w wr∧lv (zs.take k)+bp k*cy=lv (a.take k)+lv (b.take k)
theorem AddInv.start (w:World)(a b:List Int)(m:Nat):AddInv w (w.alloc (.cells (madeCells #[.int .u32 0] m) 112)) a b m 0 0 (List.replicate m 0):=
 ⟨List.length_replicate,Row.made w m,(Below.refl _ _).alloc (Nat.le_refl _) _,by simp [lv]⟩
theorem AddInv.step(h:AddInv w wr a b m k cy zs)(hk:k<m):
  AddInv w (wr.setCell ⟨w.heap.size,k,none⟩ (.int .u32 ((a.getD k 0+b.getD k 0+cy)%4294967296))) a b m (k+1) ((a.getD k 0+b.getD k 0+cy)/4294967296) (zs.set k ((a.getD k 0+b.getD k 0+cy)%4294967296)):=by
 obtain⟨h1,h2,h3,h4⟩:=h;refine⟨by rw [List.length_set];exact h1,h2.store (by omega) (by omega),h3.setCell (Nat.le_refl _) _,?_⟩;rw [zw,zw,zw,zau _ _ _ _ (Nat.le_refl _),zC _ _ _ _ (by omega),if_pos rfl];have e:bp k *((a.getD k 0+b.getD k 0+cy)%4294967296+4294967296 *((a.getD k 0+b.getD k 0+cy)/4294967296))=bp k *(a.getD k 0+b.getD k 0+cy):=by rw [Int.emod_add_mul_ediv]
 generalize (a.getD k 0+b.getD k 0+cy)%4294967296=s at *;generalize (a.getD k 0+b.getD k 0+cy)/4294967296=c at *;rw [Int.mul_add,Int.mul_add,Int.mul_add] at e;have e2:bp (k+1)*c=bp k *(4294967296*c):=by simp only [bp];rw [Int.mul_comm 4294967296 (bp k),Int.mul_assoc]
 rw [e2];omega
theorem AddInv.done(h:AddInv w wr a b m m cy zs)(hc:0≤cy∧cy≤1)(ha:LB a)(hb:LB b)(la:a.length<m)(lb:b.length<m):lv zs=lv a+lv b:=by
 obtain⟨h1,h2,h3,h4⟩:=h;rw [zah zs (by omega),zah a (by omega),zah b (by omega)] at h4;have e1:=zaq ha;have e2:=zaq hb;have e3:bp a.length≤bp (m-1):=zad (by omega);have e4:bp b.length≤bp (m-1):=zad (by omega);have e5:bp m=4294967296*bp (m-1):=by rw [← Nat.sub_add_cancel (show 1≤m by omega)];rfl
 have e6:=zF h2.2.1;have e7:=zQ (m-1);rcases(by omega:cy=0∨cy=1) with rfl | rfl
 ·omega
 ·omega
theorem zc8(hl:zs.length=m)(hr:Row wr w.heap.size zs)(hb:Below w.heap.size w wr)(hz:lv zs=z)(hm:m≤1000000)(hn:m≤n):LimPost w z n (.returned (.slice (some ⟨w.heap.size,0,none⟩) m m)) wr:=by
 subst hl;exact⟨_,zs,rfl,hr.lim _ (Nat.le_refl _) hm,hz,hn,hb⟩
theorem zdO (w:World)(va vb:Value)(a b:List Int)(ha:Lim w va a)(hb:Lim w vb b)(hla:a.length≤900000)(hlb:b.length≤900000):
  Calls Tryz.prog 84 #[va,vb] w fun e w'=>LimPost w (lv a+lv b) (max a.length b.length+1) e w':=by
 have HA:Hid (Lim w va a):=ha;have HB:Hid (Lim w vb b):=hb;obtain⟨ao,acap,rfl,hacap,halen,halb,hac⟩:=ha;obtain⟨bo,bcap,rfl,hbcap,hblen,hblb,hbc⟩:=hb;clear hac hbc;obtain⟨m,hm⟩:∃ m,m=max a.length b.length+1:=⟨_,rfl⟩;have hma:a.length<m:=by omega
 have hmb:b.length<m:=by omega
 have hm3:m≤900001:=by omega
 have hmk:=zaR m (by omega);rw [← hm];rcases(by omega:(a.length<b.length∧(b.length:Int)+1=(m:Int))∨(b.length≤a.length∧(a.length:Int)+1=(m:Int))) with⟨hab,e⟩ |⟨hab,e⟩
 all_goals
  clear hm;go_enter Tryz.func84,Tryz.ntmps84;go_wp2;go_loopw [6,17] (fun c i wr=>∃(k:Nat) (cy:Int) (zs:List Int),k≤m∧i=.int .i64 k∧c=.int .u32 cy∧0≤cy∧cy≤1∧AddInv w wr a b m k cy zs) (fun _ i _=>m-(intOf i).toNat)
  case atStart=>exact⟨0,0,_,Nat.zero_le _,rfl,rfl,by decide,by decide,AddInv.start w a b m⟩
  case round=>
   obtain⟨k,cy,zs,hk,rfl,rfl,hc0,hc1,hinv⟩:=hrel;by_cases hlt:k<m
   ·have hst:=hinv.step hlt;obtain⟨hcell,hfr⟩:=hinv.2.1.2.2 k (by have:=hinv.1;omega);have hLa:=HA.out.below hinv.2.2.1 (Nat.le_refl _);have hLb:=HB.out.below hinv.2.2.1 (Nat.le_refl _);have hgx:=halb k;have hgy:=hblb k;have hsz:=hinv.2.1.1;generalize zs.getD k 0=z0 at *;go_wp2_with fail;refine(zbG _ _ a k hLa (by omega) (by omega)).mono ?_;rintro e w' ⟨rfl,rfl⟩;rw [Int.toNat_natCast];generalize a.getD k 0=x at *;go_wp2_with fail;refine(zbG _ _ b k hLb (by omega) (by omega)).mono ?_;rintro e w' ⟨rfl,rfl⟩;rw [Int.toNat_natCast];generalize b.getD k 0=y at *;go_wp2_with fail;refine(add32 x y cy _ hgx hgy ⟨hc0,hc1⟩).mono ?_;rintro e w' ⟨rfl,rfl⟩;have hs0:0≤(x+y+cy)/4294967296:=by omega
    have hs1:(x+y+cy)/4294967296≤1:=by omega
    generalize (x+y+cy)%4294967296=s at *;generalize (x+y+cy)/4294967296=c at *;go_wp2;go_roundw
    case rel=>exact⟨k+1,c,_,by omega,by go_num,rfl,hs0,hs1,hst⟩
    case measure=>simp [intOf];omega
   ·obtain rfl:k=m:=by omega
    have hd:=hinv.done ⟨hc0,hc1⟩ halb hblb hma hmb;have hl:=hinv.1;go_wp2;go_ret;exact zc8 hl hinv.2.1 hinv.2.2.1 hd (by omega) (Nat.le_refl _)
def SubInv (w wr:World)(a b:List Int)(m k:Nat)(bw:Int)(zs:List Int):Prop:=
 zs.length=m∧Row wr w.heap.size zs∧Below w.heap.size w wr∧lv (zs.take k)-bp k*bw=lv (a.take k)-lv (b.take k)
theorem SubInv.start (w:World)(a b:List Int)(m:Nat):SubInv w (w.alloc (.cells (madeCells #[.int .u32 0] m) 112)) a b m 0 0 (List.replicate m 0):=
 ⟨List.length_replicate,Row.made w m,(Below.refl _ _).alloc (Nat.le_refl _) _,by simp [lv]⟩
theorem Row.drew(h:Row w g zs):Row w.drew g zs:=h
theorem SubInv.drew(h:SubInv w wr a b m k cy zs):SubInv w wr.drew a b m k cy zs:=
 ⟨h.1,h.2.1.drew,h.2.2.1.drew,h.2.2.2⟩
theorem zgs (x y:Int):0≤bor x y∧bor x y≤1:=by unfold bor;split <;> decide
theorem zgt (x y c:Int)(hx:0≤x∧x<4294967296)(hy:0≤y∧y<4294967296)(hc:0≤c∧c≤1):(x-y-c)%4294967296-4294967296*bor x (y+c)=x-y-c:=by
 unfold bor;split <;> omega
theorem SubInv.step(h:SubInv w wr a b m k cy zs)(hk:k<m)(hc:0≤cy∧cy≤1)(ha:LB a)(hb:LB b):
  SubInv w (wr.setCell ⟨w.heap.size,k,none⟩ (.int .u32 ((a.getD k 0-b.getD k 0-cy)%4294967296))) a b m (k+1) (bor (a.getD k 0) (b.getD k 0+cy)) (zs.set k ((a.getD k 0-b.getD k 0-cy)%4294967296)):=by
 obtain⟨h1,h2,h3,h4⟩:=h;refine⟨by rw [List.length_set];exact h1,h2.store (by omega) (by omega),h3.setCell (Nat.le_refl _) _,?_⟩;rw [zw,zw,zw,zau _ _ _ _ (Nat.le_refl _),zC _ _ _ _ (by omega),if_pos rfl];have e:bp k *((a.getD k 0-b.getD k 0-cy)%4294967296-4294967296*bor (a.getD k 0) (b.getD k 0+cy))=bp k *(a.getD k 0-b.getD k 0-cy):=by rw [zgt _ _ _ (ha k) (hb k) hc]
 generalize (a.getD k 0-b.getD k 0-cy)%4294967296=s at *;generalize bor (a.getD k 0) (b.getD k 0+cy)=c at *;rw [Int.mul_sub,Int.mul_sub,Int.mul_sub] at e;have e2:bp (k+1)*c=bp k *(4294967296*c):=by simp only [bp];rw [Int.mul_comm 4294967296 (bp k),Int.mul_assoc]
 rw [e2];omega
theorem SubInv.done(h:SubInv w wr a b m m cy zs)(hc:0≤cy∧cy≤1)(la:a.length=m)(lb:b.length≤m)(hle:lv b≤lv a):lv zs=lv a-lv b:=by
 obtain⟨h1,h2,h3,h4⟩:=h;rw [zah zs (by omega),zah a (by omega),zah b (by omega)] at h4;have e1:=zaq h2.2.1;rw [h1] at e1;rcases(by omega:cy=0∨cy=1) with rfl | rfl
 ·omega
 ·omega
theorem zeH(ha:LB a)(hb:LB b)(nb:Nrm b)(h:lv b≤lv a):b.length≤a.length:=by
 by_cases hl:a.length<b.length
 ·have:=zbc ha hb nb hl;omega
 ·omega
theorem zdy (w:World)(va vb:Value)(a b:List Int)(ha:Lim w va a)(hb:Lim w vb b)(nb:Nrm b)(hle:lv b≤lv a):
  Calls Tryz.prog 85 #[va,vb] w fun e w'=>LimPost w (lv a-lv b) a.length e w':=by
 have HA:Hid (Lim w va a):=ha;have HB:Hid (Lim w vb b):=hb;obtain⟨ao,acap,rfl,hacap,halen,halb,hac⟩:=ha;obtain⟨bo,bcap,rfl,hbcap,hblen,hblb,hbc⟩:=hb;clear hbc;have hbl:=zeH halb hblb nb hle;have hmk:=zaR a.length (by omega);go_enter Tryz.func85,Tryz.ntmps85;go_wp2;go_loopw [6,13] (fun c i wr=>∃(k:Nat) (cy:Int) (zs:List Int),k≤a.length∧i=.int .i64 k∧c=.int .u32 cy∧0≤cy∧cy≤1∧SubInv w wr a b a.length k cy zs) (fun _ i _=>a.length-(intOf i).toNat)
 case atStart=>exact⟨0,0,_,Nat.zero_le _,rfl,rfl,by decide,by decide,SubInv.start w a b a.length⟩
 case round=>
  obtain⟨k,cy,zs,hk,rfl,rfl,hc0,hc1,hinv⟩:=hrel;by_cases hlt:k<a.length
  ·have hst:=hinv.step hlt ⟨hc0,hc1⟩ halb hblb;obtain⟨hcell,hfr⟩:=hinv.2.1.2.2 k (by have:=hinv.1;omega);have hLb:=HB.out.below hinv.2.2.1 (Nat.le_refl _);have hbe:=hinv.2.2.1;have hgx:=halb k;have hgy:=hblb k;have hsz:=hinv.2.1.1;replace hac:=hac (by omega);obtain⟨ab,aoff,rfl,hab,hac⟩:=hac;have hca:wr.cell? ⟨ab,aoff+k,none⟩=some (.int .u32 (a.getD k 0)):=(hbe.cell (p:=⟨ab,aoff+k,none⟩) hab).trans (hac k hlt);clear hac;generalize zs.getD k 0=z0 at *;have hlb':=fun W (h:Below w.heap.size w W)=>zbG W (.slice bo b.length bcap) b k (HB.out.below h (Nat.le_refl _)) (by omega) (by omega);rw [Int.toNat_natCast] at hlb';generalize a.getD k 0=x at *;generalize b.getD k 0=y at *;have hbo:=zgs x (y+cy);have hks:∀ v,(wr.setCell ⟨w.heap.size,k,none⟩ v).cell? ⟨ab,aoff+k,none⟩=some (.int .u32 x):=fun v=>(World.cell?_setCell_other (h:=fun h=>by have:=congrArg Addr.block h;simp at this;omega) ..).trans hca;go_wp2
   go_region_held3 (fun w'=>w'.cell? ⟨ab,aoff+k,none⟩=some (.int .u32 x)) (go_keep) (first |(go_at_call 99;refine(hlb' _ (by first | exact hbe.drew | exact hbe)).mono ?_;rintro e w' ⟨rfl,rfl⟩) |(go_at_call 100;refine(sub32 x y cy _ hgx hgy ⟨hc0,hc1⟩).mono ?_;rintro e w' ⟨rfl,rfl⟩))
   generalize (x-y-cy)%4294967296=s at *;generalize bor x (y+cy)=c at *;go_wp2;go_roundw
   case rel=>exact⟨k+1,c,_,by omega,by go_num,rfl,hbo.1,hbo.2,hst.drew⟩
   case measure=>simp [intOf];omega
  ·obtain rfl:k=a.length:=by omega
   have hd:=hinv.done ⟨hc0,hc1⟩ rfl hbl hle;have hl:=hinv.1;go_wp2;go_ret;exact zc8 hl hinv.2.1 hinv.2.2.1 hd (by omega) (Nat.le_refl _)
def MulInv (w wr:World)(a b:List Int)(i j:Nat)(cy:Int)(zs:List Int):Prop:=
 zs.length=a.length+b.length∧Row wr w.heap.size zs∧Below w.heap.size w wr ∧
  lv zs+bp (i+j)*cy=lv (a.take i)*lv b+bp i *(a.getD i 0*lv (b.take j))∧∀ t,i+b.length≤t→zs.getD t 0=0
def MulOut (w wr:World)(a b:List Int)(i:Nat)(zs:List Int):Prop:=
 zs.length=a.length+b.length∧Row wr w.heap.size zs∧Below w.heap.size w wr ∧
  lv zs=lv (a.take i)*lv b∧∀ t,i+b.length≤t→zs.getD t 0=0
theorem zcW (n t:Nat):(List.replicate n (0:Int)).getD t 0=0:=by
 rw [List.getD_eq_getElem?_getD];by_cases h:t<n
 ·simp [h]
 ·simp [h]
theorem MulOut.start (w:World)(a b:List Int):MulOut w (w.alloc (.cells (madeCells #[.int .u32 0] (a.length+b.length)) 112)) a b 0 (List.replicate (a.length+b.length) 0):=
 ⟨List.length_replicate,Row.made w _,(Below.refl _ _).alloc (Nat.le_refl _) _,by simp [lv,zii],fun _ _=>zcW _ _⟩
theorem MulOut.inner(h:MulOut w wr a b i zs):MulInv w wr a b i 0 0 zs:=by
 obtain⟨h1,h2,h3,h4,h5⟩:=h;exact⟨h1,h2,h3,by simp [lv,h4],h5⟩
theorem MulInv.drewN(h:MulInv w wr a b i j cy zs)(n:Nat):MulInv w (wr.drewN n) a b i j cy zs:=by
 obtain⟨h1,h2,h3,h4,h5⟩:=h;exact⟨h1,h2,zP h3 n,h4,h5⟩
theorem MulInv.step(h:MulInv w wr a b i j cy zs)(hi:i<a.length)(hj:j<b.length){T:Int}(hT:T=cy+(a.getD i 0*b.getD j 0+zs.getD (i+j) 0)):
  MulInv w (wr.setCell ⟨w.heap.size,i+j,none⟩ (.int .u32 (T%4294967296))) a b i (j+1) (T/4294967296) (zs.set (i+j) (T%4294967296)):=by
 obtain⟨h1,h2,h3,h4,h5⟩:=h;refine⟨by rw [List.length_set];exact h1,h2.store (by omega) (by omega),h3.setCell (Nat.le_refl _) _,?_,fun t ht=>?_⟩
 ·rw [zeN _ _ _ (by omega),zw];have e:bp (i+j) *(T%4294967296+4294967296 *(T/4294967296))=bp (i+j)*T:=by rw [Int.emod_add_mul_ediv]
  have e2:bp (i+(j+1)) *(T/4294967296)=bp (i+j) *(4294967296 *(T/4294967296)):=by rw [← Nat.add_assoc];simp only [bp];rw [Int.mul_comm 4294967296 (bp (i+j)),Int.mul_assoc]
  have e3:bp (i+j) *(a.getD i 0*b.getD j 0)=bp i *(a.getD i 0 *(bp j*b.getD j 0)):=by
   rw [zbw,Int.mul_assoc,Int.mul_left_comm (bp j)]
  rw [e2,Int.mul_sub];rw [Int.mul_add] at e;rw [hT,Int.mul_add,Int.mul_add] at e;rw [← hT] at e;rw [Int.mul_add,Int.mul_add];omega
 ·rw [zC _ _ _ _ (by omega),if_neg (by omega)];exact h5 t ht
theorem MulInv.done(h:MulInv w wr a b i b.length cy zs)(hi:i<a.length)(hc:0≤cy∧cy<4294967296):
  MulOut w (wr.setCell ⟨w.heap.size,i+b.length,none⟩ (.int .u32 cy)) a b (i+1) (zs.set (i+b.length) cy):=by
 obtain⟨h1,h2,h3,h4,h5⟩:=h;refine⟨by rw [List.length_set];exact h1,h2.store (by omega) hc,h3.setCell (Nat.le_refl _) _,?_,fun t ht=>?_⟩
 ·rw [zeN _ _ _ (by omega),zw,h5 _ (Nat.le_refl _),Int.sub_zero,h4,List.take_length,Int.add_mul,Int.mul_assoc]
 ·rw [zC _ _ _ _ (by omega),if_neg (by omega)];exact h5 t (by omega)
theorem zdd{x y:Int}(hx:0≤x∧x<4294967296)(hy:0≤y∧y<4294967296):0≤x*y∧x*y≤18446744065119617025:=by
 have h1:x*y≤4294967295*4294967295:=Int.mul_le_mul (by omega) (by omega) hy.1 (by omega);exact⟨Int.mul_nonneg hx.1 hy.1,by omega⟩
theorem zir (w:World)(va vb:Value)(a b:List Int)(ha:Lim w va a)(hb:Lim w vb b)(hla:a.length≤400000)(hlb:b.length≤400000):
  Calls Tryz.prog 102 #[va,vb] w fun e w'=>LimPost w (lv a*lv b) (a.length+b.length) e w':=by
 obtain⟨ao,acap,rfl,hacap,halen,halb,hac⟩:=ha;obtain⟨bo,bcap,rfl,hbcap,hblen,hblb,hbc⟩:=hb;have hmk:=zaR (a.length+b.length) (by omega);rw [Int.natCast_add] at hmk;go_enter Tryz.func102,Tryz.ntmps102;go_wp2;go_loopw [17] (fun i wr=>∃(k:Nat) (zs:List Int),k≤a.length∧i=.int .i64 k∧MulOut w wr a b k zs) (fun i _=>a.length-(intOf i).toNat)
 case atStart=>exact⟨0,_,Nat.zero_le _,rfl,MulOut.start w a b⟩
 case round=>
  obtain⟨i,zs,hi,rfl,hout⟩:=hrel;by_cases hlt:i<a.length
  ·obtain⟨wo,rfl⟩:∃ wo:World,wo=wr:=⟨_,rfl⟩;replace hac:=hac (by omega);obtain⟨ab,aoff,rfl,hab,hac⟩:=hac;have hai:=hac i hlt;clear hac;have hgx:=halb i;go_wp2;go_loopw [7,22] (fun c j wr=>∃(k:Nat) (cy:Int) (zs:List Int),k≤b.length∧j=.int .i64 k∧c=.int .u64 cy∧0≤cy∧cy<4294967296∧MulInv w wr a b i k cy zs) (fun _ j _=>b.length-(intOf j).toNat)
   case atStart=>exact⟨0,0,zs,Nat.zero_le _,rfl,rfl,by decide,by decide,hout.inner⟩
   case round=>
    obtain⟨j,cy,ys,hj,rfl,rfl,hc0,hc1,hinv⟩:=hrel;by_cases hjl:j<b.length
    ·replace hbc:=hbc (by omega);obtain⟨bb,boff,rfl,hbb,hbc⟩:=hbc;have hbj:=hbc j hjl;clear hbc;have hgy:=hblb j;have hgz:=hinv.2.1.2.1 (i+j);have hbe:=hinv.2.2.1;obtain⟨hcell,hfr⟩:=hinv.2.1.2.2 (i+j) (by have:=hinv.1;omega);have hca:wr.cell? ⟨ab,aoff+i,none⟩=some (.int .u32 (a.getD i 0)):=(hbe.cell (p:=⟨ab,aoff+i,none⟩) hab).trans hai;have hcb:wr.cell? ⟨bb,boff+j,none⟩=some (.int .u32 (b.getD j 0)):=(hbe.cell (p:=⟨bb,boff+j,none⟩) hbb).trans hbj;have hpr:=zdd hgx hgy;have hst:=hinv.step hlt hjl rfl;have hsz:=hinv.2.1.1;clear hai hbj;generalize a.getD i 0=x at *;generalize b.getD j 0=y at *;generalize ys.getD (i+j) 0=z at *;go_wp2
     go_quiet (fail)
     have hT0:0≤cy+(x*y+z):=by omega
     have hT1:cy+(x*y+z)<18446744073709551616:=by omega
     generalize cy+(x*y+z)=T at *;go_wp2;go_roundw
     case rel=>exact⟨j+1,T/4294967296,_,by omega,by go_num,rfl,by omega,by omega,hst.drewN _⟩
     case measure=>simp [intOf];omega
    ·obtain rfl:j=b.length:=by omega
     have hdo:=hinv.done hlt ⟨hc0,hc1⟩;obtain⟨hcell,hfr⟩:=hinv.2.1.2.2 (i+b.length) (by have:=hinv.1;omega);generalize ys.getD (i+b.length) 0=z at *;go_wp2;go_roundw
     case rel=>exact⟨i+1,_,by omega,by go_num,hdo⟩
     case measure=>simp [intOf];omega
  ·obtain rfl:i=a.length:=by omega
   have hl:=hout.1;have hv:Hid (lv zs=lv a*lv b):=by have:=hout.2.2.2.1;rw [List.take_length] at this;exact this
   go_wp2;go_ret;exact zc8 hl hout.2.1 hout.2.2.1 hv.out (by omega) (Nat.le_refl _)
def NumL (w:World)(v:Value)(z:Int)(n:Nat):Prop:=
 ∃ neg s zs,v=.agg #[.bool neg,s]∧Lim w s zs∧Nrm zs∧(zs.length=0→neg=false)∧z=(if neg=true then-lv zs else lv zs)∧zs.length≤n
def NumPost (w:World)(z:Int)(n:Nat)(e:Ending)(w':World):Prop:=
 ∃ r,e=.returned r∧NumL w' r z n∧Below w.heap.size w w'
theorem NumL.below{w':World}(h:NumL w v z n)(hb:Below B w w')(hB:w.heap.size≤B):NumL w' v z n:=by
 obtain⟨neg,s,zs,h1,h2,h3⟩:=h;exact⟨neg,s,zs,h1,h2.below hb hB,h3⟩
theorem NumL.mono(h:NumL w v z n)(hm:n≤m):NumL w v z m:=by
 obtain⟨neg,s,zs,h1,h2,h3,h4,h5,h6⟩:=h;exact⟨neg,s,zs,h1,h2,h3,h4,h5,Nat.le_trans h6 hm⟩
theorem zW (w:World)(neg:Bool)(v:Value)(zs:List Int)(n:Nat)(h:Lim w v zs)(hn:zs.length≤n):
  Calls Tryz.prog 57 #[.bool neg,v] w fun e w'=>NumPost w (if neg=true then-lv zs else lv zs) n e w':=by
 have HL:Hid (Lim w v zs):=h;obtain⟨ao,cap,rfl,hcap,hlen,hlb,hc⟩:=h;clear hc;go_enter Tryz.func57,Tryz.ntmps57;go_wp2_with fail;refine(zdD _ _ _ zs (HL.out.below ((Below.refl _ _).alloc (Nat.le_refl _) _) (Nat.le_refl _))).mono ?_;rintro e w' ⟨m,hm,rfl,hv,hnr,rfl⟩;have HV:Hid (lv (zs.take m)=lv zs):=hv;clear hv;have hl:(zs.take m).length=m:=by rw [List.length_take];omega
 have HL2:=HL.out.take m hm;cases neg
 ·have HF:Hid (NumPost w (lv zs) n (.returned (.agg #[.bool false,.slice ao m cap])) (w.alloc (Obj.cells #[Value.bool false,.slice ao m cap] 90))):=
   ⟨_,rfl,⟨false,_,zs.take m,rfl,HL2.below ((Below.refl _ _).alloc (Nat.le_refl _) _) (Nat.le_refl _),hnr,fun _=>rfl,HV.out.symm,by omega⟩,(Below.refl _ _).alloc (Nat.le_refl _) _⟩
  go_wp2;exact bodyPost_ret (v:=.agg #[.bool false,.slice ao m cap]) (by simp [results,Tryz.results57,go_sem]) rfl HF.out
 ·by_cases h0:m=0
  ·subst h0;have HF:Hid (NumPost w (-lv zs) n (.returned (.agg #[.bool false,.slice ao 0 cap])) (w.alloc (Obj.cells #[Value.bool false,.slice ao 0 cap] 90))):=
    ⟨_,rfl,⟨false,_,zs.take 0,rfl,HL2.below ((Below.refl _ _).alloc (Nat.le_refl _) _) (Nat.le_refl _),hnr,fun _=>rfl,by have:=HV.out;simp [lv] at this ⊢;omega,by omega⟩,(Below.refl _ _).alloc (Nat.le_refl _) _⟩
   go_wp2;exact bodyPost_ret (v:=.agg #[.bool false,.slice ao 0 cap]) (by simp [results,Tryz.results57,go_sem]) rfl HF.out
  ·have HF:Hid (NumPost w (-lv zs) n (.returned (.agg #[.bool true,.slice ao m cap])) (w.alloc (Obj.cells #[Value.bool true,.slice ao m cap] 90))):=
    ⟨_,rfl,⟨true,_,zs.take m,rfl,HL2.below ((Below.refl _ _).alloc (Nat.le_refl _) _) (Nat.le_refl _),hnr,fun h=>absurd h (by omega),by rw [if_pos rfl,HV.out],by omega⟩,(Below.refl _ _).alloc (Nat.le_refl _) _⟩
   have hd:decide (0<m)=true:=by simp;omega
   go_wp2;exact bodyPost_ret (v:=.agg #[.bool true,.slice ao m cap]) (by simp [results,Tryz.results57,go_sem]) rfl HF.out
def NewSl (w:World)(s:Value):Prop:=∀ a l c,s=.slice (some a) l c→w.heap.size≤a.block
def IntPost (w:World)(x:Int)(n:Nat)(e:Ending)(w':World):Prop:=NumPost w x n e w'∧∀ neg s,e=.returned (.agg #[.bool neg,s])→NewSl w s
def sg (neg:Bool)(z:Int):Int:=if neg=true then-z else z
theorem Lim.setCell(h:Lim w v zs){p:Addr}(hp:w.cell? p=some u)(hu:∀ z,u≠.int .u32 z):Lim (w.setCell p x) v zs:=by
 obtain⟨ao,cap,hv,h1,h2,h3,h4⟩:=h;refine⟨ao,cap,hv,h1,h2,h3,fun h0=>?_⟩;obtain⟨b,off,e,hlt,hc⟩:=h4 h0;refine⟨b,off,e,by simpa using hlt,fun i hi=>?_⟩;have hci:=hc i hi;refine Eq.trans (World.cell?_setCell_other (h:=fun e=>?_) ..) hci;rw [e,hci] at hp;exact hu _ (Option.some.inj hp).symm
theorem NumL.setCell(h:NumL w v z n){p:Addr}(hp:w.cell? p=some u)(hu:∀ z,u≠.int .u32 z):NumL (w.setCell p x) v z n:=by
 obtain⟨neg,s,zs,h1,h2,h3⟩:=h;exact⟨neg,s,zs,h1,h2.setCell hp hu,h3⟩
theorem boxed{w2:World}{rn:Bool}{rs:Value}(hr:NumL w2 (.agg #[.bool rn,rs]) z n)(c0:w2.cell? ⟨B,0,none⟩=some u0)(c1:w2.cell? ⟨B,1,none⟩=some u1)(hu0:∀ z,u0≠.int .u32 z)(hu1:∀ z,u1≠.int .u32 z)(hb:Below w.heap.size w w2)(hB:w.heap.size≤B):
  NumPost w z n (.returned (.agg #[.bool rn,rs])) ((w2.setCell ⟨B,0,none⟩ (.bool rn)).setCell ⟨B,1,none⟩ rs):=by
 refine⟨_,rfl,(hr.setCell c0 hu0).setCell (p:=⟨B,1,none⟩) (u:=u1) ?_ hu1,(hb.setCell (by exact hB) _).setCell (by exact hB) _⟩;exact Eq.trans (World.cell?_setCell_other (h:=fun e=>by simp at e) ..) c1
def Box (w:World)(B:Nat)(u0 u1:Value):Prop:=
 w.cell? ⟨B,0,none⟩=some u0∧w.cell? ⟨B,1,none⟩=some u1∧w.frozen? ⟨B,0,none⟩=false∧w.frozen? ⟨B,1,none⟩=false
theorem zl (W:World)(u0 u1:Value)(t:TypeId)(B:Nat)(hB:B=W.heap.size):Box (W.alloc (.cells #[u0,u1] t)) B u0 u1:=by
 subst hB;simp [Box]
theorem Box.later{W w1:World}{C:Nat}(h:Box W B u0 u1)(hb:Below C W w1)(hB:B<C):Box w1 B u0 u1:=by
 obtain⟨h1,h2,h3,h4⟩:=h;exact⟨(hb.cell (p:=⟨B,0,none⟩) hB).trans h1,(hb.cell (p:=⟨B,1,none⟩) hB).trans h2,(hb.frozen (p:=⟨B,0,none⟩) hB).trans h3,(hb.frozen (p:=⟨B,1,none⟩) hB).trans h4⟩
theorem zdP (w:World)(an:Bool)(va:Value)(a:List Int)(neg:Bool)(vb:Value)(b:List Int)(ha:Lim w va a)(hb:Lim w vb b)(na:Nrm a)(nb:Nrm b)(n:Nat)(hla:a.length≤n)(hlb:b.length≤n)(hn:n≤900000):
  Calls Tryz.prog 101 #[.agg #[.bool an,va],.bool neg,vb] w fun e w'=>NumPost w (sg an (lv a)+sg neg (lv b)) (n+1) e w':=by
 have HA:Hid (Lim w va a):=ha;have HB:Hid (Lim w vb b):=hb;obtain⟨ao,acap,rfl,hacap,halen,halb,hac⟩:=ha;obtain⟨bo,bcap,rfl,hbcap,hblen,hblb,hbc⟩:=hb;clear hac hbc;have hbel:∀ o1 o2,Below w.heap.size w ((w.alloc o1).alloc o2):=fun o1 o2=>((Below.refl _ _).alloc (Nat.le_refl _) _).alloc (by simp) _;by_cases hs:an=neg
 ·subst hs;go_enter Tryz.func101,Tryz.ntmps101;go_wp2_with fail;refine(zdO _ _ _ a b (HA.out.below (hbel _ _) (Nat.le_refl _)) (HB.out.below (hbel _ _) (Nat.le_refl _)) (by omega) (by omega)).mono ?_;rintro e w1 ⟨v1,zs,rfl,hl1,hv1,hn1,hb1⟩;go_wp2_with fail;refine(zW _ _ _ zs (n+1) hl1 (by omega)).mono ?_;rintro e w2 ⟨r,rfl,hr,hb2⟩;have hb12:=hb1.trans (hb2.mono hb1.size);have c0:w2.cell? ⟨w.heap.size+1,0,none⟩=some (.bool false):=(hb12.cell (p:=⟨w.heap.size+1,0,none⟩) (by simp)).trans (by simp);have c1:w2.cell? ⟨w.heap.size+1,1,none⟩=some (.slice none 0 0):=(hb12.cell (p:=⟨w.heap.size+1,1,none⟩) (by simp)).trans (by simp);have f0:w2.frozen? ⟨w.heap.size+1,0,none⟩=false:=(hb12.frozen (p:=⟨w.heap.size+1,0,none⟩) (by simp)).trans (by simp);have f1:w2.frozen? ⟨w.heap.size+1,1,none⟩=false:=(hb12.frozen (p:=⟨w.heap.size+1,1,none⟩) (by simp)).trans (by simp);have HR:=hide hr;obtain⟨rn,rs,rz,rfl,hl,-⟩:=hr;obtain⟨ro,rcap,rfl,-⟩:=hl;clear hl1;have HV:=hide hv1;clear hv1;have e:(if an=true then -lv zs else lv zs)=sg an (lv a)+sg an (lv b):=by rw [HV.out];unfold sg;split <;> omega
  rw [e] at HR;have HF:=hide (boxed (w:=w) HR.out c0 c1 (by simp) (by simp) ((hbel _ _).trans (hb12.mono (by simp;omega))) (by simp));clear hb12 hb1 hb2 HR e;go_wp2;exact bodyPost_ret (v:=.agg #[.bool rn,.slice ro rz.length rcap]) (by simp [results,Tryz.results101,go_sem,c0,c1]) rfl HF.out
 ·have hs1:(an==neg)=false:=by simpa using hs
  have hs2:neg=!an:=by cases an <;> cases neg <;> simp_all
  subst hs2;clear hs;by_cases hlt:lv a<lv b
  ·have hcm:=hide (zab hlt);go_enter Tryz.func101,Tryz.ntmps101;go_wp2_with fail;refine(zbB _ _ _ a b (HA.out.below (hbel _ _) (Nat.le_refl _)) (HB.out.below (hbel _ _) (Nat.le_refl _)) na nb).mono ?_;rintro e w0 ⟨rfl,hb0⟩;rw [hcm.out];have q1:w0.cell? ⟨w.heap.size,1,none⟩=some (.slice ao a.length acap):=(hb0.cell (p:=⟨w.heap.size,1,none⟩) (by simp;omega)).trans (by simp);have hbw:=(hbel _ _).trans (hb0.mono (by simp;omega));go_wp2_with fail;refine(zdy _ _ _ b a (HB.out.below hbw (Nat.le_refl _)) (HA.out.below hbw (Nat.le_refl _)) na (by omega)).mono ?_;rintro e w1 ⟨v1,zs,rfl,hl1,hv1,hn1,hb1⟩;go_wp2_with fail;refine(zW _ _ _ zs (n+1) hl1 (by omega)).mono ?_;rintro e w2 ⟨r,rfl,hr,hb2⟩;have hb12:=hb0.trans ((hb1.trans (hb2.mono hb1.size)).mono hb0.size);have c0:w2.cell? ⟨w.heap.size+1,0,none⟩=some (.bool false):=(hb12.cell (p:=⟨w.heap.size+1,0,none⟩) (by simp)).trans (by simp);have c1:w2.cell? ⟨w.heap.size+1,1,none⟩=some (.slice none 0 0):=(hb12.cell (p:=⟨w.heap.size+1,1,none⟩) (by simp)).trans (by simp);have f0:w2.frozen? ⟨w.heap.size+1,0,none⟩=false:=(hb12.frozen (p:=⟨w.heap.size+1,0,none⟩) (by simp)).trans (by simp);have f1:w2.frozen? ⟨w.heap.size+1,1,none⟩=false:=(hb12.frozen (p:=⟨w.heap.size+1,1,none⟩) (by simp)).trans (by simp);have HR:=hide hr;obtain⟨rn,rs,rz,rfl,hl,-⟩:=hr;obtain⟨ro,rcap,rfl,-⟩:=hl;clear hl1;have HV:=hide hv1;clear hv1;have e:(if (!an)=true then -lv zs else lv zs)=sg an (lv a)+sg (!an) (lv b):=by rw [HV.out];unfold sg;cases an <;> simp <;> omega
   rw [e] at HR;have HF:=hide (boxed (w:=w) HR.out c0 c1 (by simp) (by simp) ((hbel _ _).trans (hb12.mono (by simp;omega))) (by simp));clear hb12 hb1 hb2 HR e hbw hb0 q1;go_wp2;exact bodyPost_ret (v:=.agg #[.bool rn,.slice ro rz.length rcap]) (by simp [results,Tryz.results101,go_sem,c0,c1]) rfl HF.out
  ·have hcm:0≤cmpI (lv a) (lv b):=by unfold cmpI;rw [if_neg hlt];split <;> decide
   go_enter Tryz.func101,Tryz.ntmps101;go_wp2_with fail;refine(zbB _ _ _ a b (HA.out.below (hbel _ _) (Nat.le_refl _)) (HB.out.below (hbel _ _) (Nat.le_refl _)) na nb).mono ?_;rintro e w0 ⟨rfl,hb0⟩;generalize cmpI (lv a) (lv b)=cc at *;have q0:w0.cell? ⟨w.heap.size,0,none⟩=some (.bool an):=(hb0.cell (p:=⟨w.heap.size,0,none⟩) (by simp;omega)).trans (by simp);have q1:w0.cell? ⟨w.heap.size,1,none⟩=some (.slice ao a.length acap):=(hb0.cell (p:=⟨w.heap.size,1,none⟩) (by simp;omega)).trans (by simp);have hbw:=(hbel _ _).trans (hb0.mono (by simp;omega));have r0:w0.cell? ⟨w.heap.size+1,0,none⟩=some (.bool false):=(hb0.cell (p:=⟨w.heap.size+1,0,none⟩) (by simp)).trans (by simp);have r1:w0.cell? ⟨w.heap.size+1,1,none⟩=some (.slice none 0 0):=(hb0.cell (p:=⟨w.heap.size+1,1,none⟩) (by simp)).trans (by simp);have g0:w0.frozen? ⟨w.heap.size+1,0,none⟩=false:=(hb0.frozen (p:=⟨w.heap.size+1,0,none⟩) (by simp)).trans (by simp);have g1:w0.frozen? ⟨w.heap.size+1,1,none⟩=false:=(hb0.frozen (p:=⟨w.heap.size+1,1,none⟩) (by simp)).trans (by simp);have hz0:w.heap.size+1<w0.heap.size:=by have:=hb0.size;simp at this;omega
   go_wp2_with fail
   go_region_held3 (fun w'=>w'.cell? ⟨w.heap.size,0,none⟩=some (.bool an)∧w'.cell? ⟨w.heap.size,1,none⟩=some (.slice ao a.length acap)) (go_keep)
    (first
     |(go_at_call 85;refine(zdy _ _ _ a b (HA.out.below (by exact hbw.drew) (Nat.le_refl _)) (HB.out.below (by exact hbw.drew) (Nat.le_refl _)) nb (by omega)).mono ?_;rintro e w1 ⟨v1,zs,rfl,hl1,hv1,hn1,hb1⟩;have p0:w1.cell? ⟨w.heap.size,0,none⟩=some (.bool an):=(hb1.cell (p:=⟨w.heap.size,0,none⟩) (by simp;omega)).trans q0;have p1:w1.cell? ⟨w.heap.size,1,none⟩=some (.slice ao a.length acap):=(hb1.cell (p:=⟨w.heap.size,1,none⟩) (by simp;omega)).trans q1;have HV:=hide hv1;clear hv1)
     |(go_at_call 57;refine(zW _ _ _ zs (n+1) hl1 (by omega)).mono ?_;rintro e w2 ⟨r,rfl,hr,hb2⟩;have hb12:=hb1.trans (hb2.mono hb1.size);have p0':w2.cell? ⟨w.heap.size,0,none⟩=some (.bool an):=(hb12.cell (p:=⟨w.heap.size,0,none⟩) (by simp;omega)).trans q0;have p1':w2.cell? ⟨w.heap.size,1,none⟩=some (.slice ao a.length acap):=(hb12.cell (p:=⟨w.heap.size,1,none⟩) (by simp;omega)).trans q1;have c0:w2.cell? ⟨w.heap.size+1,0,none⟩=some (.bool false):=(hb12.cell (p:=⟨w.heap.size+1,0,none⟩) (by simp;omega)).trans r0;have c1:w2.cell? ⟨w.heap.size+1,1,none⟩=some (.slice none 0 0):=(hb12.cell (p:=⟨w.heap.size+1,1,none⟩) (by simp;omega)).trans r1;have f0:w2.frozen? ⟨w.heap.size+1,0,none⟩=false:=(hb12.frozen (p:=⟨w.heap.size+1,0,none⟩) (by simp;omega)).trans g0;have f1:w2.frozen? ⟨w.heap.size+1,1,none⟩=false:=(hb12.frozen (p:=⟨w.heap.size+1,1,none⟩) (by simp;omega)).trans g1;have HR:=hide hr;obtain⟨rn,rs,rz,rfl,hl,-⟩:=hr;obtain⟨ro,rcap,rfl,-⟩:=hl))
   have e:(if an=true then -lv zs else lv zs)=sg an (lv a)+sg (!an) (lv b):=by rw [HV.out];unfold sg;cases an <;> simp <;> omega
   rw [e] at HR;have HF:=hide (boxed (w:=w) HR.out c0 c1 (by simp) (by simp) (hbw.trans ((show Below w0.heap.size w0 w2 from⟨hb12.os,hb12.tape,hb12.output,hb12.size,hb12.block⟩).mono (by omega))) (by simp));clear hb12 hb1 hb2 HR e hbw hb0;go_wp2;exact bodyPost_ret (v:=.agg #[.bool rn,.slice ro rz.length rcap]) (by simp [results,Tryz.results101,go_sem,c0,c1]) rfl HF.out
theorem zfS (w:World)(va vb:Value)(x y:Int)(n:Nat)(ha:NumL w va x n)(hb:NumL w vb y n)(hn:n≤900000):
  Calls Tryz.prog 86 #[va,vb] w fun e w'=>NumPost w (x+y) (n+1) e w':=by
 obtain⟨an,sa,a,rfl,hla,nra,-,hx,hna⟩:=ha;obtain⟨bn,sb,b,rfl,hlb,nrb,-,hy,hnb⟩:=hb;have HA:=hide hla;have HB:=hide hlb;obtain⟨ao,acap,rfl,-⟩:=hla;obtain⟨bo,bcap,rfl,-⟩:=hlb;have hbel:∀ o1 o2 o3,Below w.heap.size w (((w.alloc o1).alloc o2).alloc o3):=fun o1 o2 o3=>(((Below.refl _ _).alloc (Nat.le_refl _) _).alloc (by simp) _).alloc (by simp;omega) _;have HX:=hide hx;clear hx;have HY:=hide hy;clear hy;go_enter Tryz.func86,Tryz.ntmps86;go_wp2_with fail;refine(zdP _ _ _ a _ _ b (HA.out.below (hbel _ _ _) (Nat.le_refl _)) (HB.out.below (hbel _ _ _) (Nat.le_refl _)) nra nrb n hna hnb hn).mono ?_;rintro e w2 ⟨r,rfl,hr,hb2⟩;obtain⟨c0,c1,f0,f1⟩:=(zl _ _ _ _ (w.heap.size+2) (by simp)).later hb2 (by simp);have HR:=hide hr;obtain⟨rn,rs,rz,rfl,hl,-⟩:=hr;obtain⟨ro,rcap,rfl,-⟩:=hl;have e:sg an (lv a)+sg bn (lv b)=x+y:=by rw [HX.out,HY.out];rfl
 rw [e] at HR;have HF:=hide (boxed (w:=w) HR.out c0 c1 (by simp) (by simp) ((hbel _ _ _).trans (hb2.mono (by simp;omega))) (by simp));clear hb2 HR e;go_wp2;exact bodyPost_ret (v:=.agg #[.bool rn,.slice ro rz.length rcap]) (by simp [results,Tryz.results86,go_sem,c0,c1]) rfl HF.out
theorem zA:(∀ (a:Act) (t:Nat) (v:Value),a.put (some t) v={a with tmps:=a.tmps.setIfInBounds t v})∧(∀ (a:Act) (v:Value),a.put none v=a)∧(∀ (α:Type) (l:List α) (i:Nat) (v:α),l.toArray.setIfInBounds i v=(l.set i v).toArray)∧(∀ (α:Type) (x:α) (l:List α) (v:α),(x :: l).set 0 v=v :: l)∧∀ (α:Type) (x:α) (l:List α) (n:Nat) (v:α),(x :: l).set (n+1) v=x :: l.set n v :=
 ⟨fun _ _ _=>rfl,fun _ _=>rfl,fun _ _ _ _=>List.setIfInBounds_toArray ..,fun _ _ _ _=>rfl,fun _ _ _ _ _=>rfl⟩
theorem zL:n≤n:=Nat.le_refl n
theorem zT{a b c:Nat}(h:a < b)(k:b≤c):a < c:=Nat.lt_of_lt_of_le h k
theorem zI.{u}{α:Type u}{a b:α}(h:some a=some b):a=b:=Option.some.inj h
theorem zB(B:Nat)(w:World):Below B w w:=Below.refl B w
theorem zV(a:Option Addr)(c e:Nat)(b:Option Addr)(d f:Nat):(Value.slice a c e=Value.slice b d f)=(a=b∧c=d∧e=f):=Value.slice.injEq ..
theorem zM{α β:Type}{l:List α}(f:α→β):(l.map f).length=l.length:=List.length_map ..
theorem zG{α:Type}{l:List α}{a:α}:l.getD i a=l[i]?.getD a:=by rw [List.getD_eq_getElem?_getD]
theorem zN{l:List Nat}{P:Nat→Prop}(h:l=[]):∀ j∈l,P j:=fun j hj=>by rw [h] at hj;cases hj
theorem zO{l:List Nat}{P:Nat→Prop}{a:Nat}(h:l=[a])(k:P a):∀ j∈l,P j:=fun j hj=>by
 rw [h] at hj;cases hj with
 | head=>exact k
 | tail _ h=>cases h
end Go.Proofs.YtncamilanceahaaGreat
