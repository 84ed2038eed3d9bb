import Derived.Test.YtncamilanceahaaGreatBeside
set_option maxRecDepth 100000
set_option maxHeartbeats 1600000
set_option linter.unusedSimpArgs false
namespace Go.Proofs.YtncamilanceahaaGreat
open Go.RowKit Limbs
variable{W w W2:World}{k B:Nat}
def SignPost (w:World)(z:Int)(n:Nat)(ao:Option Addr)(cap:Nat)(e:Ending)(w':World):Prop:=NumPost w z n e w'∧∃ b l,e=.returned (.agg #[.bool b,.slice ao l cap])
theorem zfw (w:World)(neg:Bool)(ao:Option Addr)(cap:Nat)(zs:List Int)(n:Nat)(h:Lim w (.slice ao zs.length cap) zs)(hn:zs.length≤n):
  Calls Tryz.prog 57 #[.bool neg,.slice ao zs.length cap] w fun e w'=>SignPost w (if neg=true then-lv zs else lv zs) n ao cap e w':=by
 have HL:Hid (Lim w (.slice ao zs.length cap) zs):=h;obtain⟨ao',cap',hv,hcap,hlen,hlb,hc⟩:=h;simp only [zV,true_and] at hv;obtain⟨rfl,rfl⟩:=hv;clear hc;go_enter Tryz.func57,Tryz.ntmps57;go_wp2_with fail;refine(zdD _ _ _ zs (HL.out.below ((zB _ _).alloc zL _) zL)).mono ?_;rintro e w' ⟨m,hm,rfl,hv,hnr,rfl⟩;have HV:Hid (lv (zs.take m)=lv zs):=hv;clear hv;have hl:(zs.take m).length=m:=by rw [List.length_take];omega
 have HL2:=HL.out.take m hm;cases neg
 ·have HF:Hid (NumPost w (lv zs) n (.returned (.agg #[.bool false,.slice ao m cap])) (w.alloc (Obj.cells #[Value.bool false,.slice ao m cap] 90))):=
   ⟨_,rfl,⟨false,_,zs.take m,rfl,HL2.below ((zB _ _).alloc zL _) zL,hnr,fun _=>rfl,HV.out.symm,by omega⟩,(zB _ _).alloc zL _⟩
  go_wp2;exact bodyPost_ret (v:=.agg #[.bool false,.slice ao m cap]) (by simp [results,Tryz.results57,go_sem]) rfl ⟨HF.out,_,_,rfl⟩
 ·by_cases h0:m=0
  ·subst h0;have HF:Hid (NumPost w (-lv zs) n (.returned (.agg #[.bool false,.slice ao 0 cap])) (w.alloc (Obj.cells #[Value.bool false,.slice ao 0 cap] 90))):=
    ⟨_,rfl,⟨false,_,zs.take 0,rfl,HL2.below ((zB _ _).alloc zL _) zL,hnr,fun _=>rfl,by have:=HV.out;simp [lv] at this ⊢;omega,by omega⟩,(zB _ _).alloc zL _⟩
   go_wp2;exact bodyPost_ret (v:=.agg #[.bool false,.slice ao 0 cap]) (by simp [results,Tryz.results57,go_sem]) rfl ⟨HF.out,_,_,rfl⟩
  ·have HF:Hid (NumPost w (-lv zs) n (.returned (.agg #[.bool true,.slice ao m cap])) (w.alloc (Obj.cells #[Value.bool true,.slice ao m cap] 90))):=
    ⟨_,rfl,⟨true,_,zs.take m,rfl,HL2.below ((zB _ _).alloc zL _) zL,hnr,fun h=>absurd h (by omega),by rw [if_pos rfl,HV.out],by omega⟩,(zB _ _).alloc zL _⟩
   have hd:decide (0<m)=true:=by simp;omega
   go_wp2;exact bodyPost_ret (v:=.agg #[.bool true,.slice ao m cap]) (by simp [results,Tryz.results57,go_sem]) rfl ⟨HF.out,_,_,rfl⟩
theorem ziB (w:World)(n:Int)(h0:-9223372036854775808≤n)(h1:n≤9223372036854775807):
  Calls Tryz.prog 38 #[.int .i64 n] w fun e w'=>IntPost w n 2 e w':=by
 by_cases hn:n<0
 ·have hw:IntKind.u64.wrap (-IntKind.u64.wrap n)=-n:=by rw [IntKind.wrap_u64,IntKind.wrap_u64];omega
  have hw2:-n/4294967296%4294967296=-n/4294967296:=by omega
  have HN:=hide (zcp (-n));go_enter Tryz.func38,Tryz.ntmps38;go_wp2_with fail;refine(zfw _ _ _ _ [-n%4294967296,-n/4294967296] 2 (zcm _ _ _ _ (by omega) (by omega) _ (by simp)) zL).mono ?_;rintro e w2 ⟨⟨r,rfl,hr,hb2⟩,sb,sl,es⟩;simp only [Ending.returned.injEq] at es;subst es;obtain⟨c0,c1,f0,f1⟩:=Box.later (B:=w.heap.size) ((zl w _ _ _ _ rfl).later ((zB _ _).alloc (by simp) _:Below (w.heap.size+1) _ _) (by omega)) hb2 (by simp;omega);rw [HN.out,if_pos rfl,Int.neg_neg] at hr;have HF:=hide (fun rn rs (h:NumL w2 (.agg #[.bool rn,rs]) n 2)=>boxed (w:=w) h c0 c1 (by simp) (by simp) ((((zB _ _).alloc zL _).alloc (by simp) _).trans (hb2.mono (by simp;omega))) zL);have HR:=hide hr;clear hb2 hr;go_wp2;exact bodyPost_ret (v:=_) (by simp [results,Tryz.results38,go_sem,c0,c1]) rfl ⟨HF.out _ _ HR.out,fun neg s e a l c h=>by simp only [Ending.returned.injEq,Value.agg.injEq,Array.mk.injEq,List.cons.injEq,and_true] at e;rw [← e.2] at h;simp only [zV,Option.some.injEq] at h;rw [← h.1];simp⟩
 ·have HN:=hide (zcp n);go_enter Tryz.func38,Tryz.ntmps38;go_wp2_with fail;refine(zfw _ _ _ _ [n%4294967296,n/4294967296] 2 (zcm _ _ _ _ (by omega) (by omega) _ (by simp)) zL).mono ?_;rintro e w2 ⟨⟨r,rfl,hr,hb2⟩,sb,sl,es⟩;simp only [Ending.returned.injEq] at es;subst es;obtain⟨c0,c1,f0,f1⟩:=Box.later (B:=w.heap.size) ((zl w _ _ _ _ rfl).later ((zB _ _).alloc (by simp) _:Below (w.heap.size+1) _ _) (by omega)) hb2 (by simp;omega);rw [HN.out,if_neg (by decide)] at hr;have HF:=hide (fun rn rs (h:NumL w2 (.agg #[.bool rn,rs]) n 2)=>boxed (w:=w) h c0 c1 (by simp) (by simp) ((((zB _ _).alloc zL _).alloc (by simp) _).trans (hb2.mono (by simp;omega))) zL);have HR:=hide hr;clear hb2 hr;go_wp2;exact bodyPost_ret (v:=_) (by simp [results,Tryz.results38,go_sem,c0,c1]) rfl ⟨HF.out _ _ HR.out,fun neg s e a l c h=>by simp only [Ending.returned.injEq,Value.agg.injEq,Array.mk.injEq,List.cons.injEq,and_true] at e;rw [← e.2] at h;simp only [zV,Option.some.injEq] at h;rw [← h.1];simp⟩
def NewV (w W:World)(P k:Nat):Prop:=∀ i,i<k→∀ o l c,W.cell? ⟨P,i*2+1,none⟩=some (.slice o l c)→NewSl w (.slice o l c)
theorem NewV.set{P n:Nat}{zs:List Int}(h:NewV w W P k)(hv:VecO w W P zs n)(hk:k<zs.length)(hb:Below W.heap.size W W2){o:Option Addr}{l c:Nat}(hn:NewSl W (.slice o l c))(rn:Bool):
  NewV w ((W2.setCell ⟨P,k*2,none⟩ (.bool rn)).setCell ⟨P,k*2+1,none⟩ (.slice o l c)) P (k+1):=fun i hi o' l' c' e=>by
 by_cases e1:i=k
 ·subst e1;obtain⟨neg0,o0,l0,c0,k0,k1,-⟩:=(hv.later hb).at i hk;have k1':(W2.setCell ⟨P,i*2,none⟩ (.bool rn)).cell? ⟨P,i*2+1,none⟩=some (.slice o0 l0 c0):=(World.cell?_setCell_other (h:=fun e=>by simp at e) ..).trans k1;rw [World.cell?_setCell_same (h:=k1')] at e;simp only [Option.some.injEq] at e;rw [← e];intro a l2 c2 h2;exact Nat.le_trans hv.below.size (hn a l2 c2 h2)
 ·have e2:((W2.setCell ⟨P,k*2,none⟩ (.bool rn)).setCell ⟨P,k*2+1,none⟩ (.slice o l c)).cell? ⟨P,i*2+1,none⟩=W2.cell? ⟨P,i*2+1,none⟩:=
   (World.cell?_setCell_other (h:=fun e=>by simp at e <;> omega) ..).trans (World.cell?_setCell_other (h:=fun e=>by simp at e <;> omega) ..)
  rw [e2,hb.cell (p:=⟨P,i*2+1,none⟩) hv.lt] at e;exact h i (by omega) o' l' c' e
theorem ziA (w:World)(v:Value)(ks:List Int)(hv:RowS w v ks)(h8:ks.length≤1000):
  Calls Tryz.prog 22 #[v] w fun e w'=>∃ P,e=.returned (.slice (some ⟨P,0,none⟩) ks.length ks.length)∧VecO w w' P ks 2∧NewV w w' P ks.length:=by
 have HV:=hide hv;obtain⟨ao,cap,rfl,-,hk64,-⟩:=hv;have HK:=hide hk64;have hmk:=zds ks.length (by omega);have HI:=hide (VecO.made w w (zB _ _) ks.length 2);clear hk64;go_enter Tryz.func22,Tryz.ntmps22;go_wp2;clear hmk;go_loopw [10] (fun i wr=>∃ k:Nat,k≤ks.length∧i=.int .i64 k∧VecO w wr w.heap.size (ks.take k++List.replicate (ks.length-k) 0) 2∧Hid (NewV w wr w.heap.size k)) (fun i _=>ks.length-(intOf i).toNat)
 case atStart=>exact⟨0,Nat.zero_le _,rfl,HI.out,hide fun i hi=>absurd hi (Nat.not_lt_zero i)⟩
 case round=>
  clear HI;obtain⟨k,hk,rfl,hinv,HNV⟩:=hrel;have HI:=hide hinv;clear hinv;by_cases hkl:k<ks.length
  ·obtain⟨_,_,e,-,-,hc⟩:=HV.out.below HI.out.below zL;simp only [zV,true_and] at e;obtain⟨rfl,rfl⟩:=e;obtain⟨b,off,rfl,-,hc⟩:=hc (by omega);have c0:=hc k hkl;have HFS:=hide (zcV ks k hkl);have hfl:=zcU ks k hk;have hkl':k<(ks.take k++List.replicate (ks.length-k) 0).length:=by omega
   have H64:=hide (HK.out k);clear hc;generalize ks.getD k 0=z at *;go_wp2_with fail;refine(ziB wr z H64.out.1 H64.out.2).mono ?_;rintro e w2 ⟨⟨r,rfl,hr,hb⟩,hnew⟩;obtain⟨⟨rn,ro,rl,rc⟩,rfl⟩:=hr.nm;have HN2:=hide (HNV.out.set HI.out hkl' hb (hnew _ _ rfl) rn);have HI2:=hide (HI.out.later hb);obtain⟨neg0,o0,l0,c0',k0,k1,-⟩:=HI2.out.at k (by omega);have f0:=HI2.out.thaw (k*2);have f1:=HI2.out.thaw (k*2+1);have hP:=HI2.out.lt;have HN:=hide (HI2.out.set (k:=k) (by omega) hr);rw [HFS.out] at HN;clear hb hr hnew HNV HI HI2 HFS H64 c0;go_wp2;go_roundw
   case rel=>exact⟨k+1,by omega,by go_num,HN.out,HN2⟩
   case measure=>simp [intOf];omega
  ·obtain rfl:k=ks.length:=by omega
   have HF:=hide HI.out.full;clear HI;go_wp2;go_ret;exact⟨_,rfl,HF.out,HNV.out⟩
theorem zja (m:Nat)(hm:m≤1000)(W:World):(Instr.makeSlice 31 (.int .i64 (m:Int)) (.int .i64 (m:Int))).run Tryz.prog W=.ok (.slice (some ⟨W.heap.size,0,none⟩) m m) (W.alloc (.cells (madeCells #[.slice none 0 0] m) 62)):=by
 obtain⟨i0,hi,hz0,hz1,hz2⟩:=info_parts Tryz.infoVec;have h:=run_make (P:=Tryz.prog) W 31 62 i0 (.slice none 0 0) (by kernel_rfl) hi hz0 .i64 .i64 m m (by omega) (by omega) (by rw [hz2];omega) (by omega);rw [hz1,Int.toNat_natCast,Nat.mul_one] at h;exact h
theorem RowsI.put{m Q:Nat}{rows:List (List Int)}{N:Nat}{r:List Int}(h:RowsI w W B m rows k N)(hk:k<m)(hb:Below W.heap.size W W2)(hr:rows.getD k []=r)
  (hv:VecN W2 (.slice (some ⟨Q,0,none⟩) r.length r.length) r N) (hQ:Q<W2.heap.size) (hne:Q≠B):RowsI w (W2.setCell ⟨B,k,none⟩ (.slice (some ⟨Q,0,none⟩) r.length r.length)) B m rows (k+1) N:=by
 subst hr;have h2:=h.later hb;have hnil:=h2.nil k zL hk;have hu:∀ z,(Value.slice none 0 0)≠.int .u32 z:=fun z e=>by cases e
 refine⟨h2.low.setCell (p:=⟨B,k,none⟩) h2.high _,h2.high,by simpa using h2.lt,?_,fun i h1 h3=>?_,fun i hi=>?_⟩
 ·obtain⟨cs,t,e⟩:=h2.blk;exact⟨_,t,heap_setCell_same W2 B k _ _ _ e⟩
 ·exact(World.cell?_setCell_other (h:=fun e=>by simp at e <;> omega) ..).trans (h2.nil i (by omega) h3)
 ·by_cases e:i=k
  ·subst e;exact⟨Q,World.cell?_setCell_same (h:=hnil) ..,hv.other hne hnil hu,by simpa using hQ,hne⟩
  ·obtain⟨Q',e',hv',hq',hne'⟩:=h2.row i (by omega);exact⟨Q',(World.cell?_setCell_other (h:=fun e=>by simp at e <;> omega) ..).trans e',hv'.other hne' hnil hu,by simpa using hq',hne'⟩
theorem nb2:∀ n,n<5→nbK n (n*2+2) 2 n≤100000:=by decide
def BasPost (w:World)(x:Nmd)(e:Ending)(w':World):Prop:=
 ((nmF x≠0∧e=.returned (.tuple #[.agg #[.int .i64 0,.slice none 0 0],errV (nmF x)])) ∨
  (∃(n:Nat) (u:Value) (hs:List (List Int)),nmF x=0∧x.n=(n:Int)∧1≤n∧n≤4∧e=.returned (.tuple #[u,.nilIface])∧LatN w' u n hs (n*2+2)∧Alikes n (InL hs) (InL x.gens)))∧Below w.heap.size w w'
theorem zgp (w:World)(q:Nc)(hq:NcIn w q)(hl:q.x.gens.length≤1000)(hg:∀ g∈q.x.gens,g.length≤1000000):
  Calls Tryz.prog 7 #[q.val] w fun e w'=>BasPost w q.x e w':=by
 obtain⟨⟨nm,n,gens⟩,go,gl,gc⟩:=q;have hin:RowsS w (.slice go gl gc) gens:=hq;dsimp only at hl hg;have hgl:gl=gens.length:=by
  obtain⟨_,_,e,-⟩:=id hin;simp only [zV] at e;exact e.2.1
 subst hgl;have HIN:=hide hin;have HG:=hide hg;clear hq hin hg;show Calls _ _ #[.agg #[.string nm,.int .i64 n,.slice go gens.length gc]] w _;have hb1:=zi w (.cells #[.string nm,.int .i64 n,.slice go gens.length gc] 25);have hs1:(w.alloc (.cells #[.string nm,.int .i64 n,.slice go gens.length gc] 25)).heap.size=w.heap.size+1:=by simp
 have hb2:=zi (w.alloc (.cells #[.string nm,.int .i64 n,.slice go gens.length gc] 25)) (.cells #[.int .i64 0,.slice none 0 0] 33);have X10:=hide ((ThreeV.new w (.string nm) (.int .i64 n) (.slice go gens.length gc) 25).later hb2);have X20:Hid (Box ((w.alloc (.cells #[.string nm,.int .i64 n,.slice go gens.length gc] 25)).alloc (.cells #[.int .i64 0,.slice none 0 0] 33)) (w.heap.size+1) (.int .i64 0) (.slice none 0 0)):=zl _ _ _ _ _ hs1.symm;have HS0:Hid (((w.alloc (.cells #[.string nm,.int .i64 n,.slice go gens.length gc] 25)).alloc (.cells #[.int .i64 0,.slice none 0 0] 33)).heap.size=w.heap.size+2):=by show _=_;simp
 have HB0:=hide (hb1.trans (hb2.mono hb1.size));clear hb1 hs1 hb2;obtain⟨c0,c1,c2,-⟩:=X10.out;obtain⟨d0,d1,z0,z1⟩:=X20.out;have HCK:=hide (fun(W:World) (hb:Below w.heap.size w W)=>zd0 W ⟨⟨nm,n,gens⟩,go,gens.length,gc⟩ (NcIn.below (q:=⟨⟨nm,n,gens⟩,go,gens.length,gc⟩) HIN.out hb) hl HG.out);go_enter Tryz.func7,Tryz.ntmps7;go_wp2_with fail;generalize (w.alloc (.cells #[.string nm,.int .i64 n,.slice go gens.length gc] 25)).alloc (.cells #[.int .i64 0,.slice none 0 0] 33)=W0 at *;refine(HCK.out W0 HB0.out).mono ?_;rintro e w1 ⟨rfl,hb1⟩;have X1:=hide (X10.out.later hb1);have X2:=hide (X20.out.later hb1 (by have:=HS0.out;omega));have HB:=hide (HB0.out.trans (hb1.mono HB0.out.size));have HS1:Hid (w.heap.size+2≤w1.heap.size):=by have h1:=HS0.out;have h2:=hb1.size;show _≤_;omega
 clear hb1 HB0 X10 X20 HS0 c0 c1 c2 d0 d1 z0 z1 HCK;obtain⟨c0,c1,c2,-⟩:=X1.out;obtain⟨d0,d1,z0,z1⟩:=X2.out;dsimp only;by_cases h0:nmF ⟨nm,n,gens⟩=0
 ·have hok:=zeT.1 h0;rw [h0];have e0:errV 0=.nilIface:=rfl;rw [e0];obtain⟨N,rfl⟩:=Int.eq_ofNat_of_zero_le (show 0≤n by have:=hok.n.1;dsimp only at this;omega);have hN1:1≤N:=by have:=hok.n.1;dsimp only at this;omega
  have hN4:N≤4:=by have:=hok.n.2;dsimp only at this;omega
  have HLN:Hid (∀ us∈gens,us.length=N):=fun us hu=>by have:=(zag.1 (hok.gens us hu)).1;dsimp only at this;omega
  have hg10:gens.length≤10:=hok.few;have HFIN:Hid (∀(u:Value) (hs:List (List Int)) (w':World),LatN w' u N hs (N*2+2)→Alikes N (InL hs) (InL gens)→Below w.heap.size w w'→BasPost w ⟨nm,(N:Int),gens⟩ (.returned (.tuple #[u,.nilIface])) w'):=fun u hs w' a1 a2 a3=>⟨.inr ⟨N,u,hs,h0,rfl,hN1,hN4,rfl,a1,a2⟩,a3⟩;have hmk:=zja gens.length (by omega);clear h0 hok e0 HG;have HS:Hid (RowsI w1 (w1.alloc (.cells (madeCells #[.slice none 0 0] gens.length) 62)) w1.heap.size gens.length gens 0 2):=RowsI.start (zB _ _) _ _ _;have X1m:=hide (X1.out.later HS.out.low);have X2m:=hide (X2.out.later HS.out.low (by have:=HS1.out;omega));obtain⟨k0,k1,k2,-⟩:=X1m.out;go_wp2_with fail;clear hmk k0 k1 k2 c0 c1 c2 d0 d1 z0 z1 X1m X2m;go_loopw [22] (fun i wr=>∃ k:Nat,k≤gens.length∧i=.int .i64 k∧Hid (RowsI w1 wr w1.heap.size gens.length gens k 2)) (fun i _=>gens.length-(intOf i).toNat)
  case atStart=>exact⟨0,Nat.zero_le _,rfl,HS⟩
  case round=>
   clear HS;obtain⟨k,hk,rfl,HI⟩:=hrel;have XA:=hide (X1.out.later HI.out.low);have XB:=hide (X2.out.later HI.out.low (by have:=HS1.out;omega));have HBr:=hide (HB.out.trans (HI.out.low.mono HB.out.size));obtain⟨c0,c1,c2,-⟩:=XA.out;obtain⟨d0,d1,z0,z1⟩:=XB.out;by_cases hkl:k<gens.length
   ·obtain⟨go',gc',e,-,hh⟩:=HIN.out;simp only [zV,true_and] at e;obtain⟨rfl,rfl⟩:=e;obtain⟨b,off,rfl,hlt,hc⟩:=hh (by omega);obtain⟨u,hu,hr⟩:=hc k gens[k] (List.getElem?_eq_getElem hkl);obtain⟨uo,uc,rfl⟩:=hr.form;have e0:=(HBr.out.cell (p:=⟨b,off+k,none⟩) hlt).trans hu;have HR:=hide (hr.below HBr.out zL);have HL:Hid (gens[k].length=N):=HLN.out _ (List.getElem_mem hkl);have HGD:Hid (gens.getD k []=gens[k]):=zax hkl;clear hh hc hu hr;generalize gens[k]=g at *;have HOF:=hide (ziA wr (.slice uo g.length uc) g HR.out (by have:=HL.out;omega));have hgN:=HL.out;rw [hgN] at e0 HOF;clear hgN;go_wp2_with fail;refine HOF.out.mono ?_;rintro e w2 ⟨P,rfl,hV,-⟩;have hPB:P≠w1.heap.size:=by have h1:=hV.low;have h2:=HI.out.lt;omega
    have HV:=hide hV;have hb2:=hV.below;have y2:=(HI.out.later hb2).nil k zL hkl;have y3:=(HI.out.later hb2).thaw k;have HP:=hide (HI.out.put hkl hb2 HGD.out hV.vec hV.lt hPB);rw [HL.out] at HP;clear hV hb2 HOF c0 c1 c2 d0 d1 z0 z1 e0;go_wp2;go_roundw
    case rel=>exact⟨k+1,by omega,by go_num,HP⟩
    case measure=>simp [intOf];omega
   ·obtain rfl:k=gens.length:=by omega
    have HM:=hide (HI.out.mat rfl);have HHE:=hide (zhY wr _ gens N 2 HM.out HLN.out hN1 (by omega) (by omega) (nb2 N (by omega)));go_wp2_with fail;refine HHE.out.mono ?_;rintro e w2 ⟨u,hs,p,rfl,hu,hlen,hb2,hF,hA⟩;have hpos:∀ zs∈hs,0<zs.length:=fun zs hz=>by rw [hF.len zs hz];omega
    have XA2:=hide (XA.out.later hb2);have XB2:=hide (XB.out.later hb2 (by have h1:=HS1.out;have h2:=HI.out.low.size;omega));have HB2:=hide (HBr.out.trans (hb2.mono HBr.out.size));clear c0 c1 c2 d0 d1 z0 z1;obtain⟨c0,c1,c2,-⟩:=XA2.out;obtain⟨d0,d1,z0,z1⟩:=XB2.out;have HP:=hide (HFIN.out (.agg #[.int .i64 (N:Int),u]) hs ((w2.setCell ⟨w.heap.size+1,0,none⟩ (.int .i64 (N:Int))).setCell ⟨w.heap.size+1,1,none⟩ u) ⟨⟨u,rfl,hu.setBasis _ _ hpos d0 d1⟩,p,hF⟩ hA ((HB2.out.setCell (p:=⟨w.heap.size+1,0,none⟩) (by show w.heap.size≤w.heap.size+1;omega) _).setCell (p:=⟨w.heap.size+1,1,none⟩) (by show w.heap.size≤w.heap.size+1;omega) _));obtain⟨uo,ucap,rfl,-,-⟩:=hu;clear hF hA hpos hb2 HHE HM;go_wp2;exact bodyPost_ret (v:=.tuple #[.agg #[.int .i64 (N:Int),.slice uo hs.length ucap],.nilIface]) (by simp [results,Tryz.results7,go_sem,d0,d1]) rfl HP.out
 ·have e0:errV (nmF ⟨nm,n,gens⟩)=.iface 66 (.int .i64 (nmF ⟨nm,n,gens⟩:Nat)):=if_neg h0;have HFIN:Hid (∀ w':World,Below w.heap.size w w'→BasPost w ⟨nm,n,gens⟩ (.returned (.tuple #[.agg #[.int .i64 0,.slice none 0 0],.iface 66 (.int .i64 (nmF ⟨nm,n,gens⟩:Nat))])) w'):=fun w' hb=>⟨.inl ⟨h0,by rw [e0]⟩,hb⟩;rw [e0];clear h0 e0;generalize nmF ⟨nm,n,gens⟩=c at *;have HBE:=hide ((HB.out.setCell (p:=⟨w.heap.size+1,0,none⟩) (by show w.heap.size≤w.heap.size+1;omega) (.int .i64 0)).setCell (p:=⟨w.heap.size+1,1,none⟩) (by show w.heap.size≤w.heap.size+1;omega) (.slice none 0 0));go_wp2;exact bodyPost_ret (v:=.tuple #[.agg #[.int .i64 0,.slice none 0 0],.iface 66 (.int .i64 (c:Nat))]) (by simp [results,Tryz.results7,go_sem,d0,d1]) rfl (HFIN.out _ (by first | exact HBE.out | exact HB.out))
def BoxL (W:World)(B:Nat)(u0 u1:Value):Prop:=Box W B u0 u1∧B<W.heap.size
theorem BoxL.later{W':World}{u0 u1:Value}(h:BoxL W B u0 u1)(hb:Below W.heap.size W W'):BoxL W' B u0 u1:=⟨h.1.later hb h.2,zT h.2 hb.size⟩
theorem BoxL.new (W:World)(u0 u1:Value)(t:TypeId):BoxL (W.alloc (.cells #[u0,u1] t)) W.heap.size u0 u1:=⟨zl W u0 u1 t _ rfl,by simp⟩
end Go.Proofs.YtncamilanceahaaGreat
