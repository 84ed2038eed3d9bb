import Derived.Test.YtdedolkgcdlmeaaGreatDoorTurnA
set_option maxRecDepth 100000
set_option maxHeartbeats 4000000
set_option linter.unusedSimpArgs false
namespace Go.Proofs.YtdedolkgcdlmeaaGreatDoor
open Go.RowKit Limbs
variable{n c f:Nat}{p:Nat→Nat}{v:List Int}
theorem zj9 (m:Nat)(hm:m≤1000)(W:World):(Instr.makeSlice 23 (.int .i64 (m:Int)) (.int .i64 (m:Int))).run Tryz.prog W=.ok (.slice (some ⟨W.heap.size,0,none⟩) m m) (W.alloc (.cells (madeCells #[.slice none 0 0] m) 72)):=by
 obtain⟨i0,hi,hz0,hz1,hz2⟩:=info_parts Tryz.infoVec;have h:=run_make (P:=Tryz.prog) W 23 72 i0 (.slice none 0 0) (by kernel_rfl) hi hz0 .i64 .i64 m m (by omega) (by omega) (by rw [hz2];omega) (by omega);rw [hz1,Int.toNat_natCast,Nat.mul_one] at h;exact h
def colL (hs:List (List Int))(k:Nat):List Int:=hs.map fun r=>r.getD k 0
theorem zk1 (w:World)(va:Value)(n nv:Nat)(hs:List (List Int))(ha:MatN w va hs nv)(hl:∀ r∈hs,r.length=n)(hn:n≤100)(hm:hs.length≤100):
  Calls Tryz.prog 65 #[va,.int .i64 (n:Int)] w fun e w'=>∃ O vs ps,e=.returned (.slice (some ⟨O,0,none⟩) n n)∧OutG w w' O n vs ps nv∧∀ i,i<n→(ps i).map (·.2)=colL hs i:=by
 obtain⟨i0,hi,hz0,hz1,hz2⟩:=info_parts Tryz.infoNum;have HA:=hide ha;have HL:=hide hl;obtain⟨ao,acap,rfl,-,-⟩:=ha;clear hl;have hmk:=zj9 n (by omega);have HO0:=hide (OutG.start (zB w.heap.size w) n nv);go_enter Tryz.func65,Tryz.ntmps65;go_wp2;clear hmk;go_loopw [11] (fun x wr=>∃(k:Nat) (vs:Nat→Value) (ps:Nat→List (Nm × Int)),k≤n∧x=.int .i64 k∧Hid (OutG w wr w.heap.size n vs ps nv)∧Hid (∀ i,i<k→(ps i).map (·.2)=colL hs i)∧Hid (∀ i,k≤i→ps i=[])) (fun x _=>n-(intOf x).toNat)
 case atStart=>exact⟨0,_,_,Nat.zero_le _,rfl,HO0,hide (fun i hi=>absurd hi (Nat.not_lt_zero i)),hide (fun _ _=>rfl)⟩
 case round=>
  clear HO0;obtain⟨k,vs,ps,hk,rfl,HO,HD,HE⟩:=hrel;by_cases hkl:k<n
  ·go_wp2;go_loopw [16] (fun y wr=>∃(q:Nat) (vs:Nat→Value) (ps:Nat→List (Nm × Int)),q≤hs.length∧y=.int .i64 q∧Hid (OutG w wr w.heap.size n vs ps nv)∧Hid (∀ i,i<k→(ps i).map (·.2)=colL hs i)∧Hid ((ps k).map (·.2)=colL (hs.take q) k)∧Hid (∀ i,k<i→ps i=[])) (fun y _=>hs.length-(intOf y).toNat)
   case atStart=>exact⟨0,_,_,Nat.zero_le _,rfl,HO,HD,hide (by rw [HE.out k zL];rfl),hide (fun i hi=>HE.out i (Nat.le_of_lt hi))⟩
   case round=>
    clear HO HD HE vs ps;obtain⟨q,vs,ps,hq,rfl,HO,HD,HM,HE⟩:=hrel;by_cases hql:q<hs.length
    ·obtain⟨rb,roff,_,e,lr,ru,cu,hru⟩:=HA.out.at q hql;simp only [zV,true_and] at e;obtain⟨rfl,rfl⟩:=e;have hul:hs[q].length=n:=HL.out _ (List.getElem_mem hql);have HTK:Hid (colL (hs.take (q+1)) k=colL (hs.take q) k++[hs[q].getD k 0]):=by
      show _=_;unfold colL;rw [List.take_succ_eq_append_getElem hql,List.map_append];rfl
     obtain⟨vb,voff,vcap,rfl⟩:=hru.form (by omega);obtain⟨lv,neg,lo,ll,lc,z0,z1,nz⟩:=hru.at k (by omega);have c9:=(HO.out.low.cell (p:=⟨rb,roff+q,none⟩) lr).trans cu;have c12:=(HO.out.low.cell (p:=⟨vb,voff+k*2,none⟩) lv).trans z0;have c13:=(HO.out.low.cell (p:=⟨vb,voff+k*2+1,none⟩) lv).trans z1;have HNZ:Hid (NumL w (Nm.val ⟨neg,lo,ll,lc⟩) (hs[q].getD k 0) nv):=nz;have HPL:Hid ((ps k).length=q):=by
      have h1:=congrArg List.length HM.out;unfold colL at h1;rw [zM,zM,List.length_take] at h1;show _=_;omega
     rw [hul] at c9;clear hru cu z0 z1 nz hul;generalize hs[q].getD k 0=z at *;have c5:=HO.out.cell k hkl;have HC5:=hide c5;obtain⟨vo,vl,vc,hvk⟩:∃ vo vl vc,vs k=.slice vo vl vc:=by
      rcases(HO.out.grow k hkl).1.2 with⟨e1,-⟩ |⟨g',cap',cur,e1,-⟩
      ·exact⟨_,_,_,e1⟩
      ·exact⟨_,_,_,e1⟩
     rw [hvk] at c5;have hOlt:=HO.out.lt;have hfO:=HO.out.thaw k;have HVK:=hide hvk;clear hvk;have HOA:=hide (HO.out.later (W':=wr.drew.alloc (.cells #[.bool neg,.slice lo ll lc] 29)) ((zB _ _).drew.alloc zL _));have hrb:rb<wr.heap.size:=zT lr HO.out.low.size;have hvb:vb<wr.heap.size:=zT lv HO.out.low.size;have HRB:Hid (some rb≠(vs k).ownBlock):=fun e=>by have:=((HO.out.grow k hkl).1.lt rb e.symm).1;omega
     have HVB:Hid (some vb≠(vs k).ownBlock):=fun e=>by have:=((HO.out.grow k hkl).1.lt vb e.symm).1;omega
     have HON:=hide (HO.out.own_ne hkl);have hws:=HO.out.low.size;go_wp2_with fail;refine zp (S:=(fun w'=>w'.cell? ⟨w.heap.size,k,none⟩=some (.slice vo vl vc)∧w'.cell? ⟨rb,roff+q,none⟩=some (.slice (some ⟨vb,voff,none⟩) n vcap)∧w'.cell? ⟨vb,voff+k*2,none⟩=some (.bool neg)∧w'.cell? ⟨vb,voff+k*2+1,none⟩=some (.slice lo ll lc))) (k:=16) (by kernel_rfl) (by exact⟨c5,c9,c12,c13⟩) (fun hHeld=>?_);refine zd 0 19 [16] ?_;try simp only [zA]
     refine zd 1 20 [16] ?_;try simp only [zA]
     refine zd 2 21 [16] ?_;try simp only [zA]
     refine zd 3 22 [16] ?_;try simp only [zA]
     refine zd 4 23 [16] ?_;try simp only [zA]
     refine zd 5 24 [16] ?_;try simp only [zA]
     refine zd 6 25 [16] ?_;try simp only [zA]
     refine zd 7 26 [16] ?_;try simp only [zA]
     refine zd 8 27 [16] ?_;try simp only [zA]
     refine zd 9 28 [16] ?_;try simp only [zA]
     refine zd 10 29 [16] ?_;try simp only [zA]
     refine zd 11 30 [16] ?_;try simp only [zA]
     refine zd 12 31 [16] ?_;try simp only [zA]
     refine ze 13 (by kernel_rfl) rfl (fun K hK=>?_);go_simp;have hbA:Below wr.heap.size wr (wr.drew.alloc (.cells #[.bool neg,.slice lo ll lc] 29)):=(zB _ _).drew.alloc zL _;have d5:=(hbA.cell (p:=⟨w.heap.size,k,none⟩) hOlt).trans c5;have d9:=(hbA.cell (p:=⟨rb,roff+q,none⟩) hrb).trans c9;have d12:=(hbA.cell (p:=⟨vb,voff+k*2,none⟩) hvb).trans c12;have d13:=(hbA.cell (p:=⟨vb,voff+k*2+1,none⟩) hvb).trans c13;refine hK.out _ _ (fun _=>⟨d5,d9,d12,d13⟩) ?_;clear hK K;try simp only [zA]
     refine ze 14 (by kernel_rfl) rfl (fun K hK=>?_);refine step_append_lies _ rfl (.tmp 24) (.tmp 32) 72 rfl w.heap.size 29 i0 (.agg #[.bool false,.slice none 0 0]) 2 32 (by kernel_rfl) hi hz0 hz1 hz2 rfl (by decide) (.slice vo vl vc) (ps k).length ((ps k).flatMap ncells) rfl (by have:=(HOA.out.grow k hkl).1;rw [HVK.out] at this;exact this) ⟨wr.heap.size,0,none⟩ 1 1 [.bool neg,.slice lo ll lc] rfl rfl (World.news_of_block (heap_alloc_new wr.drew _)) (fun u hu=>by simp only [List.mem_cons,List.mem_nil_iff,or_false] at hu;rcases hu with rfl | rfl <;> rfl) (by decide) (by unfold maxLen;have:=HPL.out;omega) (by have:=HPL.out;omega) (by simp;omega) (wr.heap.size+1) (by simp) ?_;intro g5 cap5 w5 hown5 hgrow5 hat5 hlt5;have HO5:=hide hown5;have HG5:=hide hgrow5;have HA5:=hide hat5;clear hown5 hgrow5 hat5 hlt5;have e5:=HG5.out.cell d5 (by rw [← HVK.out];exact HON.out);have e9:=HG5.out.cell d9 (by rw [← HVK.out];exact HRB.out);have e12:=HG5.out.cell d12 (by rw [← HVK.out];exact HVB.out);have e13:=HG5.out.cell d13 (by rw [← HVK.out];exact HVB.out);refine hK.out _ _ (fun _=>⟨e5,e9,e12,e13⟩) ?_;clear hK K;try simp only [zA]
     have hHeld5:(fun w'=>w'.cell? ⟨w.heap.size,k,none⟩=some (.slice vo vl vc)∧w'.cell? ⟨rb,roff+q,none⟩=some (.slice (some ⟨vb,voff,none⟩) n vcap)∧w'.cell? ⟨vb,voff+k*2,none⟩=some (.bool neg)∧w'.cell? ⟨vb,voff+k*2+1,none⟩=some (.slice lo ll lc)) w5:=⟨e5,e9,e12,e13⟩;clear hHeld;refine zd 15 34 [16] ?_;try simp only [zA]
     have HP:=hide (HOA.out.push hkl [(⟨neg,lo,ll,lc⟩,z)] (fun p hp=>by rw [List.mem_singleton] at hp;subst hp;exact HNZ.out.below HOA.out.low zL) (fun i hi p hp=>by rw [List.mem_singleton] at hp;subst hp;exact HOA.out.old HNZ.out hi) (L:=(ps k).length+1) rfl (by have:=HO5.out;simpa [ncells] using this) (by rw [HVK.out];exact HG5.out) (by rw [HVK.out];exact HA5.out.imp id fun h=>by rw [h];simp));have ef:w5.frozen? ⟨w.heap.size,k,none⟩=false:=by
      have h1:=HOA.out.thaw k;rw [World.frozen?_of_block (a:=⟨w.heap.size,k,none⟩) (HG5.out.block w.heap.size HOA.out.lt (by rw [← HVK.out];exact HON.out))];exact h1
     refine ze 16 (by kernel_rfl) rfl (fun K hK=>?_);go_simp;refine hK.out _ _ (fun h=>absurd h (by decide)) ?_;clear hK K;try simp only [zA]
     refine zn (by kernel_rfl) ?_;have HD':Hid (∀ i,i<k→(updN ps k (ps k++[(⟨neg,lo,ll,lc⟩,z)]) i).map (·.2)=colL hs i):=fun i hi=>by rw [zaj _ _ _ (by omega)];exact HD.out i hi
     have HM':Hid ((updN ps k (ps k++[(⟨neg,lo,ll,lc⟩,z)]) k).map (·.2)=colL (hs.take (q+1)) k):=by
      show _=_;rw [zay,List.map_append,HM.out,HTK.out];rfl
     have HE':Hid (∀ i,k<i→updN ps k (ps k++[(⟨neg,lo,ll,lc⟩,z)]) i=[]):=fun i hi=>by rw [zaj _ _ _ (by omega)];exact HE.out i hi
     clear c5 c9 c12 c13 d5 d9 d12 d13 e5 e9 e12 e13 ef HO5 HG5 HA5 HOA HO HD HM HE hHeld5;go_wp2;go_roundw
     case rel=>exact⟨q+1,_,_,by omega,by go_num,HP,HD',HM',HE'⟩
     case measure=>simp [intOf];omega
    ·obtain rfl:q=hs.length:=by omega
     rw [List.take_length] at HM;have HD':Hid (∀ i,i<k+1→(ps i).map (·.2)=colL hs i):=fun i hi=>by
      by_cases e:i=k
      ·rw [e];exact HM.out
      ·exact HD.out i (by omega)
     clear HD HM;go_wp2;go_roundw
     case rel=>exact⟨k+1,_,_,by omega,by go_num,HO,HD',hide (fun i hi=>HE.out i (by omega))⟩
     case measure=>simp [intOf];omega
  ·obtain rfl:k=n:=by omega
   go_wp2;go_ret;exact⟨_,_,_,rfl,HO.out,HD.out⟩
def SignPost (w:World)(z:Int)(n:Nat)(ao:Option Addr)(cap:Nat)(e:Ending)(w':World):Prop:=NumPost w z n e w'∧∃ b l,e=.returned (.agg #[.bool b,.slice ao l cap])
theorem zgg (w:World)(neg:Bool)(ao:Option Addr)(cap:Nat)(zs:List Int)(n:Nat)(h:Lim w (.slice ao zs.length cap) zs)(hn:zs.length≤n):
  Calls Tryz.prog 95 #[.bool neg,.slice ao zs.length cap] w fun e w'=>SignPost w (if neg=true then-lv zs else lv zs) n ao cap e w':=by
 have HL:Hid (Lim w (.slice ao zs.length cap) zs):=h;obtain⟨ao',cap',hv,hcap,hlen,hlb,hc⟩:=h;simp only [zV,true_and] at hv;obtain⟨rfl,rfl⟩:=hv;clear hc;go_enter Tryz.func95,Tryz.ntmps95;go_wp2_with fail;refine(zd2 _ _ _ zs (HL.out.below ((zB _ _).alloc zL _) zL)).mono ?_;rintro e w' ⟨m,hm,rfl,hv,hnr,rfl⟩;have HV:Hid (lv (zs.take m)=lv zs):=hv;clear hv;have hl:(zs.take m).length=m:=by rw [List.length_take];omega
 have HL2:=HL.out.take m hm;cases neg
 ·have HF:Hid (NumPost w (lv zs) n (.returned (.agg #[.bool false,.slice ao m cap])) (w.alloc (Obj.cells #[Value.bool false,.slice ao m cap] 29))):=
   ⟨_,rfl,⟨false,_,zs.take m,rfl,HL2.below ((zB _ _).alloc zL _) zL,hnr,fun _=>rfl,HV.out.symm,by omega⟩,(zB _ _).alloc zL _⟩
  go_wp2;exact bodyPost_ret (v:=.agg #[.bool false,.slice ao m cap]) (by simp [results,Tryz.results95,go_sem]) rfl ⟨HF.out,_,_,rfl⟩
 ·by_cases h0:m=0
  ·subst h0;have HF:Hid (NumPost w (-lv zs) n (.returned (.agg #[.bool false,.slice ao 0 cap])) (w.alloc (Obj.cells #[Value.bool false,.slice ao 0 cap] 29))):=
    ⟨_,rfl,⟨false,_,zs.take 0,rfl,HL2.below ((zB _ _).alloc zL _) zL,hnr,fun _=>rfl,by have:=HV.out;simp [lv] at this ⊢;omega,by omega⟩,(zB _ _).alloc zL _⟩
   go_wp2;exact bodyPost_ret (v:=.agg #[.bool false,.slice ao 0 cap]) (by simp [results,Tryz.results95,go_sem]) rfl ⟨HF.out,_,_,rfl⟩
  ·have HF:Hid (NumPost w (-lv zs) n (.returned (.agg #[.bool true,.slice ao m cap])) (w.alloc (Obj.cells #[Value.bool true,.slice ao m cap] 29))):=
    ⟨_,rfl,⟨true,_,zs.take m,rfl,HL2.below ((zB _ _).alloc zL _) zL,hnr,fun h=>absurd h (by omega),by rw [if_pos rfl,HV.out],by omega⟩,(zB _ _).alloc zL _⟩
   have hd:decide (0<m)=true:=by simp;omega
   go_wp2;exact bodyPost_ret (v:=.agg #[.bool true,.slice ao m cap]) (by simp [results,Tryz.results95,go_sem]) rfl ⟨HF.out,_,_,rfl⟩
theorem zjE (w:World)(n:Int)(h0:-9223372036854775808≤n)(h1:n≤9223372036854775807):
  Calls Tryz.prog 53 #[.int .i64 n] w fun e w'=>IntPost w n 2 e w':=by
 by_cases hn:n<0
 ·have hw:IntKind.u64.wrap (-IntKind.u64.wrap n)=-n:=by rw [IntKind.wrap_u64,IntKind.wrap_u64];omega
  have hw2:-n/4294967296%4294967296=-n/4294967296:=by omega
  have HN:=hide (zcD (-n));go_enter Tryz.func53,Tryz.ntmps53;go_wp2_with fail;refine(zgg _ _ _ _ [-n%4294967296,-n/4294967296] 2 (zcA _ _ _ _ (by omega) (by omega) _ (by simp)) zL).mono ?_;rintro e w2 ⟨⟨r,rfl,hr,hb2⟩,sb,sl,es⟩;simp only [Ending.returned.injEq] at es;subst es;obtain⟨c0,c1,f0,f1⟩:=Box.later (B:=w.heap.size) ((zf w _ _ _ _ rfl).later ((zB _ _).alloc (by simp) _:Below (w.heap.size+1) _ _) (by omega)) hb2 (by simp;omega);rw [HN.out,if_pos rfl,Int.neg_neg] at hr;have HF:=hide (fun rn rs (h:NumL w2 (.agg #[.bool rn,rs]) n 2)=>boxed (w:=w) h c0 c1 (by simp) (by simp) ((((zB _ _).alloc zL _).alloc (by simp) _).trans (hb2.mono (by simp;omega))) zL);have HR:=hide hr;clear hb2 hr;go_wp2;exact bodyPost_ret (v:=_) (by simp [results,Tryz.results53,go_sem,c0,c1]) rfl ⟨HF.out _ _ HR.out,fun neg s e a l c h=>by simp only [Ending.returned.injEq,Value.agg.injEq,Array.mk.injEq,List.cons.injEq,and_true] at e;rw [← e.2] at h;simp only [zV,Option.some.injEq] at h;rw [← h.1];simp⟩
 ·have HN:=hide (zcD n);go_enter Tryz.func53,Tryz.ntmps53;go_wp2_with fail;refine(zgg _ _ _ _ [n%4294967296,n/4294967296] 2 (zcA _ _ _ _ (by omega) (by omega) _ (by simp)) zL).mono ?_;rintro e w2 ⟨⟨r,rfl,hr,hb2⟩,sb,sl,es⟩;simp only [Ending.returned.injEq] at es;subst es;obtain⟨c0,c1,f0,f1⟩:=Box.later (B:=w.heap.size) ((zf w _ _ _ _ rfl).later ((zB _ _).alloc (by simp) _:Below (w.heap.size+1) _ _) (by omega)) hb2 (by simp;omega);rw [HN.out,if_neg (by decide)] at hr;have HF:=hide (fun rn rs (h:NumL w2 (.agg #[.bool rn,rs]) n 2)=>boxed (w:=w) h c0 c1 (by simp) (by simp) ((((zB _ _).alloc zL _).alloc (by simp) _).trans (hb2.mono (by simp;omega))) zL);have HR:=hide hr;clear hb2 hr;go_wp2;exact bodyPost_ret (v:=_) (by simp [results,Tryz.results53,go_sem,c0,c1]) rfl ⟨HF.out _ _ HR.out,fun neg s e a l c h=>by simp only [Ending.returned.injEq,Value.agg.injEq,Array.mk.injEq,List.cons.injEq,and_true] at e;rw [← e.2] at h;simp only [zV,Option.some.injEq] at h;rw [← h.1];simp⟩
def NewV (w W:World)(P k:Nat):Prop:=∀ i,i<k→∀ o l c,W.cell? ⟨P,i*2+1,none⟩=some (.slice o l c)→NewSl w (.slice o l c)
theorem NewV.set{w W W2:World}{P k:Nat}{zs:List Int}(h:NewV w W P k)(hv:VecO w W P zs n)(hk:k<zs.length)(hb:Below W.heap.size W W2){o:Option Addr}{l:Nat}(hn:NewSl W (.slice o l c))(rn:Bool):
  NewV w ((W2.setCell ⟨P,k*2,none⟩ (.bool rn)).setCell ⟨P,k*2+1,none⟩ (.slice o l c)) P (k+1):=fun i hi o' l' c' e=>by
 by_cases e1:i=k
 ·subst e1;obtain⟨neg0,o0,l0,c0,k0,k1,-⟩:=(hv.later hb).at i hk;have k1':(W2.setCell ⟨P,i*2,none⟩ (.bool rn)).cell? ⟨P,i*2+1,none⟩=some (.slice o0 l0 c0):=(World.cell?_setCell_other (h:=fun e=>by simp at e) ..).trans k1;rw [World.cell?_setCell_same (h:=k1')] at e;simp only [Option.some.injEq] at e;rw [← e];intro a l2 c2 h2;exact Nat.le_trans hv.below.size (hn a l2 c2 h2)
 ·have e2:((W2.setCell ⟨P,k*2,none⟩ (.bool rn)).setCell ⟨P,k*2+1,none⟩ (.slice o l c)).cell? ⟨P,i*2+1,none⟩=W2.cell? ⟨P,i*2+1,none⟩:=
   (World.cell?_setCell_other (h:=fun e=>by simp at e <;> omega) ..).trans (World.cell?_setCell_other (h:=fun e=>by simp at e <;> omega) ..)
  rw [e2,hb.cell (p:=⟨P,i*2+1,none⟩) hv.lt] at e;exact h i (by omega) o' l' c' e
theorem zjD (w:World)(v:Value)(ks:List Int)(hv:RowS w v ks)(h8:ks.length≤1000):
  Calls Tryz.prog 49 #[v] w fun e w'=>∃ P,e=.returned (.slice (some ⟨P,0,none⟩) ks.length ks.length)∧VecO w w' P ks 2∧NewV w w' P ks.length:=by
 have HV:=hide hv;obtain⟨ao,cap,rfl,-,hk64,-⟩:=hv;have HK:=hide hk64;have hmk:=za8 ks.length (by omega);have HI:=hide (VecO.made w w (zB _ _) ks.length 2);clear hk64;go_enter Tryz.func49,Tryz.ntmps49;go_wp2;clear hmk;go_loopw [10] (fun i wr=>∃ k:Nat,k≤ks.length∧i=.int .i64 k∧VecO w wr w.heap.size (ks.take k++List.replicate (ks.length-k) 0) 2∧Hid (NewV w wr w.heap.size k)) (fun i _=>ks.length-(intOf i).toNat)
 case atStart=>exact⟨0,Nat.zero_le _,rfl,HI.out,hide fun i hi=>absurd hi (Nat.not_lt_zero i)⟩
 case round=>
  clear HI;obtain⟨k,hk,rfl,hinv,HNV⟩:=hrel;have HI:=hide hinv;clear hinv;by_cases hkl:k<ks.length
  ·obtain⟨_,_,e,-,-,hc⟩:=HV.out.below HI.out.below zL;simp only [zV,true_and] at e;obtain⟨rfl,rfl⟩:=e;obtain⟨b,off,rfl,-,hc⟩:=hc (by omega);have c0:=hc k hkl;have HFS:=hide (zbj ks k hkl);have hfl:=zaR ks k hk;have hkl':k<(ks.take k++List.replicate (ks.length-k) 0).length:=by omega
   have H64:=hide (HK.out k);clear hc;generalize ks.getD k 0=z at *;go_wp2_with fail;refine(zjE wr z H64.out.1 H64.out.2).mono ?_;rintro e w2 ⟨⟨r,rfl,hr,hb⟩,hnew⟩;obtain⟨⟨rn,ro,rl,rc⟩,rfl⟩:=hr.nm;have HN2:=hide (HNV.out.set HI.out hkl' hb (hnew _ _ rfl) rn);have HI2:=hide (HI.out.later hb);obtain⟨neg0,o0,l0,c0',k0,k1,-⟩:=HI2.out.at k (by omega);have f0:=HI2.out.thaw (k*2);have f1:=HI2.out.thaw (k*2+1);have hP:=HI2.out.lt;have HN:=hide (HI2.out.set (k:=k) (by omega) hr);rw [HFS.out] at HN;clear hb hr hnew HNV HI HI2 HFS H64 c0;go_wp2;go_roundw
   case rel=>exact⟨k+1,by omega,by go_num,HN.out,HN2⟩
   case measure=>simp [intOf];omega
  ·obtain rfl:k=ks.length:=by omega
   have HF:=hide HI.out.full;clear HI;go_wp2;go_ret;exact⟨_,rfl,HF.out,HNV.out⟩
def behindL (n:Nat)(ts:List (List Int)):List (List Int):=(ts.filter fun r=>decide ((n:Int)≤first r)).map (·.drop n)
theorem zfO (n:Nat)(p:Nat→Nat)(r:Nat)(inc:∀ i k,i<k→k<r→p i<p k):∀ m,m≤r→∃ c,c≤m∧(∀ k,k<c→p k<n)∧∀ k,c≤k→k<m→n≤p k
 | 0,_=>⟨0,Nat.le_refl _,fun k hk=>absurd hk (by omega),fun k _ hk=>absurd hk (by omega)⟩
 | m+1,hm=>by
  obtain⟨c,hc,h1,h2⟩:=zfO n p r inc m (by omega);by_cases h:p m<n
  ·refine⟨m+1,Nat.le_refl _,fun k hk=>?_,fun k h1 h2=>absurd h1 (by omega)⟩;by_cases hkm:k=m
   ·rw [hkm];exact h
   ·exact Nat.lt_trans (inc k m (by omega) (by omega)) h
  ·refine⟨c,by omega,h1,fun k hk hkm=>?_⟩;by_cases e:k=m
   ·rw [e];omega
   ·exact h2 k hk (by omega)
theorem zbk (r:List Int)(n j:Nat):(r.drop n).getD j 0=r.getD (n+j) 0:=by
 rw [zG,List.getElem?_drop,zG]
theorem zdh{m:Nat}{ts:List (List Int)}(F:FormL m ts p):∃ c,c≤ts.length∧(∀ k,k<c→p k<n)∧(∀ k,c≤k→k<ts.length→n≤p k)∧(ts.filter fun r=>decide ((n:Int)≤first r))=ts.drop c:=by
 obtain⟨c,hc,h1,h2⟩:=zfO n p ts.length F.form.inc ts.length zL;refine⟨c,hc,h1,h2,?_⟩;have e:ts=ts.take c++ts.drop c:=(List.take_append_drop c ts).symm
 conv=>lhs;rw [e]
 rw [List.filter_append];have e1:((ts.take c).filter fun r=>decide ((n:Int)≤first r))=[]:=by
  rw [List.filter_eq_nil_iff];intro r hr;obtain⟨k,hk,e⟩:=List.getElem_of_mem hr;rw [List.length_take] at hk;rw [List.getElem_take] at e;have hf:=(F.first (show k<ts.length by omega)).1;have:=h1 k (by omega);rw [← e,hf];simp only [decide_eq_true_eq];omega
 have e2:((ts.drop c).filter fun r=>decide ((n:Int)≤first r))=ts.drop c:=by
  rw [List.filter_eq_self];intro r hr;obtain⟨k,hk,e⟩:=List.getElem_of_mem hr;rw [List.length_drop] at hk;rw [List.getElem_drop] at e;have hf:=(F.first (show c+k<ts.length by omega)).1;have:=h2 (c+k) (by omega) (by omega);rw [← e,hf];simp only [decide_eq_true_eq];omega
 rw [e1,e2,List.nil_append]
theorem zbG{ts:List (List Int)}(k j:Nat)(hk:c+k<ts.length):(((ts.drop c).map (·.drop n)).getD k []).getD j 0=(ts.getD (c+k) []).getD (n+j) 0:=by
 have hl:k<((ts.drop c).map (·.drop n)).length:=by rw [zM,List.length_drop];omega
 rw [zl hl,List.getElem_map,List.getElem_drop,zbk,zl hk]
theorem zbF{ts:List (List Int)}(F:FormL (f+n) ts p):∃ q,FormL n (behindL f ts) q:=by
 obtain⟨c,hc,-,h2,e⟩:=zdh (n:=f) F;refine⟨fun k=>p (c+k)-f,?_⟩;unfold behindL;rw [e];have hl:((ts.drop c).map (·.drop f)).length=ts.length-c:=by rw [zM,List.length_drop]
 refine⟨fun r hr=>?_,?_⟩
 ·obtain⟨s,hs,rfl⟩:=List.mem_map.1 hr;rw [List.length_drop,F.len s (List.mem_of_mem_drop hs)];omega
 ·rw [hl];refine⟨fun i k hik hk=>?_,fun i hi=>?_,fun i b hi hb=>?_,fun i hi=>?_,fun i k hik hk=>?_⟩
  ·have:=F.form.inc (c+i) (c+k) (by omega) (by omega);have:=h2 (c+i) (by omega) (by omega);omega
  ·have:=F.form.lt (c+i) (by omega);have:=h2 (c+i) (by omega) (by omega);omega
  ·rw [zbG i b (by omega)];exact F.form.zero (c+i) (f+b) (by omega) (by omega)
  ·have h3:=h2 (c+i) (by omega) (by omega);rw [zbG i _ (by omega),show f+(p (c+i)-f)=p (c+i) by omega];exact F.form.pos (c+i) (by omega)
  ·have h3:=h2 (c+k) (by omega) (by omega);rw [zbG i _ (by omega),zbG k _ (by omega),show f+(p (c+k)-f)=p (c+k) by omega];exact F.form.red (c+i) (c+k) (by omega) (by omega)
theorem zes{ts:List (List Int)}(F:FormL (f+n) ts p)(hv:v.length=n):Gens n (InL (behindL f ts)) v↔Gens (f+n) (InL ts) (List.replicate f 0++v):=by
 obtain⟨c,hc,h1,h2,e⟩:=zdh (n:=f) F;unfold behindL;rw [e];constructor
 ·intro h;clear hv
  induction h with
  | base hv hl=>
   obtain⟨s,hs,rfl⟩:=List.mem_map.1 hv;have hst:=List.mem_of_mem_drop hs;have hsl:=F.len s hst;obtain⟨k,hk,es⟩:=List.getElem_of_mem hs;rw [List.length_drop] at hk;rw [List.getElem_drop] at es;have es':List.replicate f 0++s.drop f=s:=by
    apply zK (by rw [List.length_append,List.length_replicate,List.length_drop,hsl];omega);intro j hj;rw [List.length_append,List.length_replicate,List.length_drop,hsl] at hj;by_cases hjn:j<f
    ·rw [zaS _ _ _ (by simpa using hjn),zal];have:=F.form.zero (c+k) j (by omega) (by have:=h2 (c+k) (by omega) (by omega);omega);rw [zl (by omega),es] at this;exact this.symm
    ·have hr:=zaT (List.replicate f 0) (s.drop f) (j-f);rw [List.length_replicate,show f+(j-f)=j by omega,zbk,show f+(j-f)=j by omega] at hr;exact hr
   rw [es'];exact .base hst hsl
  | zero=>
   rw [List.replicate_append_replicate];exact .zero
  | comb x y hu hv g1 g2=>
   have:=Gens.comb x y g1 g2;rw [zbh x y _ _ _ _ rfl,zda] at this;exact this
 ·intro h;obtain⟨d,hd⟩:=zas h;have hz:∀ k,k<c→d k=0:=by
   intro k
   induction k using Nat.strongRecOn with
   | _ k ih=>
    intro hk;have hp:=h1 k hk;have ha:=F.form.at_pivot d k (by omega) (fun j hj=>ih j hj (by omega));have hb:(List.replicate f 0++v).getD (p k) 0=sumN ts.length (fun j=>d j *(ts.getD j []).getD (p k) 0):=hd (p k) (by omega);rw [zaS _ _ _ (by simpa using hp),zal] at hb;have hpos:=F.form.pos k (by omega);have h0:d k *(ts.getD k []).getD (p k) 0=0:=ha.symm.trans hb.symm;rcases Int.mul_eq_zero.1 h0 with h | h
    ·exact h
    ·omega
  apply zcw (fun r hr=>?_) hv
  ·refine⟨fun k=>d (c+k),fun b hb=>?_⟩;have hb':(List.replicate f 0++v).getD (f+b) 0=sumN ts.length (fun j=>d j *(ts.getD j []).getD (f+b) 0):=hd (f+b) (by omega);show v.getD b 0=sumN ((ts.drop c).map (·.drop f)).length (fun k=>d (c+k) *(((ts.drop c).map (·.drop f)).getD k []).getD b 0);have hr:=zaT (List.replicate f 0) v b;rw [List.length_replicate] at hr;rw [hr] at hb';rw [hb'];have hl:((ts.drop c).map (·.drop f)).length=ts.length-c:=by rw [zM,List.length_drop]
   rw [hl];have hs:∀ m,c+m≤ts.length→sumN (c+m) (fun k=>d k *(ts.getD k []).getD (f+b) 0)=sumN m (fun k=>d (c+k) *(((ts.drop c).map (·.drop f)).getD k []).getD b 0):=by
    intro m
    induction m with
    | zero=>
     intro _;refine(zm (g:=fun _=>0) fun k hk=>?_).trans (zav _);rw [hz k hk,Int.zero_mul]
    | succ m ih=>
     intro hm;have e1:sumN (c+(m+1)) (fun k=>d k *(ts.getD k []).getD (f+b) 0)=sumN (c+m) (fun k=>d k *(ts.getD k []).getD (f+b) 0)+d (c+m) *(ts.getD (c+m) []).getD (f+b) 0:=rfl;have e2:sumN (m+1) (fun k=>d (c+k) *(((ts.drop c).map (·.drop f)).getD k []).getD b 0)=sumN m (fun k=>d (c+k) *(((ts.drop c).map (·.drop f)).getD k []).getD b 0)+d (c+m) *(((ts.drop c).map (·.drop f)).getD m []).getD b 0:=rfl;rw [e1,e2,ih (by omega),zbG m b (by omega)]
   have:=hs (ts.length-c) (by omega);rw [show c+(ts.length-c)=ts.length by omega] at this;exact this
  ·obtain⟨s,hs,rfl⟩:=List.mem_map.1 hr;rw [List.length_drop,F.len s (List.mem_of_mem_drop hs)];omega
theorem zfs{hs ks ts:List (List Int)}(hl:∀ r∈hs,r.length=n)(kl:∀ r∈ks,r.length=n)(F:FormL (n+n) ts p)(a:Alikes (n+n) (InL ts) (InL (wideL n hs ks)))(hv:v.length=n):Gens n (InL (behindL n ts)) v↔Gens n (InL hs) v∧Gens n (InL ks) v:=
 (zes F hv).trans ((a _).trans (zjf hl kl hv))
def dotL (n:Nat)(r v:List Int):Int:=sumN n (fun b=>r.getD b 0*v.getD b 0)
def unitL (n j:Nat):List Int:=(List.range n).map fun b=>if b=j then 1 else 0
theorem zx (n j:Nat):(unitL n j).length=n:=by simp [unitL]
theorem zax (n j b:Nat)(hb:b<n):(unitL n j).getD b 0=if b=j then 1 else 0:=zbv n _ b hb
def tracedL (ms:List (List Int))(n:Nat):List (List Int):=(List.range n).map fun j=>(ms.map fun r=>r.getD j 0)++unitL n j
theorem zZ (ms:List (List Int))(n:Nat):(tracedL ms n).length=n:=by simp [tracedL]
theorem zcc (ms:List (List Int))(n:Nat):∀ r∈tracedL ms n,r.length=ms.length+n:=by
 intro r hr;obtain⟨j,-,rfl⟩:=List.mem_map.1 hr;rw [List.length_append,zM,zx]
theorem zcb (ms:List (List Int))(n j:Nat)(hj:j<n):(tracedL ms n).getD j []=(ms.map fun r=>r.getD j 0)++unitL n j:=by
 rw [zl (by rw [zZ];exact hj)];simp [tracedL]
theorem zbr (ms:List (List Int))(g:List Int→Int)(i:Nat)(hi:i<ms.length):(ms.map g).getD i 0=g (ms.getD i []):=by
 rw [zl hi,zG,List.getElem?_eq_getElem (by rw [zM];exact hi),Option.getD_some,List.getElem_map]
theorem zhL (n j:Nat)(hj:j<n)(r:List Int):dotL n r (unitL n j)=r.getD j 0:=by
 unfold dotL;refine(zm (g:=fun b=>r.getD b 0*unitR j b) fun b hb=>?_).trans (sum_unit' n j hj r);rw [zax n j b hb];rfl
where
 sum_unit' (n j:Nat) (hj:j<n) (r:List Int):sumN n (fun b=>r.getD b 0*unitR j b)=r.getD j 0:=by
  have:=za9 n j hj (fun b=>r.getD b 0*unitR j b) (fun i _ hij=>by show _ *(if i=j then (1:Int) else 0)=0;rw [if_neg hij,Int.mul_zero]);rw [this];show _ *(if j=j then (1:Int) else 0)=_;rw [if_pos rfl,Int.mul_one]
theorem zhM (n m:Nat)(r:List Int):dotL n r (List.replicate m 0)=0:=by
 unfold dotL;refine(zm (g:=fun _=>0) fun b _=>?_).trans (zav _);rw [zal,Int.mul_zero]
theorem zhK (n:Nat)(r u v:List Int)(x y:Int)(hu:u.length=n)(hv:v.length=n):dotL n r (List.zipWith (fun a b=>x*a+y*b) u v)=x*dotL n r u+y*dotL n r v:=by
 unfold dotL;rw [← zaH,← zaH,← zca];refine zm fun b hb=>?_;rw [zi _ _ _ (by omega) b (by omega),Int.mul_add,← Int.mul_assoc,← Int.mul_assoc,← Int.mul_assoc,← Int.mul_assoc,Int.mul_comm _ x,Int.mul_comm _ y]
theorem zkY (ms:List (List Int))(n:Nat)(z:List Int):Gens (ms.length+n) (InL (tracedL ms n)) z↔∃ v,v.length=n∧z=(ms.map fun r=>dotL n r v)++v:=by
 constructor
 ·intro h
  induction h with
  | base hv hl=>
   obtain⟨j,hj,rfl⟩:=List.mem_map.1 hv;rw [List.mem_range] at hj;refine⟨unitL n j,zx n j,?_⟩;congr 1;exact List.map_congr_left fun r _=>(zhL n j hj r).symm
  | zero=>
   refine⟨List.replicate n 0,by simp,?_⟩;rw [← List.replicate_append_replicate];congr 1;rw [List.map_congr_left (g:=fun _=>(0:Int)) fun r _=>zhM n n r,List.map_const']
  | comb x y _ _ h1 h2=>
   obtain⟨u,hu,rfl⟩:=h1;obtain⟨v,hv,rfl⟩:=h2;refine⟨List.zipWith (fun a b=>x*a+y*b) u v,by rw [zg _ _ _ (by omega)];omega,?_⟩;rw [zbh x y _ _ _ _ (by rw [zM,zM])];congr 1;apply zK (by rw [zg _ _ _ (by rw [zM,zM]),zM,zM]);intro i hi;rw [zg _ _ _ (by rw [zM,zM]),zM] at hi;rw [zi _ _ _ (by rw [zM,zM]) i (by rw [zM];exact hi),zbr _ _ _ hi,zbr _ _ _ hi,zbr _ _ _ hi,zhK n _ u v x y hu hv]
 ·rintro ⟨v,hv,rfl⟩;refine zcw (zcc ms n) (by rw [List.length_append,zM,hv]) ⟨fun k=>v.getD k 0,fun b hb=>?_⟩;rw [zZ];dsimp only;by_cases hbm:b<ms.length
  ·rw [zaS _ _ _ (by rw [zM];exact hbm),zbr _ _ _ hbm];unfold dotL;refine zm fun k hk=>?_;rw [zcb _ _ _ hk,zaS _ _ _ (by rw [zM];exact hbm),zbr _ _ _ hbm,Int.mul_comm]
  ·have e:b=ms.length+(b-ms.length):=by omega
   have g1:=zaT (ms.map fun r=>dotL n r v) v (b-ms.length);rw [zM,← e] at g1;rw [g1];refine((zm (g:=fun k=>v.getD k 0*unitR k (b-ms.length)) fun k hk=>?_).trans (zdZ n (fun k=>v.getD k 0) (b-ms.length) (by omega))).symm;have g2:=zaT (ms.map fun r=>r.getD k 0) (unitL n k) (b-ms.length);rw [zM,← e] at g2;rw [zcb _ _ _ hk,g2,zax n k _ (by omega)];rfl
theorem ziB {ms ts:List (List Int)}(F:FormL (ms.length+n) ts p)(a:Alikes (ms.length+n) (InL ts) (InL (tracedL ms n)))(hv:v.length=n):
  Gens n (InL (behindL ms.length ts)) v↔∀ r∈ms,dotL n r v=0:=by
 rw [zes F hv,a,zkY];constructor
 ·rintro ⟨u,hu,e⟩;have h:=List.append_inj' e (by omega);obtain⟨h1,rfl⟩:=h;intro r hr;have:dotL n r v∈ms.map fun r=>dotL n r v:=List.mem_map.2 ⟨r,hr,rfl⟩;rw [← h1] at this;exact List.eq_of_mem_replicate this
 ·intro h;refine⟨v,hv,?_⟩;congr 1;rw [List.map_congr_left (g:=fun _=>(0:Int)) fun r hr=>h r hr,List.map_const']
end Go.Proofs.YtdedolkgcdlmeaaGreatDoor
