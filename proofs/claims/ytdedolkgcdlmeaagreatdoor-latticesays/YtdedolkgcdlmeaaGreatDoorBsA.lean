import Derived.Test.YtdedolkgcdlmeaaGreatDoorBesW
set_option maxRecDepth 100000
set_option maxHeartbeats 6400000
set_option linter.unusedSimpArgs false
namespace Go.Proofs.YtdedolkgcdlmeaaGreatDoor
open Go.RowKit Limbs
variable{m i:Nat}
theorem zg4 (w:World)(va:Value)(n nv:Nat)(ts:List (List Int))(ha:MatN w va ts nv)(hl:∀ r∈ts,r.length=n+n)(h1:1≤n)(h4:n≤4)(hm:ts.length≤100):
  Calls Tryz.prog 83 #[va,.int .i64 (n:Int)] w fun e w'=>∃ u,e=.returned u∧MatN w' u (behindL n ts) nv∧Below w.heap.size w w':=by
 obtain⟨j0,hj,hy0,hy1,hy2⟩:=info_parts Tryz.infoVec;have HA:=hide ha;have HL:=hide hl;obtain⟨ao,acap,rfl,-,-⟩:=ha;clear hl;go_enter Tryz.func83,Tryz.ntmps83;go_wp2;go_loopw [5,9] (fun out i wr=>∃(k:Nat) (qs:List (Value × List Int)),k≤ts.length∧i=.int .i64 k∧Hid (GrowV wr w.heap.size out qs nv)∧Hid (qs.map (·.2)=behindL n (ts.take k))∧Hid (Below w.heap.size w wr)) (fun _ i _=>ts.length-(intOf i).toNat)
 case atStart=>exact⟨0,[],Nat.zero_le _,rfl,hide (GrowV.nil _ _ _),hide (by simp [behindL]),hide (zB _ _)⟩
 case round=>
  obtain⟨k,qs,hk,rfl,HGV,HQ,HBE⟩:=hrel;have HQL:Hid (qs.length≤100):=by
   have h1:=congrArg List.length HQ.out;have h2:=zdl n ts k;rw [zM] at h1;show qs.length≤100;omega
  by_cases hkl:k<ts.length
  ·obtain⟨rb,roff,_,e,lr,ru,cu,hru⟩:=HA.out.at k hkl;simp only [zV,true_and] at e;obtain⟨rfl,rfl⟩:=e;have HLU:Hid (ts[k].length=n+n):=HL.out _ (List.getElem_mem hkl);have HSU:=hide (zeD n ts k hkl);generalize ts[k]=us at *;obtain⟨vb,voff,vcap,rfl⟩:=hru.form (by have:=HLU.out;omega);have hcap:n+n≤vcap:=by
    obtain⟨_,_,e,h1,-⟩:=hru;simp only [zV,true_and] at e;have:=HLU.out;omega
   have HU:=hide (hru.below HBE.out zL);have HD:=hide (HU.out.drop (n:=n) (m:=n) HLU.out.symm (by omega));rw [HLU.out] at cu;have c1:=(HBE.out.cell (p:=⟨rb,roff+k,none⟩) lr).trans cu;clear hru cu;go_wp2_with fail;refine(zbU wr _ us nv (by have:=HU.out;rw [HLU.out] at this;exact this) (by have:=HLU.out;omega)).mono ?_;rintro e w1 ⟨rfl,hb1⟩;have HB1:=hide (HBE.out.trans (hb1.mono HBE.out.size));have HG1:=hide (HGV.out.later hb1);have HD1:=hide (HD.out.below hb1 zL);have c2:=(hb1.cell (p:=⟨rb,roff+k,none⟩) (zT lr HBE.out.size)).trans c1;clear hb1 HGV HD HU c1;by_cases hf:(n:Int)≤first us
   ·have g1:decide ((n:Int)≤first us)=true:=decide_eq_true hf;have HQ':Hid ((qs++[((.slice (some ⟨vb,voff+n*2,none⟩) n (vcap-n):Value),us.drop n)]).map (·.2)=behindL n (ts.take (k+1))):=by
     show _=_;rw [List.map_append,HQ.out,HSU.out,if_pos hf];rfl
    have hown:=HG1.out.own;have hall:=HG1.out.all.later ((zB _ _).alloc zL (.cells #[.slice (some ⟨vb,voff+n*2,none⟩) n (vcap-n)] 72));have hbs:=HB1.out.size;have g2:¬(n:Int)<0:=by omega
    clear hf;go_wp2_with (at_builtin;refine zdd rfl _ _ 23 rfl w.heap.size 72 j0 24 (by kernel_rfl) hj hy0 hy1 hy2 u5 qs.length (qs.map (·.1)) rfl (hown.alloc _) hall ⟨w1.heap.size,0,none⟩ 1 (some ⟨vb,voff+n*2,none⟩) n (vcap-n) rfl (World.news_of_block (heap_alloc_new w1 _)) (by unfold maxLen;have:=HQL.out;omega) (by have:=HQL.out;omega) (by simp;omega) ?_);intro g cap' w5 hown5 hgrow5 hall5;have HG5:=hide (zcG (HG1.out.later ((zB _ _).alloc zL _)) (HD1.out.below ((zB _ _).alloc zL _) zL) hown5 hgrow5 hall5);have HB5:=hide ((HB1.out.alloc HB1.out.size _).trans (zcH (HG1.out.later ((zB _ _).alloc zL _)) (by simp;omega) hgrow5));clear hown hall hown5 hgrow5 hall5 HG1 HD1 HB1 c2;go_wp2;go_roundw
    case rel=>exact⟨k+1,_,by omega,by go_num,HG5,HQ',HB5⟩
    case measure=>simp [intOf];omega
   ·have g1:decide ((n:Int)≤first us)=false:=decide_eq_false hf;have HQ':Hid (qs.map (·.2)=behindL n (ts.take (k+1))):=by
     show _=_;rw [HQ.out,HSU.out,if_neg hf,List.append_nil]
    clear hf;go_wp2;go_roundw
    case rel=>exact⟨k+1,_,by omega,by go_num,HG1,HQ',HB1⟩
    case measure=>simp [intOf];omega
  ·obtain rfl:k=ts.length:=by omega
   have HF:Hid (MatN wr u5 (behindL n ts) nv):=by
    have:=HGV.out.mat;rw [HQ.out,List.take_length] at this;exact this
   clear HGV HQ;go_wp2;go_ret;exact⟨_,rfl,HF.out,HBE.out⟩
structure FS (deps:Nat→List Nat)(kv:Nat→Option Value)(Sp:Nat→(Nat→Value)→World→Prop)(w:World)(L:Array Bool)(c:Nat→Value)(W:World):Prop where
 below:Below w.heap.size w W
 plain:∀ i v,L.getD i false=true→kv i=some v→c i=v
 spec:∀ i,L.getD i false=true→Sp i c W
 closed:∀ i,L.getD i false=true→∀ j∈deps i,L.getD j false=true
structure Stays (deps:Nat→List Nat)(Sp:Nat→(Nat→Value)→World→Prop):Prop where
 later:∀ i c W W',Below W.heap.size W W'→Sp i c W→Sp i c W'
 other:∀ i j c v W,j≠i→i ∉ deps j→Sp j c W→Sp j (upd c i v) W
variable {deps:Nat→List Nat}{kv:Nat→Option Value}{Sp:Nat→(Nat→Value)→World→Prop}{Fin:(Nat→Value)→World→Prop}{w W W':World}{L:Array Bool}{c:Nat→Value}
theorem FS.start (w:World)(n:Nat)(c:Nat→Value):FS deps kv Sp w (Array.replicate n false) c w.drew where
 below:=(zB _ _).drew
 plain:=fun i _ h=>by simp [Array.getD] at h
 spec:=fun i h=>by simp [Array.getD] at h
 closed:=fun i h=>by simp [Array.getD] at h
theorem FS.made (h:FS deps kv Sp w L c W)(hst:Stays deps Sp)(hn:L.getD i true=false)(hd:∀ j∈deps i,L.getD j false=true)(hb:Below W.heap.size W W'){v:Value}(hk:∀ u,kv i=some u→v=u)(hnew:Sp i (upd c i v) W'):
  FS deps kv Sp w (L.setIfInBounds i true) (upd c i v) W' where
 below:=h.below.trans (hb.mono h.below.size)
 plain:=fun j u hj hu=>by
  by_cases e:j=i
  ·subst e;rw [zb];exact hk u hu
  ·rw [zc _ _ e];exact h.plain j u (za (fun e'=>e e'.symm) hj) hu
 spec:=fun j hj=>by
  by_cases e:j=i
  ·subst e;exact hnew
  ·have hj':=za (fun e'=>e e'.symm) hj;exact hst.other _ _ _ _ _ e (fun hm=>zy hn (h.closed j hj' i hm)) (hst.later _ _ _ _ hb (h.spec j hj'))
 closed:=fun j hj k hjk=>by
  by_cases ek:i=k
  ·subst ek;exact zaH hn
  ·rw [getD_set_ne false ek];by_cases e:j=i
   ·subst e;exact hd k hjk
   ·exact h.closed j (za (fun e'=>e e'.symm) hj) k hjk
def FSx (deps:Nat→List Nat)(kv:Nat→Option Value)(Sp:Nat→(Nat→Value)→World→Prop)(Fin:(Nat→Value)→World→Prop)(w:World)(m:Nat)(L:Array Bool)(c:Nat→Value)(W:World):Prop:=
 (L.getD m false=false∧FS deps kv Sp w L c W)∨((∀ i,i≤m→L.getD i false=true)∧Fin c W)
theorem FSx.start (w:World)(n m:Nat)(c:Nat→Value):FSx deps kv Sp Fin w m (Array.replicate n false) c w.drew:=
 .inl ⟨by simp [Array.getD],FS.start w n c⟩
theorem FSx.pre(h:FSx deps kv Sp Fin w m L c W)(hi:i≤m)(hn:L.getD i true=false):L.getD m false=false∧FS deps kv Sp w L c W:=by
 rcases h with h |⟨h,-⟩
 ·exact h
 ·exact absurd (h i hi) (zy hn)
theorem FS.next(h:FS deps kv Sp w (L.setIfInBounds i true) c W)(hne:i≠m)(hm:L.getD m false=false):FSx deps kv Sp Fin w m (L.setIfInBounds i true) c W:=
 .inl ⟨by rw [getD_set_ne false hne];exact hm,h⟩
theorem FSx.last(hall:∀ j,j<m→L.getD j false=true)(hn:L.getD m true=false)(hf:Fin c W):FSx deps kv Sp Fin w m (L.setIfInBounds m true) c W:=
 .inr ⟨fun j hj=>by
  by_cases e:m=j
  ·subst e;exact zaH hn
  ·rw [getD_set_ne false e];exact hall j (by omega),hf⟩
theorem FSx.fin(h:FSx deps kv Sp Fin w m L c W)(hall:L.getD m false=true):Fin c W:=by
 rcases h with⟨h,-⟩ |⟨-,h⟩
 ·rw [hall] at h;cases h
 ·exact h
def meetD:Nat→List Nat
 | 1=>[0]
 | 2=>[1]
 | 4=>[3]
 | 6=>[5]
 | 7=>[4,6]
 | 9=>[8]
 | 11=>[10]
 | 12=>[11]
 | 13=>[12]
 | 14=>[9,13]
 | 15=>[7,14]
 | 16=>[2,15]
 | 18=>[16,17]
 | _=>[]
def meetK (A B n:Nat)(u v:Value)(l:Nat):Nat→Option Value
 | 0=>some (.pointer (some ⟨A,0,none⟩))
 | 1=>some (.int .i64 (n:Int))
 | 2=>some (.int .i64 (2 *(n:Int)))
 | 3=>some (.pointer (some ⟨A,1,none⟩))
 | 4=>some u
 | 5=>some (.pointer (some ⟨A,1,none⟩))
 | 6=>some u
 | 8=>some (.pointer (some ⟨B,1,none⟩))
 | 9=>some v
 | 10=>some (.pointer (some ⟨B,1,none⟩))
 | 11=>some v
 | 12=>some (.int .i64 (l:Int))
 | _=>none
def meetS (n nv:Nat)(hs ks:List (List Int))(C:Nat)(i:Nat)(c:Nat→Value)(W:World):Prop:=
 match i with
 | 7=>MatN W (c 7) (besL n hs hs) nv
 | 13=>MatN W (c 13) (List.replicate ks.length []) nv
 | 14=>MatN W (c 14) (besL n ks (List.replicate ks.length [])) nv
 | 15=>∃ rb,c 15=.slice (some ⟨rb,0,none⟩) 2 2∧TwoM W rb (c 7) (c 14) (besL n hs hs) (besL n ks (List.replicate ks.length [])) nv
 | 16=>∃ u ts p,c 16=.agg #[.int .i64 ((n+n:Nat):Int),u]∧MatN W u ts ((n+n)*nv+2)∧FormL (n+n) ts p∧Alikes (n+n) (InL ts) (InL (wideL n hs ks))
 | 17=>∃ B,c 17=.pointer (some ⟨B,0,none⟩)∧C≤B∧B<W.heap.size∧Box W B (.int .i64 0) (.slice none 0 0)
 | _=>True
theorem meetStays (n nv:Nat)(hs ks:List (List Int))(C:Nat):Stays meetD (meetS n nv hs ks C) where
 later:=fun i c W W' hb h=>by
  unfold meetS at h ⊢;split at h
  ·exact h.below hb zL
  ·exact h.below hb zL
  ·exact h.below hb zL
  ·obtain⟨rb,e,h⟩:=h;exact⟨rb,e,h.below hb⟩
  ·obtain⟨u,ts,p,e,h,r⟩:=h;exact⟨u,ts,p,e,h.below hb zL,r⟩
  ·obtain⟨B,e,h1,h2,h3⟩:=h;exact⟨B,e,h1,zT h2 hb.size,h3.later hb h2⟩
  ·trivial
 other:=fun i j c v W hne hm h=>by
  unfold meetS at h ⊢;split at h
  ·rw [zc _ _ hne];exact h
  ·rw [zc _ _ hne];exact h
  ·rw [zc _ _ hne];exact h
  ·simp [meetD] at hm;rw [zc _ _ hne,zc _ _ (fun e=>hm.1 e.symm),zc _ _ (fun e=>hm.2 e.symm)];exact h
  ·rw [zc _ _ hne];exact h
  ·rw [zc _ _ hne];exact h
  ·trivial
def meetFin (n nv:Nat)(hs ks:List (List Int))(w:World)(c:Nat→Value)(W:World):Prop:=
 ∃ B u ts p,c 17=.pointer (some ⟨B,0,none⟩)∧BoxL W B (.int .i64 ((n+n:Nat):Int)) u∧w.heap.size≤B∧MatN W u ts ((n+n)*nv+2)∧FormL (n+n) ts p∧Alikes (n+n) (InL ts) (InL (wideL n hs ks))∧Below w.heap.size w W
theorem zie (w:World)(rb:Nat)(va vb:Value)(xs ys:List (List Int))(n nv:Nat)(i:Int)(hi:i=(n:Int))(h:TwoM w rb va vb xs ys nv)(hl:xs.length+ys.length≤12)(hn1:1≤n)(hn:n≤8)(hr:∀ us∈xs++ys,us.length=n)(hN:nbK n (n*nv+2) nv n≤100000):
  Calls Tryz.prog 81 #[.int .i64 i,.slice (some ⟨rb,0,none⟩) 2 2] w fun e w'=>GenPost w n nv (xs++ys) e w':=by
 subst hi;exact zdE w rb va vb xs ys n nv h hl hn1 hn hr hN
theorem zlq (n:Nat)(h:n≤4):IntKind.i64.wrap (2 *(n:Int))=2 *(n:Int):=(by decide:∀ n:Nat,n<5→IntKind.i64.wrap (2 *(n:Int))=2 *(n:Int)) n (by omega)
def MeetPost (w:World)(n nv:Nat)(hs ks:List (List Int))(e:Ending)(w':World):Prop:=
 ∃ v ms,e=.returned (.tuple #[v,.nilIface])∧LatN w' v n ms ((n+n)*nv+2)∧Below w.heap.size w w'∧Both n ms hs ks
theorem zjk (w:World)(va vb:Value)(n nv:Nat)(hs ks:List (List Int))(ha:LatN w va n hs nv)(hb:LatN w vb n ks nv)(h1:1≤n)(h4:n≤4)(hN:nbK (n+n) ((n+n)*nv+2) nv (n+n)≤100000):
  Calls Tryz.prog 31 #[va,vb] w fun e w'=>MeetPost w n nv hs ks e w':=by
 have HA:=hide ha;have HB:=hide hb;have HN:=hide hN;obtain⟨⟨u,rfl,hu⟩,p,hF⟩:=ha;obtain⟨⟨v,rfl,hv⟩,p',hF'⟩:=hb;have HU0:=hide hu;have HV0:=hide hv;have hl1:=hF.short;have hl2:=hF'.short;have HLH:=hide hF.len;have HLK:=hide hF'.len;have HWR:Hid (∀ us∈besL n hs hs++besL n ks (List.replicate ks.length []),us.length=n+n):=fun us hus=>by
  rcases List.mem_append.1 hus with hh | hh
  ·exact zeH hF.len (fun r hr=>Nat.le_of_eq (hF.len r hr)) us hh
  ·exact zeH hF'.len (fun r hr=>by rw [(List.mem_replicate.1 hr).2];exact Nat.zero_le _) us hh
 obtain⟨uo,ucap,rfl,-,-⟩:=hu;obtain⟨vo,vcap,rfl,-,-⟩:=hv;clear hF hF' hN;have HX:=hide (zaa w (.int .i64 (n:Int)) (.slice uo hs.length ucap) (.int .i64 (n:Int)) (.slice vo ks.length vcap) 55 55);have HY:=hide (zf ((w.alloc (.cells #[.int .i64 (n:Int),.slice uo hs.length ucap] 55)).alloc (.cells #[.int .i64 (n:Int),.slice vo ks.length vcap] 55)) (.int .i64 0) (.slice none 0 0) 55 (w.heap.size+1+1) (by simp));have HZ:=hide ((zB (w.heap.size+2) ((w.alloc (.cells #[.int .i64 (n:Int),.slice uo hs.length ucap] 55)).alloc (.cells #[.int .i64 (n:Int),.slice vo ks.length vcap] 55))).alloc (by simp) (.cells #[.int .i64 0,.slice none 0 0] 55));have HC:=hide (HX.out.1.later HZ.out (by omega));have HD:=hide (HX.out.2.1.later HZ.out (by omega));have HB0:=hide (HX.out.2.2.1.trans (HZ.out.mono (by omega)));have HSZ:Hid (w.heap.size+1+1<(((w.alloc (.cells #[.int .i64 (n:Int),.slice uo hs.length ucap] 55)).alloc (.cells #[.int .i64 (n:Int),.slice vo ks.length vcap] 55)).alloc (.cells #[.int .i64 0,.slice none 0 0] 55)).heap.size):=by show _<_;simp
 obtain⟨c0,c1,z0,z1⟩:=HC.out;obtain⟨d0,d1,y0,y1⟩:=HD.out;go_enter Tryz.func31,Tryz.ntmps31;go_wp2_with fail;clear c0 c1 z0 z1 d0 d1 y0 y1 HX HZ;generalize (((w.alloc (.cells #[.int .i64 (n:Int),.slice uo hs.length ucap] 55)).alloc (.cells #[.int .i64 (n:Int),.slice vo ks.length vcap] 55)).alloc (.cells #[.int .i64 0,.slice none 0 0] 55))=W0 at *;refine(zdp W0 _ _ n nv nv hs ks (by exact HA.out.below HB0.out) (by exact HB.out.below HB0.out) h1 h4).mono ?_;rintro e w1 ⟨rfl,hb1⟩;have HB1:=hide (HB0.out.trans (hb1.mono HB0.out.size));have X2:=hide (HC.out.later hb1 (by have:=HSZ.out;omega));have X3:=hide (HD.out.later hb1 (by have:=HSZ.out;omega));have HE:=hide (HY.out.later hb1 HSZ.out);have HS1:=hide (zT HSZ.out hb1.size);have HU:=hide (HU0.out.below HB1.out zL);have HV:=hide (HV0.out.below HB1.out zL);have HL2:Hid (w.heap.size<w1.heap.size):=by have:=HS1.out;show _<_;omega
 have HL3:Hid (w.heap.size+1<w1.heap.size):=by have:=HS1.out;show _<_;omega
 clear hb1 HC HD HY HSZ HB0 HU0 HV0 HA HB;go_wp2_with fail;refine zE (by kernel_rfl) (by kernel_rfl) (fun L a' w'=>∃ c:Nat→Value,a'=(⟨#[.agg #[.int .i64 (n:Int),.slice uo hs.length ucap],.agg #[.int .i64 (n:Int),.slice vo ks.length vcap],.pointer (some ⟨w.heap.size,0,none⟩),.pointer (some ⟨w.heap.size+1,0,none⟩),.pointer (some ⟨w.heap.size+1+1,0,none⟩),.nilIface,.nilIface,c 17,.agg #[.int .i64 (n:Int),.slice uo hs.length ucap],.agg #[.int .i64 (n:Int),.slice vo ks.length vcap],.nilIface,.nilIface,.bool false,undef,undef,c 0,c 1,c 2,c 3,c 4,c 5,c 6,c 7,c 8,c 9,c 10,c 11,c 12,c 13,c 14,c 15,c 16,undef,undef,undef,undef,undef,undef,undef,undef],[]⟩:Act)∧FSx meetD (meetK (w.heap.size) (w.heap.size+1) n (.slice uo hs.length ucap) (.slice vo ks.length vcap) ks.length) (meetS n nv hs ks w1.heap.size) (meetFin n nv hs ks w1) (w1) 18 L c w') ⟨fun _=>undef,rfl,FSx.start _ _ _ _⟩ ?_ ?_
 ·rintro L a' w' i o ⟨c,rfl,R0⟩ ho hn hdep K hK;have hi:i<19:=(Array.getElem?_eq_some_iff.1 ho).1;obtain⟨hm,R⟩:=R0.pre (by omega) hn;clear R0;rcases(by omega:i=0∨i=1∨i=2∨i=3∨i=4∨i=5∨i=6∨i=7∨i=8∨i=9∨i=10∨i=11∨i=12∨i=13∨i=14∨i=15∨i=16∨i=17∨i=18) with rfl | rfl | rfl | rfl | rfl | rfl | rfl | rfl | rfl | rfl | rfl | rfl | rfl | rfl | rfl | rfl | rfl | rfl | rfl
  ·obtain rfl:=zI ho;have R':=R.made (meetStays n nv hs ks _) hn (fun j hj=>absurd hj (by simp [meetD])) (zB _ _) (v:=(.pointer (some ⟨w.heap.size,0,none⟩))) (fun u h=>zI h) (by simp only [meetS]);clear R;go_simp;exact hK.out _ _ ⟨_,by simp [upd],R'.next (by decide) hm⟩
  ·obtain rfl:=zI ho;have e0:c 0=(.pointer (some ⟨w.heap.size,0,none⟩)):=R.plain 0 _ (hdep ⟨0,.data⟩ (by simp) rfl) rfl;obtain⟨p0,p1,-,-⟩:=X2.out.later R.below HL2.out;have R':=R.made (meetStays n nv hs ks _) hn (fun j hj=>by simp [meetD] at hj;subst hj;exact hdep ⟨_,.data⟩ (by simp) rfl) (zB _ _) (v:=(.int .i64 (n:Int))) (fun u h=>zI h) (by simp only [meetS]);clear R;rw [e0];go_simp;exact hK.out _ _ ⟨_,by simp [upd,e0],R'.next (by decide) hm⟩
  ·obtain rfl:=zI ho;have e1:c 1=(.int .i64 (n:Int)):=R.plain 1 _ (hdep ⟨1,.data⟩ (by simp) rfl) rfl;have R':=R.made (meetStays n nv hs ks _) hn (fun j hj=>by simp [meetD] at hj;subst hj;exact hdep ⟨_,.data⟩ (by simp) rfl) (zB _ _) (v:=(.int .i64 (2 *(n:Int)))) (fun u h=>zI h) (by simp only [meetS]);clear R;rw [e1];go_simp;exact hK.out _ _ ⟨_,by simp [upd,e1,zlq n h4],R'.next (by decide) hm⟩
  ·obtain rfl:=zI ho;have R':=R.made (meetStays n nv hs ks _) hn (fun j hj=>absurd hj (by simp [meetD])) (zB _ _) (v:=(.pointer (some ⟨w.heap.size,1,none⟩))) (fun u h=>zI h) (by simp only [meetS]);clear R;go_simp;exact hK.out _ _ ⟨_,by simp [upd],R'.next (by decide) hm⟩
  ·obtain rfl:=zI ho;have e3:c 3=(.pointer (some ⟨w.heap.size,1,none⟩)):=R.plain 3 _ (hdep ⟨3,.data⟩ (by simp) rfl) rfl;obtain⟨p0,p1,-,-⟩:=X2.out.later R.below HL2.out;have R':=R.made (meetStays n nv hs ks _) hn (fun j hj=>by simp [meetD] at hj;subst hj;exact hdep ⟨_,.data⟩ (by simp) rfl) (zB _ _) (v:=(.slice uo hs.length ucap)) (fun u h=>zI h) (by simp only [meetS]);clear R;rw [e3];go_simp;exact hK.out _ _ ⟨_,by simp [upd,e3],R'.next (by decide) hm⟩
  ·obtain rfl:=zI ho;have R':=R.made (meetStays n nv hs ks _) hn (fun j hj=>absurd hj (by simp [meetD])) (zB _ _) (v:=(.pointer (some ⟨w.heap.size,1,none⟩))) (fun u h=>zI h) (by simp only [meetS]);clear R;go_simp;exact hK.out _ _ ⟨_,by simp [upd],R'.next (by decide) hm⟩
  ·obtain rfl:=zI ho;have e5:c 5=(.pointer (some ⟨w.heap.size,1,none⟩)):=R.plain 5 _ (hdep ⟨5,.data⟩ (by simp) rfl) rfl;obtain⟨p0,p1,-,-⟩:=X2.out.later R.below HL2.out;have R':=R.made (meetStays n nv hs ks _) hn (fun j hj=>by simp [meetD] at hj;subst hj;exact hdep ⟨_,.data⟩ (by simp) rfl) (zB _ _) (v:=(.slice uo hs.length ucap)) (fun u h=>zI h) (by simp only [meetS]);clear R;rw [e5];go_simp;exact hK.out _ _ ⟨_,by simp [upd,e5],R'.next (by decide) hm⟩
  ·obtain rfl:=zI ho;have e4:c 4=(.slice uo hs.length ucap):=R.plain 4 _ (hdep ⟨4,.data⟩ (by simp) rfl) rfl;have e6:c 6=(.slice uo hs.length ucap):=R.plain 6 _ (hdep ⟨6,.data⟩ (by simp) rfl) rfl;rw [e4,e6];go_simp;refine(zeI w' _ _ n nv hs hs (HU.out.below R.below zL) (HU.out.below R.below zL) HLH.out (fun r hr=>Nat.le_of_eq (HLH.out r hr)) rfl h1 h4 (by omega)).mono ?_;rintro e w2 ⟨u7,rfl,m7,hb⟩;have R':=R.made (meetStays n nv hs ks _) hn (fun j hj=>by simp [meetD] at hj;rcases hj with rfl | rfl <;> exact hdep ⟨_,.data⟩ (by simp) rfl) hb (v:=u7) (fun u h=>by cases h) (by show meetS n nv hs ks w1.heap.size 7 _ _;simp only [meetS,zb];exact m7);clear R;clear m7 hb;go_wp2_with fail;exact hK.out _ _ ⟨_,by simp [upd,e4,e6],R'.next (by decide) hm⟩
  ·obtain rfl:=zI ho;have R':=R.made (meetStays n nv hs ks _) hn (fun j hj=>absurd hj (by simp [meetD])) (zB _ _) (v:=(.pointer (some ⟨w.heap.size+1,1,none⟩))) (fun u h=>zI h) (by simp only [meetS]);clear R;go_simp;exact hK.out _ _ ⟨_,by simp [upd],R'.next (by decide) hm⟩
  ·obtain rfl:=zI ho;have e8:c 8=(.pointer (some ⟨w.heap.size+1,1,none⟩)):=R.plain 8 _ (hdep ⟨8,.data⟩ (by simp) rfl) rfl;obtain⟨p0,p1,-,-⟩:=X3.out.later R.below HL3.out;have R':=R.made (meetStays n nv hs ks _) hn (fun j hj=>by simp [meetD] at hj;subst hj;exact hdep ⟨_,.data⟩ (by simp) rfl) (zB _ _) (v:=(.slice vo ks.length vcap)) (fun u h=>zI h) (by simp only [meetS]);clear R;rw [e8];go_simp;exact hK.out _ _ ⟨_,by simp [upd,e8],R'.next (by decide) hm⟩
  ·obtain rfl:=zI ho;have R':=R.made (meetStays n nv hs ks _) hn (fun j hj=>absurd hj (by simp [meetD])) (zB _ _) (v:=(.pointer (some ⟨w.heap.size+1,1,none⟩))) (fun u h=>zI h) (by simp only [meetS]);clear R;go_simp;exact hK.out _ _ ⟨_,by simp [upd],R'.next (by decide) hm⟩
  ·obtain rfl:=zI ho;have e10:c 10=(.pointer (some ⟨w.heap.size+1,1,none⟩)):=R.plain 10 _ (hdep ⟨10,.data⟩ (by simp) rfl) rfl;obtain⟨p0,p1,-,-⟩:=X3.out.later R.below HL3.out;have R':=R.made (meetStays n nv hs ks _) hn (fun j hj=>by simp [meetD] at hj;subst hj;exact hdep ⟨_,.data⟩ (by simp) rfl) (zB _ _) (v:=(.slice vo ks.length vcap)) (fun u h=>zI h) (by simp only [meetS]);clear R;rw [e10];go_simp;exact hK.out _ _ ⟨_,by simp [upd,e10],R'.next (by decide) hm⟩
  ·obtain rfl:=zI ho;have e11:c 11=(.slice vo ks.length vcap):=R.plain 11 _ (hdep ⟨11,.data⟩ (by simp) rfl) rfl;have R':=R.made (meetStays n nv hs ks _) hn (fun j hj=>by simp [meetD] at hj;subst hj;exact hdep ⟨_,.data⟩ (by simp) rfl) (zB _ _) (v:=(.int .i64 (ks.length:Int))) (fun u h=>zI h) (by simp only [meetS]);clear R;rw [e11];go_simp;exact hK.out _ _ ⟨_,by simp [upd,e11],R'.next (by decide) hm⟩
  ·obtain rfl:=zI ho;have e12:c 12=(.int .i64 (ks.length:Int)):=R.plain 12 _ (hdep ⟨12,.data⟩ (by simp) rfl) rfl;have hmk:=zc8 ks.length (by omega) w';have hb:=(zB w'.heap.size w').alloc zL (.cells (madeCells #[.slice none 0 0] ks.length) 72);have m7:=zjg w' ks.length nv;have R':=R.made (meetStays n nv hs ks _) hn (fun j hj=>by simp [meetD] at hj;subst hj;exact hdep ⟨_,.data⟩ (by simp) rfl) hb (v:=.slice (some ⟨w'.heap.size,0,none⟩) ks.length ks.length) (fun u h=>by cases h) (by show meetS n nv hs ks w1.heap.size 13 _ _;simp only [meetS,zb];exact m7);clear R m7 hb;rw [e12];go_simp;exact hK.out _ _ ⟨_,by simp [upd,e12],R'.next (by decide) hm⟩
  ·obtain rfl:=zI ho;have e9:c 9=(.slice vo ks.length vcap):=R.plain 9 _ (hdep ⟨9,.data⟩ (by simp) rfl) rfl;have m13:MatN w' (c 13) (List.replicate ks.length []) nv:=R.spec 13 (hdep ⟨13,.data⟩ (by simp) rfl);rw [e9];go_simp;refine(zeI w' _ _ n nv ks (List.replicate ks.length []) (HV.out.below R.below zL) m13 HLK.out (fun r hr=>by rw [(List.mem_replicate.1 hr).2];exact Nat.zero_le _) (by rw [List.length_replicate]) h1 h4 (by omega)).mono ?_;clear m13;rintro e w2 ⟨u7,rfl,m7,hb⟩;have R':=R.made (meetStays n nv hs ks _) hn (fun j hj=>by simp [meetD] at hj;rcases hj with rfl | rfl <;> exact hdep ⟨_,.data⟩ (by simp) rfl) hb (v:=u7) (fun u h=>by cases h) (by show meetS n nv hs ks w1.heap.size 14 _ _;simp only [meetS,zb];exact m7);clear R;clear m7 hb;go_wp2_with fail;exact hK.out _ _ ⟨_,by simp [upd,e9],R'.next (by decide) hm⟩
  ·obtain rfl:=zI ho;have m7:MatN w' (c 7) (besL n hs hs) nv:=R.spec 7 (hdep ⟨7,.data⟩ (by simp) rfl);have m14:MatN w' (c 14) (besL n ks (List.replicate ks.length [])) nv:=R.spec 14 (hdep ⟨14,.data⟩ (by simp) rfl);obtain⟨o7,k7,e7,-,-⟩:=id m7;obtain⟨o14,k14,e14,-,-⟩:=id m14;rw [e7] at m7;rw [e14] at m14;generalize (besL n hs hs).length=l7 at *;generalize (besL n ks (List.replicate ks.length [])).length=l14 at *;have hb:=(zB w'.heap.size w').alloc zL (.cells #[.slice o7 l7 k7,.slice o14 l14 k14] 23);have HT:TwoM (w'.alloc (.cells #[.slice o7 l7 k7,.slice o14 l14 k14] 23)) w'.heap.size (.slice o7 l7 k7) (.slice o14 l14 k14) (besL n hs hs) (besL n ks (List.replicate ks.length [])) nv:=⟨by simp,by rw [World.cell?_alloc_new];rfl,by rw [World.cell?_alloc_new];rfl,m7.below hb zL,m14.below hb zL⟩;have R':=R.made (meetStays n nv hs ks _) hn (fun j hj=>by simp [meetD] at hj;rcases hj with rfl | rfl <;> exact hdep ⟨_,.data⟩ (by simp) rfl) hb (v:=.slice (some ⟨w'.heap.size,0,none⟩) 2 2) (fun u h=>by cases h) (by show meetS n nv hs ks w1.heap.size 15 _ _;simp only [meetS];rw [zb,zc _ _ (by decide),zc _ _ (by decide),e7,e14];exact⟨_,rfl,HT⟩);clear R m7 m14 hb HT;rw [e7,e14];go_simp;exact hK.out _ _ ⟨_,by simp [upd,e7,e14],R'.next (by decide) hm⟩
  ·obtain rfl:=zI ho;have e2:c 2=(.int .i64 (2 *(n:Int))):=R.plain 2 _ (hdep ⟨2,.data⟩ (by simp) rfl) rfl;obtain⟨rb,e15,HT⟩:∃ rb,c 15=.slice (some ⟨rb,0,none⟩) 2 2∧TwoM w' rb (c 7) (c 14) (besL n hs hs) (besL n ks (List.replicate ks.length [])) nv:=R.spec 15 (hdep ⟨15,.data⟩ (by simp) rfl);rw [e2,e15];go_simp;refine(zie w' rb _ _ (besL n hs hs) (besL n ks (List.replicate ks.length [])) (n+n) nv (2 *(n:Int)) (by omega) HT (by rw [zdn _ _ _ rfl,zdn _ _ _ (by rw [List.length_replicate])];omega) (by omega) (by omega) HWR.out HN.out).mono ?_;clear HT;rintro e w2 ⟨u7,ts,p7,rfl,m7,hb,f7,a7,-⟩;rw [zhb HLH.out] at a7;have R':=R.made (meetStays n nv hs ks _) hn (fun j hj=>by simp [meetD] at hj;rcases hj with rfl | rfl <;> exact hdep ⟨_,.data⟩ (by simp) rfl) hb (v:=.agg #[.int .i64 ((n+n:Nat):Int),u7]) (fun u h=>by cases h) (by show meetS n nv hs ks w1.heap.size 16 _ _;simp only [meetS];rw [zb];exact⟨u7,ts,p7,rfl,m7,f7,a7⟩);clear R;clear m7 hb f7 a7;go_wp2_with fail;exact hK.out _ _ ⟨_,by simp [upd,e2,e15],R'.next (by decide) hm⟩
  ·obtain rfl:=zI ho;have hb:=(zB w'.heap.size w').alloc zL (.cells #[.int .i64 0,.slice none 0 0] 55);have m7:=zf w' (.int .i64 0) (.slice none 0 0) 55 _ rfl;have R':=R.made (meetStays n nv hs ks _) hn (fun j hj=>absurd hj (by simp [meetD])) hb (v:=.pointer (some ⟨w'.heap.size,0,none⟩)) (fun u h=>by cases h) (by show meetS n nv hs ks w1.heap.size 17 _ _;simp only [meetS];rw [zb];exact⟨_,rfl,R.below.size,by simp,m7⟩);clear R m7 hb;go_simp;exact hK.out _ _ ⟨_,by simp [upd],R'.next (by decide) hm⟩
  ·obtain rfl:=zI ho;have t16:=hdep ⟨16,.data⟩ (by simp) rfl;have t17:=hdep ⟨17,.data⟩ (by simp) rfl;have t2:=R.closed 16 t16 2 (by simp [meetD]);have t15:=R.closed 16 t16 15 (by simp [meetD]);have t7:=R.closed 15 t15 7 (by simp [meetD]);have t14:=R.closed 15 t15 14 (by simp [meetD]);have t9:=R.closed 14 t14 9 (by simp [meetD]);have t13:=R.closed 14 t14 13 (by simp [meetD]);have t12:=R.closed 13 t13 12 (by simp [meetD]);have t11:=R.closed 12 t12 11 (by simp [meetD]);have t10:=R.closed 11 t11 10 (by simp [meetD]);have t8:=R.closed 9 t9 8 (by simp [meetD]);have t4:=R.closed 7 t7 4 (by simp [meetD]);have t6:=R.closed 7 t7 6 (by simp [meetD]);have t5:=R.closed 6 t6 5 (by simp [meetD]);have t3:=R.closed 4 t4 3 (by simp [meetD]);have t1:=R.closed 2 t2 1 (by simp [meetD]);have t0:=R.closed 1 t1 0 (by simp [meetD]);have hall:∀ j,j<18→L.getD j false=true:=fun j hj=>by
    rcases(by omega:j=0∨j=1∨j=2∨j=3∨j=4∨j=5∨j=6∨j=7∨j=8∨j=9∨j=10∨j=11∨j=12∨j=13∨j=14∨j=15∨j=16∨j=17) with rfl | rfl | rfl | rfl | rfl | rfl | rfl | rfl | rfl | rfl | rfl | rfl | rfl | rfl | rfl | rfl | rfl | rfl <;> assumption
   obtain⟨u7,ts,p7,e16,m7,f7,a7⟩:∃ u ts p,c 16=.agg #[.int .i64 ((n+n:Nat):Int),u]∧MatN w' u ts ((n+n)*nv+2)∧FormL (n+n) ts p∧Alikes (n+n) (InL ts) (InL (wideL n hs ks)):=R.spec 16 t16;obtain⟨B,e17,hCB,hBl,hbx⟩:∃ B,c 17=.pointer (some ⟨B,0,none⟩)∧w1.heap.size≤B∧B<w'.heap.size∧Box w' B (.int .i64 0) (.slice none 0 0):=R.spec 17 t17;have hbl:=R.below;clear t0 t1 t2 t3 t4 t5 t6 t7 t8 t9 t10 t11 t12 t13 t14 t15 t16 t17;have hpos:∀ us∈ts,0<us.length:=fun us hz=>by rw [f7.len us hz];omega
   obtain⟨o7,k7,e7,-,-⟩:=id m7;have hfin:meetFin n nv hs ks w1 (upd c 18 undef) ((w'.setCell ⟨B,0,none⟩ (.int .i64 ((n+n:Nat):Int))).setCell ⟨B,1,none⟩ u7):=⟨B,u7,ts,p7,by rw [zc _ _ (by decide)];exact e17,⟨hbx.write _ _,by simpa using hBl⟩,hCB,m7.setBasis _ _ hpos hbx.1 hbx.2.1,f7,a7,(hbl.setCell (p:=⟨B,0,none⟩) hCB _).setCell (p:=⟨B,1,none⟩) hCB _⟩;have R':=FSx.last (deps:=meetD) (kv:=(meetK (w.heap.size) (w.heap.size+1) n (.slice uo hs.length ucap) (.slice vo ks.length vcap) ks.length)) (Sp:=meetS n nv hs ks w1.heap.size) (w:=w1) hall hn hfin;obtain⟨b0,b1,b2,b3⟩:=hbx;clear R hfin f7 a7 hbl m7 hall;subst e7;rw [e16,e17];go_simp;exact hK.out _ _ ⟨_,by simp [upd,e16,e17],R'⟩
 rintro L a' w2 ⟨c,rfl,R0⟩ hall;obtain⟨B,u,ts,q,ec,XB,hCB,hm,hf,hal,hb2⟩:=R0.fin (hall 18 (by decide));clear hall R0;have HB2:=hide (HB1.out.trans (hb2.mono HB1.out.size));have HE2:Hid (BoxL w2 (w.heap.size+1+1) (.int .i64 0) (.slice none 0 0)):=hide ⟨HE.out.later hb2 HS1.out,zT HS1.out hb2.size⟩;have HL22:Hid (w.heap.size<w2.heap.size):=zT HL2.out hb2.size;have HNE:Hid (w.heap.size+1+1<B):=zT HS1.out hCB;obtain⟨p0,p1,-,-⟩:=X2.out.later hb2 HL2.out;have HM:=hide hm;have HFT:=hide hf;have HAL:=hide hal;obtain⟨to,tcap,rfl,-,-⟩:=hm;have XB:=hide XB;obtain⟨q0,q1,-,-⟩:=XB.out.1;have HBO:Hid (Both n (behindL n ts) hs ks):=fun v hv=>zfG HLH.out HLK.out HFT.out HAL.out hv;obtain⟨r,hr⟩:=zbL HFT.out;have HFR:=hide hr;clear hf hal hb2 X2 X3 HE HS1 HL2 HL3 HU HV HN HWR HLH HLK hr;rw [ec];go_wp2_with fail;refine zq (S:=(fun w'=>w'.cell? ⟨w.heap.size,0,none⟩=some (.int .i64 (n:Int))∧w'.cell? ⟨B,1,none⟩=some (.slice to ts.length tcap))) (k:=10) (by kernel_rfl) (by(try dsimp only);go_keep) (fun hHeld=>?_);refine zd 0 32 [] ?_;try simp only [zA]
 refine zd 1 33 [] ?_;try simp only [zA]
 refine zd 2 34 [] ?_;try simp only [zA]
 refine zd 3 35 [] ?_;try simp only [zA]
 refine zd 4 36 [] ?_;try simp only [zA]
 refine zd 5 37 [] ?_;try simp only [zA]
 refine ze 6 (by kernel_rfl) rfl (fun K hK=>?_);go_simp;refine(zg4 _ _ n ((n+n)*nv+2) ts (by exact HM.out.below (zB _ _).drew zL) HFT.out.len h1 h4 (by have:=HFT.out.short;omega)).mono ?_;rintro e w3 ⟨u8,rfl,m8,hb8⟩;have hb3:Below w2.heap.size w2 w3:=(zB _ _).drew.trans (hb8.mono (by simp));obtain⟨o8,c8,rfl,-,-⟩:=id m8;have HM8:=hide m8;have HB3:=hide (HB2.out.trans (hb3.mono HB2.out.size));have HE3:=hide (HE2.out.later hb3);have s0:=(hb3.cell (p:=⟨w.heap.size,0,none⟩) HL22.out).trans p0;have s1:=(hb3.cell (p:=⟨B,1,none⟩) XB.out.2).trans q1;clear m8 hb8 hb3;go_wp2_with fail;refine hK.out _ _ (fun _=>⟨s0,s1⟩) ?_;clear hK K;try simp only [zA]
 have hHeld2:(fun w'=>w'.cell? ⟨w.heap.size,0,none⟩=some (.int .i64 (n:Int))∧w'.cell? ⟨B,1,none⟩=some (.slice to ts.length tcap)) w3:=⟨s0,s1⟩;refine zd 7 39 [] ?_;try simp only [zA]
 obtain⟨f0,f1,f2,f3⟩:=HE3.out.1;have t0:((w3.setCell ⟨w.heap.size+1+1,0,none⟩ (.int .i64 (n:Int))).setCell ⟨w.heap.size+1+1,1,none⟩ (.slice o8 (behindL n ts).length c8)).cell? ⟨w.heap.size,0,none⟩=some (.int .i64 (n:Int)):=(World.cell?_setCell_other (h:=fun e=>by simp at e <;> omega) ..).trans ((World.cell?_setCell_other (h:=fun e=>by simp at e <;> omega) ..).trans s0);have t1:((w3.setCell ⟨w.heap.size+1+1,0,none⟩ (.int .i64 (n:Int))).setCell ⟨w.heap.size+1+1,1,none⟩ (.slice o8 (behindL n ts).length c8)).cell? ⟨B,1,none⟩=some (.slice to ts.length tcap):=(World.cell?_setCell_other (h:=fun e=>by simp at e <;>(have:=HNE.out;omega)) ..).trans ((World.cell?_setCell_other (h:=fun e=>by simp at e <;>(have:=HNE.out;omega)) ..).trans s1);refine ze 8 (by kernel_rfl) rfl (fun K hK=>?_);go_simp;refine hK.out _ _ (fun _=>⟨t0,t1⟩) ?_;clear hK K;try simp only [zA]
 refine ze 9 (by kernel_rfl) rfl (fun K hK=>?_);go_simp;refine hK.out _ _ (fun _=>⟨t0,t1⟩) ?_;clear hK K;try simp only [zA]
 refine zk (by kernel_rfl) ?_;have HP:Hid (MeetPost w n nv hs ks (.returned (.tuple #[.agg #[.int .i64 (n:Int),.slice o8 (behindL n ts).length c8],.nilIface])) ((w3.setCell ⟨w.heap.size+1+1,0,none⟩ (.int .i64 (n:Int))).setCell ⟨w.heap.size+1+1,1,none⟩ (.slice o8 (behindL n ts).length c8))):=⟨_,_,rfl,⟨⟨_,rfl,HM8.out.setBasis _ _ (fun us hz=>by rw [HFR.out.len us hz];omega) f0 f1⟩,r,HFR.out⟩,(HB3.out.setCell (by simp;omega) _).setCell (by simp;omega) _,HBO.out⟩;clear t0 t1 s0 s1 p0 p1 q0 q1 HM8 HFR HBO HB3 HE3 HM HFT HAL XB HB2 HE2;go_wp2;exact bodyPost_ret (v:=.tuple #[.agg #[.int .i64 (n:Int),.slice o8 (behindL n ts).length c8],.nilIface]) (by simp [results,Tryz.results31,go_sem,f0,f1]) rfl HP.out
open Digs
def errOf (c:Int):Value:=if c=0 then .nilIface else .iface 102 (.int .i64 c)
theorem zcf (c:Int)(h:0≤c)(W:World):Calls Tryz.prog 13 #[errOf c,.int .i64 c] W fun e w'=>e=.returned (.bool true)∧w'=W:=by
 unfold errOf;by_cases e:c=0
 ·rw [if_pos e,e];exact zgi W
 ·rw [if_neg e];exact zkm c (by omega) W
end Go.Proofs.YtdedolkgcdlmeaaGreatDoor
