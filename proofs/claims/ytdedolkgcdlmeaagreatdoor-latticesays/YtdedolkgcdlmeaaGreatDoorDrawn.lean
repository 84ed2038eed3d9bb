import Derived.Test.YtdedolkgcdlmeaaGreatDoorMeR
set_option maxRecDepth 100000
set_option maxHeartbeats 4000000
set_option linter.unusedSimpArgs false
namespace Go.Proofs.YtdedolkgcdlmeaaGreatDoor
open Go.RowKit Limbs
variable{m i:Nat}
theorem zew (w:World)(va vo:Value)(n nv:Nat)(hs os:List (List Int))(ha:MatN w va hs nv)(ho:MatN w vo os nv)(hl:∀ r∈hs,r.length=n)(hol:∀ r∈os,r.length≤n)(hlen:os.length=hs.length)(h1:1≤n)(h4:n≤4)(hm:hs.length≤100):
  Calls Tryz.prog 82 #[va,vo] w fun e w'=>∃ u,e=.returned u∧MatN w' u (besL n hs os) nv∧Below w.heap.size w w':=by
 have HA:=hide ha;have HO:=hide ho;have HL:=hide hl;have HOL:=hide hol;have HLN:=hide hlen;have HBL:=hide (zcU n hs os hlen);obtain⟨ao,acap,rfl,-,-⟩:=ha;obtain⟨oo,ocap,rfl,-,-⟩:=ho;clear hl hol hlen;have hmk:=zcN hs.length (by omega);have HS:Hid (RowsI w (w.alloc (.cells (madeCells #[.slice none 0 0] hs.length) 72)) w.heap.size hs.length (besL n hs os) 0 nv):=RowsI.start (zB _ _) _ _ _;go_enter Tryz.func82,Tryz.ntmps82;go_wp2;clear hmk;go_loopw [13] (fun i wr=>∃ k:Nat,k≤hs.length∧i=.int .i64 k∧Hid (RowsI w wr w.heap.size hs.length (besL n hs os) k nv)) (fun i _=>hs.length-(intOf i).toNat)
 case atStart=>exact⟨0,Nat.zero_le _,rfl,HS⟩
 case round=>
  clear HS;obtain⟨k,hk,rfl,HI⟩:=hrel;by_cases hkl:k<hs.length
  ·have hko:k<os.length:=by have:=HLN.out;omega
   obtain⟨rb,roff,_,e,lr,ru,cu,hru⟩:=HA.out.at k hkl;simp only [zV,true_and] at e;obtain⟨rfl,rfl⟩:=e;obtain⟨ob,ooff,_,e,lo,ou,co,hou⟩:=HO.out.at k hko;simp only [zV,true_and] at e;obtain⟨rfl,rfl⟩:=e;have HU:=hide hru;have HZ:=hide hou;have HUL:Hid (hs[k].length=n):=HL.out _ (List.getElem_mem hkl);have HZL:Hid (os[k].length≤n):=HOL.out _ (List.getElem_mem hko);have HGD:=hide (zgX n hs os k hkl hko);generalize hs[k]=us at *;generalize os[k]=zs at *;obtain⟨ruo,rucap,rfl,-,-⟩:=hru;obtain⟨zo,zcap,rfl,-,-⟩:=hou;rw [HUL.out] at cu HU;have c1:=(HI.out.low.cell (p:=⟨rb,roff+k,none⟩) lr).trans cu;have HBA:=hide ((zB wr.heap.size wr).alloc zL (.cells (madeCells #[.bool false,.slice none 0 0] (2*n*2)) 29));have c2:=(HBA.out.cell (p:=⟨w.heap.size,k,none⟩) HI.out.lt).trans (HI.out.nil k zL hkl);have c3:(wr.alloc (.cells (madeCells #[.bool false,.slice none 0 0] (2*n*2)) 29)).frozen? ⟨w.heap.size,k,none⟩=false:=(HI.out.later HBA.out).thaw k;have hmk:∀ W:World,(Instr.makeSlice 72 (.int .i64 (2 *(n:Int))) (.int .i64 (2 *(n:Int)))).run Tryz.prog W=.ok (.slice (some ⟨W.heap.size,0,none⟩) (2*n) (2*n)) (W.alloc (.cells (madeCells #[.bool false,.slice none 0 0] (2*n*2)) 29)):=fun W=>by
    have:=za8 (2*n) (by omega) W
    rwa [show((2*n:Nat):Int)=2 *(n:Int) by omega] at this
   have HV0:=hide (VecO.made w wr HI.out.low (2*n) nv);have HV1:=hide (HV0.out.other (k:=k) (x:=.slice (some ⟨wr.heap.size,0,none⟩) (2*n) (2*n)) (by have:=HI.out.lt;omega) zL c2 (fun z e=>by cases e));have HX1:=hide (zi8 wr (.cells (madeCells #[.bool false,.slice none 0 0] (2*n*2)) 29) w.heap.size k HI.out.lt (.slice (some ⟨wr.heap.size,0,none⟩) (2*n) (2*n)));have d1:=World.cell?_setCell_same (w:=wr.alloc (.cells (madeCells #[.bool false,.slice none 0 0] (2*n*2)) 29)) (v:=.slice (some ⟨wr.heap.size,0,none⟩) (2*n) (2*n)) (h:=c2);clear HV0 HBA;go_wp2_with fail;clear hmk c1 c2 c3;generalize hW2:(wr.alloc (.cells (madeCells #[.bool false,.slice none 0 0] (2*n*2)) 29)).setCell ⟨w.heap.size,k,none⟩ (.slice (some ⟨wr.heap.size,0,none⟩) (2*n) (2*n))=W2 at *;have hlt2:wr.heap.size<W2.heap.size:=HV1.out.lt;clear hW2;generalize hP:wr.heap.size=P at *;have d2:=(HV1.out.below.cell (p:=⟨rb,roff+k,none⟩) lr).trans cu;have HDB:Hid (∀ W',Below P W2 W'→W'.cell? ⟨w.heap.size,k,none⟩=some (.slice (some ⟨P,0,none⟩) (2*n) (2*n))):=fun W' hb=>(hb.cell (p:=⟨w.heap.size,k,none⟩) (by show w.heap.size<P;have:=HI.out.lt;omega)).trans d1;refine zp (S:=(fun w'=>w'.cell? ⟨w.heap.size,k,none⟩=some (.slice (some ⟨P,0,none⟩) (2*n) (2*n))∧w'.cell? ⟨rb,roff+k,none⟩=some (.slice ruo n rucap))) (k:=8) (by kernel_rfl) (by(try dsimp only);go_keep) (fun hHeld=>?_);refine zd 0 27 [2,3,8] ?_;try simp only [zA]
   refine zd 1 28 [2,3,8] ?_;try simp only [zA]
   refine zd 2 29 [3,8] ?_;try simp only [zA]
   refine zd 3 30 [8] ?_;try simp only [zA]
   refine zd 4 31 [6,7,8] ?_;try simp only [zA]
   refine zd 5 32 [6,7,8] ?_;try simp only [zA]
   refine zd 6 33 [7,8] ?_;try simp only [zA]
   refine zd 7 34 [8] ?_;try simp only [zA]
   obtain⟨W3,hcp,hv3,hs3,hb3⟩:=zeI HV1.out.drew 0 0 (2*n) (2*n) rfl (.slice ruo n rucap) us (by have:=HU.out.below HV1.out.drew.below zL;exact this) (by rw [List.length_replicate,HUL.out];omega) (by have:=HUL.out;omega);have HCP:=hide hcp;clear hcp;refine ze 8 (by kernel_rfl) rfl (fun K hK=>?_);refine zgj rfl 35 rfl (.tmp 30) (.tmp 34) 72 72 rfl (.slice (some ⟨P,0,none⟩) (2*n) (2*n)) (.slice ruo n rucap) _ W3 rfl rfl HCP.out ?_;refine hK.out _ _ (fun h=>absurd h (by decide)) ?_;clear hK K;try simp only [zA]
   refine zn (by kernel_rfl) ?_;clear HCP;rw [zku HUL.out] at hv3;have HV3:=hide hv3;have HB3:=hide (show Below P W2 W3 from(zB _ _).drew.trans hb3);have hlt3:P<W3.heap.size:=hv3.lt;clear hv3 hb3 hs3 d1 d2 HV1;go_wp2_with fail;have d1:=HDB.out W3 HB3.out;have g1:(n:Int)≤2 *(n:Int):=by omega
   have g2:¬(2*n=n):=by omega
   have g3:2*n-n=n:=by omega
   have d2:=(HV3.out.below.cell (p:=⟨ob,ooff+k,none⟩) lo).trans co;refine zp (S:=(fun w'=>w'.cell? ⟨w.heap.size,k,none⟩=some (.slice (some ⟨P,0,none⟩) (2*n) (2*n))∧w'.cell? ⟨ob,ooff+k,none⟩=some (.slice zo zs.length zcap))) (k:=10) (by kernel_rfl) (by(try dsimp only);go_keep) (fun hHeld=>?_);refine zd 0 36 [2,3,5,10] ?_;try simp only [zA]
   refine zd 1 37 [2,3,5,10] ?_;try simp only [zA]
   refine zd 2 38 [3,5,10] ?_;try simp only [zA]
   refine zd 3 39 [5,10] ?_;try simp only [zA]
   refine zd 4 40 [5,10] ?_;try simp only [zA]
   refine zd 5 41 [10] ?_;try simp only [zA]
   refine zd 6 42 [8,9,10] ?_;try simp only [zA]
   refine zd 7 43 [8,9,10] ?_;try simp only [zA]
   refine zd 8 44 [9,10] ?_;try simp only [zA]
   refine zd 9 45 [10] ?_;try simp only [zA]
   obtain⟨W4,hcp,hv4,hs4,hb4⟩:=zeI HV3.out.drew n (n*2) n n rfl (.slice zo zs.length zcap) zs (by exact HZ.out.below HV3.out.drew.below zL) (by rw [List.length_append,List.length_replicate,HUL.out];have:=HZL.out;omega) HZL.out;have HCP:=hide hcp;clear hcp;refine ze 10 (by kernel_rfl) rfl (fun K hK=>?_);refine zgj rfl 46 rfl (.tmp 41) (.tmp 45) 72 72 rfl (.slice (some ⟨P,n*2,none⟩) n n) (.slice zo zs.length zcap) _ W4 rfl rfl HCP.out ?_;refine hK.out _ _ (fun h=>absurd h (by decide)) ?_;clear hK K;try simp only [zA]
   refine zn (by kernel_rfl) ?_;clear HCP d1 d2 g1 g2 g3;rw [zkv HUL.out HZL.out] at hv4;have HE:Hid (RowsI w W4 w.heap.size hs.length (besL n hs os) (k+1) nv):=by
    refine HI.out.step_at hkl HGD.out (L:=2*n) (by rw [List.length_append,List.length_append,List.length_replicate,HUL.out];have:=HZL.out;omega) ?_ (by rw [hP];exact hv4.lt) (by rw [hP];exact hv4.vec);rw [hP];exact(HX1.out.trans HB3.out).trans ((zB _ _).drew.trans hb4)
   clear hv4 hs4 hb4 HI HX1 HB3 HV3;go_wp2;go_roundw
   case rel=>exact⟨k+1,by omega,by go_num,HE⟩
   case measure=>simp [intOf];omega
  ·obtain rfl:k=hs.length:=by omega
   have HM:=hide (HI.out.mat HBL.out);have HBE:=hide HI.out.low;clear HI;go_wp2;go_ret;exact⟨_,rfl,HM.out,HBE.out⟩
theorem zgT (w:World)(va:Value)(n nv:Nat)(ts:List (List Int))(ha:MatN w va ts nv)(hl:∀ r∈ts,r.length=n+n)(h1:1≤n)(h4:n≤4)(hm:ts.length≤100):
  Calls Tryz.prog 83 #[va,.int .i64 (n:Int)] w fun e w'=>∃ u,e=.returned u∧MatN w' u (behindL n ts) nv∧Below w.heap.size w w':=by
 obtain⟨j0,hj,hy0,hy1,hy2⟩:=info_parts Tryz.infoVec;have HA:=hide ha;have HL:=hide hl;obtain⟨ao,acap,rfl,-,-⟩:=ha;clear hl;go_enter Tryz.func83,Tryz.ntmps83;go_wp2;go_loopw [5,9] (fun out i wr=>∃(k:Nat) (qs:List (Value × List Int)),k≤ts.length∧i=.int .i64 k∧Hid (GrowV wr w.heap.size out qs nv)∧Hid (qs.map (·.2)=behindL n (ts.take k))∧Hid (Below w.heap.size w wr)) (fun _ i _=>ts.length-(intOf i).toNat)
 case atStart=>exact⟨0,[],Nat.zero_le _,rfl,hide (GrowV.nil _ _ _),hide (by simp [behindL]),hide (zB _ _)⟩
 case round=>
  obtain⟨k,qs,hk,rfl,HGV,HQ,HBE⟩:=hrel;have HQL:Hid (qs.length≤100):=by
   have h1:=congrArg List.length HQ.out;have h2:=zcT n ts k;rw [zM] at h1;show qs.length≤100;omega
  by_cases hkl:k<ts.length
  ·obtain⟨rb,roff,_,e,lr,ru,cu,hru⟩:=HA.out.at k hkl;simp only [zV,true_and] at e;obtain⟨rfl,rfl⟩:=e;have HLU:Hid (ts[k].length=n+n):=HL.out _ (List.getElem_mem hkl);have HSU:=hide (zeq n ts k hkl);generalize ts[k]=us at *;obtain⟨vb,voff,vcap,rfl⟩:=hru.form (by have:=HLU.out;omega);have hcap:n+n≤vcap:=by
    obtain⟨_,_,e,h1,-⟩:=hru;simp only [zV,true_and] at e;have:=HLU.out;omega
   have HU:=hide (hru.below HBE.out zL);have HD:=hide (HU.out.drop (n:=n) (m:=n) HLU.out.symm (by omega));rw [HLU.out] at cu;have c1:=(HBE.out.cell (p:=⟨rb,roff+k,none⟩) lr).trans cu;clear hru cu;go_wp2_with fail;refine(zbN wr _ us nv (by have:=HU.out;rw [HLU.out] at this;exact this) (by have:=HLU.out;omega)).mono ?_;rintro e w1 ⟨rfl,hb1⟩;have HB1:=hide (HBE.out.trans (hb1.mono HBE.out.size));have HG1:=hide (HGV.out.later hb1);have HD1:=hide (HD.out.below hb1 zL);have c2:=(hb1.cell (p:=⟨rb,roff+k,none⟩) (zT lr HBE.out.size)).trans c1;clear hb1 HGV HD HU c1;by_cases hf:(n:Int)≤first us
   ·have g1:decide ((n:Int)≤first us)=true:=decide_eq_true hf;have HQ':Hid ((qs++[((.slice (some ⟨vb,voff+n*2,none⟩) n (vcap-n):Value),us.drop n)]).map (·.2)=behindL n (ts.take (k+1))):=by
     show _=_;rw [List.map_append,HQ.out,HSU.out,if_pos hf];rfl
    have hown:=HG1.out.own;have hall:=HG1.out.all.later ((zB _ _).alloc zL (.cells #[.slice (some ⟨vb,voff+n*2,none⟩) n (vcap-n)] 72));have hbs:=HB1.out.size;have g2:¬(n:Int)<0:=by omega
    clear hf;go_wp2_with (at_builtin;refine zd7 rfl _ _ 23 rfl w.heap.size 72 j0 24 (by kernel_rfl) hj hy0 hy1 hy2 u5 qs.length (qs.map (·.1)) rfl (hown.alloc _) hall ⟨w1.heap.size,0,none⟩ 1 (some ⟨vb,voff+n*2,none⟩) n (vcap-n) rfl (World.news_of_block (heap_alloc_new w1 _)) (by unfold maxLen;have:=HQL.out;omega) (by have:=HQL.out;omega) (by simp;omega) ?_);intro g cap' w5 hown5 hgrow5 hall5;have HG5:=hide (zdp (HG1.out.later ((zB _ _).alloc zL _)) (HD1.out.below ((zB _ _).alloc zL _) zL) hown5 hgrow5 hall5);have HB5:=hide ((HB1.out.alloc HB1.out.size _).trans (zdq (HG1.out.later ((zB _ _).alloc zL _)) (by simp;omega) hgrow5));clear hown hall hown5 hgrow5 hall5 HG1 HD1 HB1 c2;go_wp2;go_roundw
    case rel=>exact⟨k+1,_,by omega,by go_num,HG5,HQ',HB5⟩
    case measure=>simp [intOf];omega
   ·have g1:decide ((n:Int)≤first us)=false:=decide_eq_false hf;have HQ':Hid (qs.map (·.2)=behindL n (ts.take (k+1))):=by
     show _=_;rw [HQ.out,HSU.out,if_neg hf,List.append_nil]
    clear hf;go_wp2;go_roundw
    case rel=>exact⟨k+1,_,by omega,by go_num,HG1,HQ',HB1⟩
    case measure=>simp [intOf];omega
  ·obtain rfl:k=ts.length:=by omega
   have HF:Hid (MatN wr u5 (behindL n ts) nv):=by
    have:=HGV.out.mat;rw [HQ.out,List.take_length] at this;exact this
   clear HGV HQ;go_wp2;go_ret;exact⟨_,rfl,HF.out,HBE.out⟩
structure FS (deps:Nat→List Nat)(kv:Nat→Option Value)(Sp:Nat→(Nat→Value)→World→Prop)(w:World)(L:Array Bool)(c:Nat→Value)(W:World):Prop where
 below:Below w.heap.size w W
 plain:∀ i v,L.getD i false=true→kv i=some v→c i=v
 spec:∀ i,L.getD i false=true→Sp i c W
 closed:∀ i,L.getD i false=true→∀ j∈deps i,L.getD j false=true
structure Stays (deps:Nat→List Nat)(Sp:Nat→(Nat→Value)→World→Prop):Prop where
 later:∀ i c W W',Below W.heap.size W W'→Sp i c W→Sp i c W'
 other:∀ i j c v W,j≠i→i ∉ deps j→Sp j c W→Sp j (upd c i v) W
variable {deps:Nat→List Nat}{kv:Nat→Option Value}{Sp:Nat→(Nat→Value)→World→Prop}{Fin:(Nat→Value)→World→Prop}{w W W':World}{L:Array Bool}{c:Nat→Value}
theorem FS.start (w:World)(n:Nat)(c:Nat→Value):FS deps kv Sp w (Array.replicate n false) c w.drew where
 below:=(zB _ _).drew
 plain:=fun i _ h=>by simp [Array.getD] at h
 spec:=fun i h=>by simp [Array.getD] at h
 closed:=fun i h=>by simp [Array.getD] at h
theorem FS.made (h:FS deps kv Sp w L c W)(hst:Stays deps Sp)(hn:L.getD i true=false)(hd:∀ j∈deps i,L.getD j false=true)(hb:Below W.heap.size W W'){v:Value}(hk:∀ u,kv i=some u→v=u)(hnew:Sp i (upd c i v) W'):
  FS deps kv Sp w (L.setIfInBounds i true) (upd c i v) W' where
 below:=h.below.trans (hb.mono h.below.size)
 plain:=fun j u hj hu=>by
  by_cases e:j=i
  ·subst e;rw [zc];exact hk u hu
  ·rw [zb _ _ e];exact h.plain j u (za (fun e'=>e e'.symm) hj) hu
 spec:=fun j hj=>by
  by_cases e:j=i
  ·subst e;exact hnew
  ·have hj':=za (fun e'=>e e'.symm) hj;exact hst.other _ _ _ _ _ e (fun hm=>zw hn (h.closed j hj' i hm)) (hst.later _ _ _ _ hb (h.spec j hj'))
 closed:=fun j hj k hjk=>by
  by_cases ek:i=k
  ·subst ek;exact zaD hn
  ·rw [getD_set_ne false ek];by_cases e:j=i
   ·subst e;exact hd k hjk
   ·exact h.closed j (za (fun e'=>e e'.symm) hj) k hjk
def FSx (deps:Nat→List Nat)(kv:Nat→Option Value)(Sp:Nat→(Nat→Value)→World→Prop)(Fin:(Nat→Value)→World→Prop)(w:World)(m:Nat)(L:Array Bool)(c:Nat→Value)(W:World):Prop:=
 (L.getD m false=false∧FS deps kv Sp w L c W)∨((∀ i,i≤m→L.getD i false=true)∧Fin c W)
theorem FSx.start (w:World)(n m:Nat)(c:Nat→Value):FSx deps kv Sp Fin w m (Array.replicate n false) c w.drew:=
 .inl ⟨by simp [Array.getD],FS.start w n c⟩
theorem FSx.pre(h:FSx deps kv Sp Fin w m L c W)(hi:i≤m)(hn:L.getD i true=false):L.getD m false=false∧FS deps kv Sp w L c W:=by
 rcases h with h |⟨h,-⟩
 ·exact h
 ·exact absurd (h i hi) (zw hn)
theorem FS.next(h:FS deps kv Sp w (L.setIfInBounds i true) c W)(hne:i≠m)(hm:L.getD m false=false):FSx deps kv Sp Fin w m (L.setIfInBounds i true) c W:=
 .inl ⟨by rw [getD_set_ne false hne];exact hm,h⟩
theorem FSx.last(hall:∀ j,j<m→L.getD j false=true)(hn:L.getD m true=false)(hf:Fin c W):FSx deps kv Sp Fin w m (L.setIfInBounds m true) c W:=
 .inr ⟨fun j hj=>by
  by_cases e:m=j
  ·subst e;exact zaD hn
  ·rw [getD_set_ne false e];exact hall j (by omega),hf⟩
theorem FSx.fin(h:FSx deps kv Sp Fin w m L c W)(hall:L.getD m false=true):Fin c W:=by
 rcases h with⟨h,-⟩ |⟨-,h⟩
 ·rw [hall] at h;cases h
 ·exact h
end Go.Proofs.YtdedolkgcdlmeaaGreatDoor
