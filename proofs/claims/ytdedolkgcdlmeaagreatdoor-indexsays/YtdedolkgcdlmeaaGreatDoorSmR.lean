import Derived.Test.YtdedolkgcdlmeaaGreatDoorDtR
set_option maxRecDepth 100000
set_option maxHeartbeats 12800000
set_option linter.unusedSimpArgs false
namespace Go.Proofs.YtdedolkgcdlmeaaGreatDoor
open Go.RowKit Limbs Digs
variable {W:World}{v u1 u0:Value}{C:Nat}
theorem RowC.at{l:List Nat}(h:RowC W v l)(j:Nat)(hj:j<l.length):∃ b cap,v=.slice (some ⟨b,0,none⟩) l.length cap∧b<W.heap.size∧W.cell? ⟨b,j,none⟩=some (.int .i64 ((l.getD j 0:Nat):Int)):=by
 obtain⟨ao,cap,rfl,h2⟩:=h
 obtain⟨b,cur,fz,rfl,hh,hc⟩:=h2 (by omega)
 exact⟨b,cap,rfl,zq hh,hc j hj⟩
theorem MatC2.at{ls:List (List Nat)}(h:MatC2 W v ls)(i:Nat)(hi:i<ls.length):∃ b cap,v=.slice (some ⟨b,0,none⟩) ls.length cap∧b<W.heap.size∧∃ u,W.cell? ⟨b,i,none⟩=some u∧RowC W u (ls.getD i []):=by
 obtain⟨ao,cap,rfl,h2⟩:=h
 obtain⟨b,rfl,hlt,hc⟩:=h2 (by omega)
 obtain⟨u,h3,h4⟩:=hc i ls[i] (List.getElem?_eq_getElem hi)
 exact⟨b,cap,rfl,hlt,u,h3,by rw [List.getD_eq_getElem?_getD,List.getElem?_eq_getElem hi];exact h4⟩
theorem RowC.setBox{l:List Nat}(h:RowC W v l)(hc:BoxR W C u0 u1)(v0 v1:Value):RowC ((W.setCell ⟨C,0,none⟩ v0).setCell ⟨C,1,none⟩ v1) v l:=by
 obtain⟨ao,cap,hv,h2⟩:=h
 refine⟨ao,cap,hv,fun h0=>?_⟩
 obtain⟨b,cur,fz,e,hh,hcell⟩:=h2 h0
 have hne:b≠C:=fun e=>by
  subst e
  unfold BoxR at hc
  rw [hh] at hc
  simp only [Option.some.injEq,Obj.cells.injEq] at hc
  exact absurd hc.2.1 (by decide)
 refine⟨b,cur,fz,e,((Below.heap_setCell _ ⟨C,1,none⟩ v1 b hne).trans (Below.heap_setCell W ⟨C,0,none⟩ v0 b hne)).trans hh,fun j hj=>?_⟩
 exact((World.cell?_setCell_other (h:=fun e=>hne (by simp only [Addr.mk.injEq] at e;exact e.1.symm)) ..).trans (World.cell?_setCell_other (h:=fun e=>hne (by simp only [Addr.mk.injEq] at e;exact e.1.symm)) ..)).trans (hcell j hj)
theorem MatC2.setBox{ls:List (List Nat)}{x:Int}(h:MatC2 W v ls)(hc:BoxR W C (.int .i64 x) u1)(v0 v1:Value):MatC2 ((W.setCell ⟨C,0,none⟩ v0).setCell ⟨C,1,none⟩ v1) v ls:=by
 obtain⟨ao,cap,hv,h2⟩:=h
 refine⟨ao,cap,hv,fun h0=>?_⟩
 obtain⟨b,e,hlt,hcell⟩:=h2 h0
 have hne:b≠C:=fun e=>by
  subst e
  obtain⟨u,h3,h4⟩:=hcell 0 ls[0] (List.getElem?_eq_getElem h0)
  obtain⟨ao',cap',rfl,-⟩:=h4
  rw [hc.box.1] at h3
  cases h3
 refine⟨b,e,by simpa using hlt,fun i l hi=>?_⟩
 obtain⟨u,h3,h4⟩:=hcell i l hi
 exact⟨u,((World.cell?_setCell_other (h:=fun e=>hne (by simp only [Addr.mk.injEq] at e;exact e.1.symm)) ..).trans (World.cell?_setCell_other (h:=fun e=>hne (by simp only [Addr.mk.injEq] at e;exact e.1.symm)) ..)).trans h3,h4.setBox hc _ _⟩
theorem GrowR.setBox{base:Nat}{ps:List (Rn × Int)}{n:Nat}(h:GrowR W base v ps n)(hc:BoxR W C u0 u1)(hC:C<base)(v0 v1:Value):GrowR ((W.setCell ⟨C,0,none⟩ v0).setCell ⟨C,1,none⟩ v1) base v ps n:=by
 refine⟨⟨h.1.1,?_⟩,fun p hp=>(h.2 p hp).setCell hc _ _⟩
 rcases h.1.2 with hn |⟨g,cap,cur,e,hb,hh,rest⟩
 ·exact .inl hn
 ·have hne:g≠C:=by omega
  exact .inr ⟨g,cap,cur,e,hb,((Below.heap_setCell _ ⟨C,1,none⟩ v1 g hne).trans (Below.heap_setCell W ⟨C,0,none⟩ v0 g hne)).trans hh,rest⟩
def smPL (gv sv:Value)(d:Int)(i:Nat)(W:World)(v:Value):Prop:=
 match i with
 | 0=>v=gv
 | 1=>v=sv
 | 2=>NumR W v d 1000
 | _=>True
theorem zaf{gv sv:Value}{d:Int}(i t:Nat)(W W':World)(G G':Nat→Nat)(v:Value)(h:TR.Moved t W G W' G')(hp:smPL gv sv d i W v):smPL gv sv d i W' v:=by
 unfold smPL at *
 split at hp
 ·exact hp
 ·exact hp
 ·exact h.num hp
 ·trivial
theorem zkZ (ms:List (List Int))(k:Nat)(r c:List Nat)(a:Nat)(ha:a<k):(subL ms k r c).take (a+1)=(subL ms k r c).take a++[(List.range k).map fun b=>ent ms (r.getD a 0) (c.getD b 0)]:=by
 have hl:a<(subL ms k r c).length:=by unfold subL;rw [List.length_map,List.length_range];exact ha
 rw [List.take_succ_eq_append_getElem hl]
 have e:(subL ms k r c)[a]?=some ((List.range k).map fun b=>ent ms (r.getD a 0) (c.getD b 0)):=by
  unfold subL
  rw [List.getElem?_map,List.getElem?_range ha];rfl
 rw [List.getElem?_eq_getElem hl] at e
 rw [zI e]
theorem zdW (ms:List (List Int))(k:Nat)(r c:List Nat):(subL ms k r c).length=k:=by unfold subL;rw [List.length_map,List.length_range]
theorem zkY (ms:List (List Int))(k:Nat)(r c:List Nat):∀ u∈subL ms k r c,u.length=k:=fun u hu=>by
 obtain⟨a,-,rfl⟩:=List.mem_map.1 hu
 rw [List.length_map,List.length_range]
theorem zjA (k b:Nat)(f:Nat→Int)(hb:b<k):((List.range k).map f).take (b+1)=((List.range k).map f).take b++[f b]:=by
 have hl:b<((List.range k).map f).length:=by rw [List.length_map,List.length_range];exact hb
 rw [List.take_succ_eq_append_getElem hl,List.getElem_map,List.getElem_range]
theorem zkT (w:World)(v:Value)(ms:List (List Int))(n:Nat)(hv:MatR w v ms 24)(hr:∀ u∈ms,u.length=n)(hn4:n≤4)(hm4:ms.length≤4):
  Calls Tryz.prog 20 #[v,.int .i64 (n:Int)] w fun e w'=>∃ u ds,e=.returned u∧RowR w' u ds 2006∧Below w.heap.size w w'∧RefSm ms ms.length n ds∧(ds.length=ms.length∨ds.length=n∨Dv (ds.length+1) ms.length n (ent ms) 0):=by
 obtain⟨i0,hi,hz0,hz1,hz2⟩:=info_parts Tryz.infoRNum
 obtain⟨j0,hj,hy0,hy1,hy2⟩:=info_parts Tryz.infoRRow
 have HV:=hide hv;have HR:=hide hr
 obtain⟨ao,mcap,rfl,-,-⟩:=hv
 clear hr
 go_enter Tryz.func20,Tryz.ntmps20
 go_wp2_with fail
 refine(z8 w 1 (by decide) (by decide)).mono ?_
 rintro e w1 ⟨v1,rfl,hv1,hb1⟩
 obtain⟨ls,lO,lL,lC,rfl,-⟩:=hv1.form
 have hN1:=zR w1 (.cells #[.int .i64 ls,.slice lO lL lC] 40)
 have HLV:Hid (∃ r:Rm,RVar (w1.alloc (.cells #[.int .i64 ls,.slice lO lL lC] 40)) w1.heap.size r 1 2000):=⟨⟨ls,lO,lL,lC⟩,zp w1 _ _ _ rfl,(hv1.below hN1 (Nat.le_refl _)).mono (by decide)⟩
 have HB0:=hide (hb1.trans (hN1.mono hb1.size));have HLB:Hid (w.heap.size≤w1.heap.size∧w1.heap.size<(w1.alloc (.cells #[.int .i64 ls,.slice lO lL lC] 40)).heap.size):=⟨hb1.size,by simp⟩
 clear hv1 hb1 hN1
 go_wp2
 generalize (w1.alloc (.cells #[.int .i64 ls,.slice lO lL lC] 40))=W0 at *
 generalize w1.heap.size=LB at *
 go_loopw [5,7] (fun d x wr=>∃(t:Nat) (ps:List (Rn × Int)) (last:Int),x=.int .i64 ((t:Int)+1)∧Hid (GrowR wr W0.heap.size d ps 2006)∧Hid (ps.length=t)∧Hid (RefSm ms ms.length n (ps.map (·.2)))∧Hid (last=prodN t (fun i=>(ps.map (·.2)).getD i 0))∧Hid (∃ r:Rm,RVar wr LB r last 2000)∧Hid (Below w.heap.size w wr)∧Hid (W0.heap.size≤wr.heap.size)) (fun _ x _=>ms.length+1-(intOf x).toNat)
 case atStart=>exact⟨0,[],1,rfl,hide (GrowR.nil _ _ _),hide rfl,hide (RefSm.nil _ _ _),hide rfl,HLV,HB0,hide (Nat.le_refl _)⟩
 case round=>
  clear HLV HB0
  obtain⟨t,ps,last,rfl,HGD,HPL,HRS,HLA,HLV,HBW,HW0⟩:=hrel
  have HTL:Hid (t≤ms.length∧t≤n):=by have h1:=HRS.out.le;rw [List.length_map,HPL.out] at h1;exact h1
  obtain⟨dO,dl,dc,rfl⟩:∃ dO dl dc,u5=.slice dO dl dc:=by
   rcases HGD.out.1.2 with⟨e1,-⟩ |⟨g',cap',cur,e1,-⟩
   ·exact⟨_,_,_,e1⟩
   ·exact⟨_,_,_,e1⟩
  by_cases hkm:t+1≤ms.length∧t+1≤n
  ·obtain⟨k,hk⟩:∃ k:Nat,t+1=k:=⟨_,rfl⟩
   have gk:(t:Int)+1=(k:Int):=by omega
   have hkm1:k≤ms.length:=by omega
   have hkn1:k≤n:=by omega
   have g1:decide ((k:Int)≤(ms.length:Int))=true:=decide_eq_true (by omega)
   have g2:decide ((k:Int)≤(n:Int))=true:=decide_eq_true (by omega)
   have HK:=hide hk
   rw [gk]
   clear hk
   generalize wr=W1 at *
   have HG2:Hid (RVar (W1.alloc (.cells #[.int .i64 0,.slice none 0 0] 40)) W1.heap.size ⟨0,none,0,0⟩ 0 1000):=⟨zp W1 _ _ _ rfl,NumR.nought _ _⟩
   have HB2:=hide (zR W1 (.cells #[.int .i64 0,.slice none 0 0] 40))
   go_wp2_with fail
   generalize (W1.alloc (.cells #[.int .i64 0,.slice none 0 0] 40))=W2 at *
   refine(zex W2 k ms.length (by omega) hm4).mono ?_
   rintro e w3 ⟨rv,rfl,hrv,hb3⟩
   have HR3:=hide hrv;have HG3:=hide (HG2.out.later hb3);have HB3:=hide (HB2.out.trans (hb3.mono HB2.out.size))
   clear hrv hb3 HG2 HB2
   obtain⟨rO,rC,rfl,-⟩:=id HR3.out
   go_wp2_with fail
   refine(zex w3 k n (by omega) hn4).mono ?_
   rintro e w4 ⟨cv,rfl,hcv,hb4⟩
   have HC4:=hide hcv;have HR4:=hide (HR3.out.below hb4 (Nat.le_refl _));have HG4:=hide (HG3.out.later hb4);have HB4:=hide (HB3.out.trans (hb4.mono HB3.out.size))
   clear hcv hb4 HR3 HG3 HB3
   obtain⟨cO,cC,rfl,-⟩:=id HC4.out
   have HGI:Hid (∃(r:Rm) (g:Int),RVar w4 W1.heap.size r g (1000+0*16)∧GcdOf (detsTo ms k (chooseL k ms.length) (chooseL k n) 0 0) g):=⟨_,0,HG4.out,GcdOf.nil⟩
   have hrl:(chooseL k ms.length).length≤16:=Nat.le_trans (zc9 k ms.length (2 ^ ms.length)) (Nat.le_trans (Nat.pow_le_pow_right (by decide) hm4) (by decide))
   have hcl:(chooseL k n).length≤16:=Nat.le_trans (zc9 k n (2 ^ n)) (Nat.le_trans (Nat.pow_le_pow_right (by decide) hn4) (by decide))
   have HMR:=hide (fun l (hl:l∈chooseL k ms.length)=>zcG (show ms.length<5 by omega) (show k<5 by omega) hl)
   have HMC:=hide (fun l (hl:l∈chooseL k n)=>zcG (show n<5 by omega) (show k<5 by omega) hl)
   have HGD2:=hide (fun g (h:GcdOf (detsTo ms k (chooseL k ms.length) (chooseL k n) (chooseL k ms.length).length 0) g) x=>ziB (show ms.length<5 by omega) (show n<5 by omega) (show k<5 by omega) h x)
   generalize chooseL k ms.length=rows at *
   generalize chooseL k n=cols at *
   clear HG4
   go_wp2
   go_loopw [11] (fun x wr=>∃ i:Nat,i≤rows.length∧x=.int .i64 i∧Hid (MatC2 wr (.slice rO rows.length rC) rows)∧Hid (MatC2 wr (.slice cO cols.length cC) cols)∧Hid (∃(r:Rm) (g:Int),RVar wr W1.heap.size r g (1000+i*16)∧GcdOf (detsTo ms k rows cols i 0) g)∧Hid (Below W1.heap.size W1 wr)) (fun x _=>rows.length-(intOf x).toNat)
   case atStart=>exact⟨0,Nat.zero_le _,rfl,HR4,HC4,HGI,HB4⟩
   case round=>
    clear HR4 HC4 HGI HB4
    obtain⟨i,hil,rfl,HR4,HC4,HGI,HB4⟩:=hrel
    by_cases hir:i<rows.length
    ·go_wp2
     go_loopw [12] (fun x wr=>∃ j:Nat,j≤cols.length∧x=.int .i64 j∧Hid (MatC2 wr (.slice rO rows.length rC) rows)∧Hid (MatC2 wr (.slice cO cols.length cC) cols)∧Hid (∃(r:Rm) (g:Int),RVar wr W1.heap.size r g (1000+i*16+j)∧GcdOf (detsTo ms k rows cols i j) g)∧Hid (Below W1.heap.size W1 wr)) (fun x _=>cols.length-(intOf x).toNat)
     case atStart=>exact⟨0,Nat.zero_le _,rfl,HR4,HC4,HGI,HB4⟩
     case round=>
      clear HR4 HC4 HGI HB4
      obtain⟨j,hjl,rfl,HR4,HC4,HGI,HB4⟩:=hrel
      by_cases hjc:j<cols.length
      ·generalize wr=W5 at *
       have HSUB:Hid (MatR W5 (.slice none 0 0) [] 24):=⟨none,0,rfl,Nat.le_refl _,fun h=>absurd h (by decide)⟩
       clear HSUB
       go_wp2
       go_loopw [13,14] (fun out x wr=>∃(a:Nat) (qs:List (Value × List Int)),a≤k∧x=.int .i64 a∧Hid (GrowM wr W5.heap.size out qs 24)∧Hid (qs.map (·.2)=(subL ms k (rows.getD i []) (cols.getD j [])).take a)∧Hid (Below W5.heap.size W5 wr)) (fun _ x _=>k-(intOf x).toNat)
       case atStart=>exact⟨0,[],Nat.zero_le _,rfl,hide ⟨World.ownsRow_nil _ _ _ _,fun _ h=>by cases h⟩,hide (by rw [List.take_zero];rfl),hide (Below.refl _ _)⟩
       case round=>
        obtain⟨a,qs,hak,rfl,HGM,HQ,HBE⟩:=hrel
        have HQL:Hid (qs.length=a):=by
         have h:=congrArg List.length HQ.out
         rw [List.length_map,List.length_take,zdW] at h
         show _=_
         omega
        by_cases hal:a<k
        ·have HTT:=hide (zkZ ms k (rows.getD i []) (cols.getD j []) a hal)
         generalize wr=wo at *
         go_wp2
         go_loopw [15,16] (fun r x wr=>∃(b:Nat) (ps:List (Rn × Int)),b≤k∧x=.int .i64 b∧Hid (GrowR wr wo.heap.size r ps 24)∧Hid (ps.map (·.2)=((List.range k).map fun b=>ent ms ((rows.getD i []).getD a 0) ((cols.getD j []).getD b 0)).take b)∧Hid (ps.length=b)∧Hid (Below wo.heap.size wo wr)) (fun _ x _=>k-(intOf x).toNat)
         case atStart=>exact⟨0,[],Nat.zero_le _,rfl,hide (GrowR.nil _ _ _),hide (by rw [List.take_zero];rfl),hide rfl,hide (Below.refl _ _)⟩
         case round=>
          obtain⟨b,pr,hbk,rfl,HGR,HP,HPR,HBI⟩:=hrel
          by_cases hbl:b<k
          ·have HB5:=hide (HBE.out.trans (HBI.out.mono HBE.out.size))
           have HBm:=hide (HBW.out.trans ((HB4.out.trans (HB5.out.mono HB4.out.size)).mono HBW.out.size))
           obtain⟨RB,rcp,eR,lR5,ru,c0w,hru⟩:=HR4.out.at i hir
           simp only [Value.slice.injEq,true_and] at eR
           obtain⟨rfl,rfl⟩:=eR
           obtain⟨CB,ccp,eC,lC5,cu,c5w,hcu⟩:=HC4.out.at j hjc
           simp only [Value.slice.injEq,true_and] at eC
           obtain⟨rfl,rfl⟩:=eC
           have hmr:=HMR.out (rows.getD i []) (by rw [List.getD_eq_getElem?_getD,List.getElem?_eq_getElem hir];exact List.getElem_mem hir)
           have hmc:=HMC.out (cols.getD j []) (by rw [List.getD_eq_getElem?_getD,List.getElem?_eq_getElem hjc];exact List.getElem_mem hjc)
           obtain⟨rb,rcap,e1,lrb5,c1w⟩:=hru.at a (by rw [hmr.1];exact hal)
           obtain⟨cb,ccap,e2,lcb5,c6w⟩:=hcu.at b (by rw [hmc.1];exact hbl)
           have hri:=hmr.2.2 a hal;have hcj:=hmc.2.2 b hbl
           try dsimp only at hri hcj
           rw [e1,hmr.1] at c0w
           rw [e2,hmc.1] at c5w
           have HTB:=hide (zjA k b (fun b=>ent ms ((rows.getD i []).getD a 0) ((cols.getD j []).getD b 0)) hbl)
           try dsimp only at HTB
           obtain⟨ri,hri2⟩:∃ ri,(rows.getD i []).getD a 0=ri:=⟨_,rfl⟩
           obtain⟨cj,hcj2⟩:∃ cj,(cols.getD j []).getD b 0=cj:=⟨_,rfl⟩
           rw [hri2] at c1w hri
           rw [hcj2] at c6w hcj HTB
           obtain⟨_,_,e,-,hcc⟩:=HV.out
           simp only [Value.slice.injEq,true_and] at e
           obtain⟨rfl,rfl⟩:=e
           obtain⟨mb,rfl,hmlt,hcc⟩:=hcc (by omega)
           obtain⟨u,cu0,hu⟩:=hcc ri ms[ri] (List.getElem?_eq_getElem hri)
           clear hcc
           have hul:=HR.out _ (List.getElem_mem hri)
           have HEN:Hid ((ms[ri]).getD cj 0=ent ms ((rows.getD i []).getD a 0) cj):=by show _=_;rw [hri2];unfold ent;rw [zk hri]
           generalize ms[ri]=us at *
           obtain⟨vb,vcap,e,lv0,zs,zo,zl,zc,c3w,c4w,nz⟩:=hu.at cj (by omega)
           subst e
           rw [hul] at cu0
           rw [HEN.out] at nz
           have NA:Hid (NumR wr (Rn.val ⟨zs,zo,zl,zc⟩) (ent ms ((rows.getD i []).getD a 0) cj) 24):=nz.below HBm.out (Nat.le_refl _)
           have c0:=(HB5.out.cell (p:=⟨RB,i,none⟩) lR5).trans c0w;have c1:=(HB5.out.cell (p:=⟨rb,a,none⟩) lrb5).trans c1w;have c5:=(HB5.out.cell (p:=⟨CB,j,none⟩) lC5).trans c5w;have c6:=(HB5.out.cell (p:=⟨cb,b,none⟩) lcb5).trans c6w
           have c2:=(HBm.out.cell (p:=⟨mb,ri,none⟩) hmlt).trans cu0;have c3:=(HBm.out.cell (p:=⟨vb,cj*2,none⟩) lv0).trans c3w;have c4:=(HBm.out.cell (p:=⟨vb,cj*2+1,none⟩) lv0).trans c4w
           have lR:=zT lR5 HB5.out.size;have lrb:=zT lrb5 HB5.out.size;have lC:=zT lC5 HB5.out.size;have lcb:=zT lcb5 HB5.out.size;have lm:=zT hmlt HBm.out.size;have lv:=zT lv0 HBm.out.size
           have HLT:Hid (RB<wo.heap.size∧rb<wo.heap.size∧CB<wo.heap.size∧cb<wo.heap.size∧mb<wo.heap.size∧vb<wo.heap.size):=by
            have h1:=HBE.out.size;have h2:=HB4.out.size;have h3:=HBW.out.size
            show _∧_
            omega
           have HP5:Hid ((pr++[((⟨zs,zo,zl,zc⟩:Rn),ent ms ((rows.getD i []).getD a 0) cj)]).map (·.2)=((List.range k).map fun b=>ent ms ((rows.getD i []).getD a 0) ((cols.getD j []).getD b 0)).take (b+1)):=by
            show _=_
            rw [List.map_append,HP.out,HTB.out];rfl
           have HPR5:Hid ((pr++[((⟨zs,zo,zl,zc⟩:Rn),ent ms ((rows.getD i []).getD a 0) cj)]).length=b+1):=by
            have:=HPR.out
            show _=_
            rw [List.length_append,List.length_singleton];omega
           have HGA:=hide (HGR.out.later ((Below.refl wr.heap.size wr).drew.alloc (Nat.le_refl _) (.cells #[.int .i64 zs,.slice zo zl zc] 40)))
           have hbs:=HBI.out.size
           have HHUL:=hide hul
           clear nz hu hru hcu hmr hmc hri2 hcj2 HTB HEN e1 e2 hul c0w c1w c3w c4w c5w c6w cu0
           go_wp2_with fail
           refine zbJ (A:=fun _=>true) (S:=(fun w'=>w'.cell? ⟨RB,i,none⟩=some (.slice (some ⟨rb,0,none⟩) k rcap)∧w'.cell? ⟨rb,a,none⟩=some (.int .i64 (ri:Int))∧w'.cell? ⟨mb,ri,none⟩=some (.slice (some ⟨vb,0,none⟩) n vcap)∧w'.cell? ⟨vb,cj*2,none⟩=some (.int .i64 zs)∧w'.cell? ⟨vb,cj*2+1,none⟩=some (.slice zo zl zc)∧w'.cell? ⟨CB,j,none⟩=some (.slice (some ⟨cb,0,none⟩) k ccap)∧w'.cell? ⟨cb,b,none⟩=some (.int .i64 (cj:Int)))) (by kernel_rfl) (by exact⟨c0,c1,c2,c3,c4,c5,c6⟩) (fun hHeld=>?_)
           refine zi 0 64 [] ?_
           try simp only [zA]
           refine zi 1 65 [] ?_
           try simp only [zA]
           refine zi 2 66 [] ?_
           try simp only [zA]
           refine zi 3 67 [] ?_
           try simp only [zA]
           refine zi 4 68 [] ?_
           try simp only [zA]
           refine zi 5 69 [] ?_
           try simp only [zA]
           refine zi 6 70 [] ?_
           try simp only [zA]
           refine zi 7 71 [] ?_
           try simp only [zA]
           refine zi 8 72 [] ?_
           try simp only [zA]
           refine zi 9 73 [] ?_
           try simp only [zA]
           refine zi 10 74 [] ?_
           try simp only [zA]
           refine zi 11 75 [] ?_
           try simp only [zA]
           refine zi 12 76 [] ?_
           try simp only [zA]
           refine zi 13 77 [] ?_
           try simp only [zA]
           refine zi 14 78 [] ?_
           try simp only [zA]
           refine zi 15 79 [] ?_
           try simp only [zA]
           refine zi 16 80 [] ?_
           try simp only [zA]
           refine zi 17 81 [] ?_
           try simp only [zA]
           refine zi 18 82 [] ?_
           try simp only [zA]
           refine zi 19 83 [] ?_
           try simp only [zA]
           refine zM 20 (by kernel_rfl) rfl (fun K hK=>?_)
           go_simp
           have hbA:Below wr.heap.size wr (wr.drew.alloc (.cells #[.int .i64 zs,.slice zo zl zc] 40)):=(Below.refl _ _).drew.alloc (Nat.le_refl _) _
           have d0:=(hbA.cell (p:=⟨RB,i,none⟩) lR).trans c0;have d1:=(hbA.cell (p:=⟨rb,a,none⟩) lrb).trans c1;have d2:=(hbA.cell (p:=⟨mb,ri,none⟩) lm).trans c2;have d3:=(hbA.cell (p:=⟨vb,cj*2,none⟩) lv).trans c3;have d4:=(hbA.cell (p:=⟨vb,cj*2+1,none⟩) lv).trans c4;have d5:=(hbA.cell (p:=⟨CB,j,none⟩) lC).trans c5;have d6:=(hbA.cell (p:=⟨cb,b,none⟩) lcb).trans c6
           refine hK.out _ _ (fun _=>⟨d0,d1,d2,d3,d4,d5,d6⟩) ?_
           clear hK K
           try simp only [zA]
           refine zM 21 (by kernel_rfl) rfl (fun K hK=>?_)
           refine step_append_lies _ rfl (.tmp 64) (.tmp 84) 106 rfl wo.heap.size 40 i0 (.agg #[.int .i64 0,.slice none 0 0]) 2 32 (by kernel_rfl) hi hz0 hz1 hz2 rfl (by decide) u15 pr.length (pr.flatMap rcells) rfl HGA.out.1 ⟨wr.heap.size,0,none⟩ 1 1 [.int .i64 zs,.slice zo zl zc] rfl rfl (World.news_of_block (heap_alloc_new wr.drew _)) (fun u hu=>by simp only [List.mem_cons,List.mem_nil_iff,or_false] at hu;rcases hu with rfl | rfl <;> rfl) (by decide) (by unfold maxLen;have:=HPR.out;omega) (by have:=HPR.out;omega) (by simp;omega) (wr.heap.size+1) (by simp) ?_
           intro g5 cap5 w5 hown5 hgrow5 hat5 hlt5
           have HN:=hide (zbs (wr:=wr.drew) (HGR.out.later (Below.refl _ _).drew) (NA.out.below (Below.refl wr.heap.size wr).drew (Nat.le_refl _)) hown5 hgrow5)
           have HB5':=hide (HBI.out.trans (((Below.refl wr.heap.size wr).drew.mono hbs).trans (zaa (wr:=wr.drew) (HGR.out.later (Below.refl _ _).drew).1 hbs hgrow5)))
           clear hown5 hat5 hlt5
           have hbW:=HB5'.out
           have e0:=hgrow5.cell d0 (fun e=>by have h1:wo.heap.size≤RB:=(HGA.out.1.lt _ e.symm).1;have h2:=HLT.out;omega)
           have e1:=hgrow5.cell d1 (fun e=>by have h1:wo.heap.size≤rb:=(HGA.out.1.lt _ e.symm).1;have h2:=HLT.out;omega)
           have e2:=hgrow5.cell d2 (fun e=>by have h1:wo.heap.size≤mb:=(HGA.out.1.lt _ e.symm).1;have h2:=HLT.out;omega)
           have e3:=hgrow5.cell d3 (fun e=>by have h1:wo.heap.size≤vb:=(HGA.out.1.lt _ e.symm).1;have h2:=HLT.out;omega)
           have e4:=hgrow5.cell d4 (fun e=>by have h1:wo.heap.size≤vb:=(HGA.out.1.lt _ e.symm).1;have h2:=HLT.out;omega)
           have e5:=hgrow5.cell d5 (fun e=>by have h1:wo.heap.size≤CB:=(HGA.out.1.lt _ e.symm).1;have h2:=HLT.out;omega)
           have e6:=hgrow5.cell d6 (fun e=>by have h1:wo.heap.size≤cb:=(HGA.out.1.lt _ e.symm).1;have h2:=HLT.out;omega)
           refine hK.out _ _ (fun _=>⟨e0,e1,e2,e3,e4,e5,e6⟩) ?_
           clear hK K
           try simp only [zA]
           refine zM 22 (by kernel_rfl) rfl (fun K hK=>?_)
           go_simp
           refine hK.out _ _ (fun _=>⟨e0,e1,e2,e3,e4,e5,e6⟩) ?_
           clear hK K
           try simp only [zA]
           refine zbI (by kernel_rfl) ?_
           clear c0 d0 e0 c1 d1 e1 c2 d2 e2 c3 d3 e3 c4 d4 e4 c5 d5 e5 c6 d6 e6 hgrow5 hbW HGA HGR HBI NA HP HPR hHeld
           go_wp2
           go_roundw
           case rel=>exact⟨b+1,_,by omega,by go_num,HN,HP5,HPR5,HB5'⟩
           case measure=>simp [intOf];omega
          ·obtain rfl:b=k:=by omega
           have HRR:Hid (RowR wr u15 ((List.range b).map fun b=>ent ms ((rows.getD i []).getD a 0) ((cols.getD j []).getD b 0)) 24):=by
            have h:=HGR.out.row
            rw [HP.out,List.take_of_length_le (by rw [List.length_map,List.length_range];exact Nat.le_refl _)] at h
            exact h
           have HGX:=hide (HGM.out.later HBI.out)
           have HBX:=hide (HBE.out.trans (HBI.out.mono HBE.out.size))
           have HQ':Hid (∀ r:Value,(qs++[(r,((List.range b).map fun b=>ent ms ((rows.getD i []).getD a 0) ((cols.getD j []).getD b 0)))]).map (·.2)=(subL ms b (rows.getD i []) (cols.getD j [])).take (a+1)):=fun r=>by
            rw [List.map_append,HQ.out,HTT.out];rfl
           obtain⟨so,sl,sc,rfl⟩:∃ so sl sc,u15=.slice so sl sc:=by
            obtain⟨so,sc,e,-⟩:=HRR.out
            exact⟨_,_,_,e⟩
           have hown:=HGX.out.1
           have hbs:=HBX.out.size
           clear HGR HP HPR
           go_wp2_with (at_builtin;refine wpList_append_lies _ rfl _ _ 43 rfl W5.heap.size 106 j0 (.slice none 0 0) 1 24 (by kernel_rfl) hj hy0 hy1 hy2 rfl (by decide) u13 qs.length (qs.map (·.1)) rfl (hown.alloc _) ⟨wr.heap.size,0,none⟩ 1 1 [.slice so sl sc] rfl rfl (World.news_of_block (heap_alloc_new wr _)) (fun u hu=>by rw [List.mem_singleton] at hu;subst hu;rfl) (by decide) (by unfold maxLen;have:=HQL.out;omega) (by have:=HQL.out;omega) (by simp;omega) (wr.heap.size+1) (by simp) ?_)
           intro g cap' w5 hown5 hgrow5 hat5 hlt5
           have HN:=hide (zcA HGX.out HRR.out hown5 hgrow5)
           have HB5:=hide (HBX.out.trans (zaa hown HBX.out.size hgrow5))
           have HQ5:=hide (HQ'.out (.slice so sl sc))
           clear hown hown5 hgrow5 hat5 hlt5 HGX HRR HBX HQ' HQ
           go_wp2
           go_roundw
           case rel=>exact⟨a+1,_,by omega,by go_num,HN,HQ5,HB5⟩
           case measure=>simp [intOf];omega
        ·obtain rfl:a=k:=by omega
         have HSUB:Hid (MatR wr u13 (subL ms a (rows.getD i []) (cols.getD j [])) 24):=by
          have h:=HGM.out.mat
          rw [HQ.out,List.take_of_length_le (by rw [zdW];exact Nat.le_refl _)] at h
          exact h
         obtain⟨⟨gs,gO,gL,gC⟩,g,hgv,hgd⟩:=HGI.out
         have HGV:=hide (hgv.later HBE.out);have HGC:=hide hgd
         have HR6:=hide (HR4.out.below HBE.out (Nat.le_refl _));have HC6:=hide (HC4.out.below HBE.out (Nat.le_refl _));have HB6:=hide (HB4.out.trans (HBE.out.mono HB4.out.size))
         have HDS:=hide (zhX ms a rows cols i j hjc)
         have HDL:=hide (zhG a (by omega))
         clear hgv hgd HGM HQ HQL HBE HR4 HC4 HB4 HGI
         obtain⟨d,hd⟩:∃ d,det a (ent (subL ms a (rows.getD i []) (cols.getD j [])))=d:=⟨_,rfl⟩
         rw [hd] at HDS
         have HDE:=hide hd
         clear hd
         obtain⟨b0,b1,-,-⟩:=HGV.out.box.box
         dsimp only at b0 b1
         have lg:=HGV.out.box.lt
         obtain⟨SB,hSB⟩:∃ SB,subL ms a (rows.getD i []) (cols.getD j [])=SB:=⟨_,rfl⟩
         have HSL:Hid (SB.length=a):=by rw [← hSB];exact zdW ..
         have HSN:Hid (∀ u∈SB,u.length=a):=by
          show ∀ u∈SB,_
          rw [← hSB]
          exact zkY _ _ _ _
         rw [hSB] at HSUB HDE
         obtain⟨N,hN⟩:∃ N,1000+i*16+j=N:=⟨_,rfl⟩
         have HN1:Hid (1000≤N):=by show _≤_;omega
         have HN2:Hid (N≤2000):=by show _≤_;omega
         have HNE:Hid (N+1=1000+i*16+(j+1)):=by show _=_;omega
         have HA8:Hid (a≤8):=by show _≤_;omega
         rw [hN] at HGV
         have hst:=GcdGotR.moved (N+1) g d
         clear hSB hN
         go_wp2_with fail
         refine zab (by kernel_rfl) (by kernel_rfl) (fun L a' w'=>∃(c:Nat→Value) (G:Nat→Nat),a'=(⟨#[.slice ao ms.length mcap,.int .i64 (n:Int),undef,undef,.slice none 0 0,.slice dO dl dc,.pointer (some ⟨LB,0,none⟩),.int .i64 (a:Int),.pointer (some ⟨W1.heap.size,0,none⟩),.slice rO rows.length rC,.slice cO cols.length cC,.int .i64 (i:Int),.int .i64 (j:Int),u13,.int .i64 (a:Int),u15,u16,c 8,c 9,c 10,u20,u21,.agg #[.int .i64 ls,.slice lO lL lC],.int .i64 (a:Int),.slice ao ms.length mcap,.int .i64 (ms.length:Int),.bool true,.bool true,.int .i64 (a:Int),.int .i64 (n:Int),.bool true,.bool true,u32,u33,.agg #[.int .i64 0,.slice none 0 0],.int .i64 (a:Int),.slice ao ms.length mcap,.int .i64 (ms.length:Int),.slice rO rows.length rC,.int .i64 (a:Int),.int .i64 (n:Int),.slice cO cols.length cC,.int .i64 (i:Int),.slice rO rows.length rC,.int .i64 (rows.length:Int),.bool true,u46,u47,.int .i64 (j:Int),.slice cO cols.length cC,.int .i64 (cols.length:Int),.bool true,u52,u53,.int .i64 (a:Int),.int .i64 (a:Int),.bool false,u57,u58,u59,u60,u61,u62,u63,u64,u65,u66,u67,u68,u69,u70,u71,u72,u73,u74,u75,u76,u77,u78,u79,u80,u81,u82,u83,u84,u85,u86,u87,u88,u89,c 4,c 0,c 1,c 2,c 3,c 5,c 6,c 7,u98,u99,u100,u101,u102,u103,u104,u105,u106,u107,u108,u109,u110,u111,u112,undef],[]⟩:Act)∧TR.Tags (TR.D3 3) (TR.FA3P 3 (smPL (.agg #[.int .i64 gs,.slice gO gL gC]) u13 d) (GcdGotR (N+1) g d) (wr).heap.size) (wr) L c w' G) ⟨fun i=>List.getD [u91,u92,u93,u94,u90,u95,u96,u97,u17,u18,u19,undef,undef,undef] i undef,fun _=>0,rfl,TR.Tags.start _ _ _⟩ ?_ ?_
         ·rintro L a' w' i o ⟨c,G,rfl,R⟩ ho hn hdep K hK
          have hi:i<14:=(Array.getElem?_eq_some_iff.1 ho).1
          rcases(by omega:i=0∨i=1∨i=2∨i=3∨i=4∨i=5∨i=6∨i=7∨i=8∨i=9∨i=10∨i=11∨i=12∨i=13) with rfl | rfl | rfl | rfl | rfl | rfl | rfl | rfl | rfl | rfl | rfl | rfl | rfl | rfl
          ·obtain rfl:=zI ho
           have q0:=(R.below.cell (p:=⟨W1.heap.size,0,none⟩) lg).trans b0
           have q1:=(R.below.cell (p:=⟨W1.heap.size,1,none⟩) lg).trans b1
           have R':=R.plain hn (zN rfl) (TR.FA3P.keep zaf hst) (v:=(.agg #[.int .i64 gs,.slice gO gL gC])) (zd _ _ _)
           clear R
           go_simp
           exact hK.out _ _ ⟨_,_,by simp [upd],R'⟩
          ·obtain rfl:=zI ho
           have R':=R.plain hn (zN rfl) (TR.FA3P.keep zaf hst) (v:=(u13)) (zd _ _ _)
           clear R
           go_simp
           exact hK.out _ _ ⟨_,_,by simp [upd],R'⟩
          ·obtain rfl:=zI ho
           have e1:c 1=u13:=R.facts 1 (hdep ⟨1,.data⟩ (by simp) rfl)
           rw [e1]
           go_simp
           refine(zhL 24 (by decide) (by decide) a HA8.out w' _ SB (by exact HSUB.out.below R.below (Nat.le_refl _)) HSL.out HSN.out).mono ?_
           rintro e w2 ⟨v2,rfl,m2,hb⟩
           have R':=R.call hn (zN rfl) (TR.FA3P.keep zaf hst) hb (v:=v2) (show NumR w2 (upd c 2 v2 2) d 1000 from by rw [zd,← HDE.out];exact m2.mono HDL.out)
           clear R m2 hb
           go_wp2_with fail
           exact hK.out _ _ ⟨_,_,by simp [upd,e1],R'⟩
          ·obtain rfl:=zI ho
           have e0:c 0=(.agg #[.int .i64 gs,.slice gO gL gC]):=R.facts 0 (hdep ⟨0,.data⟩ (by simp) rfl)
           rw [e0]
           go_simp
           have m2:NumR w' (c 2) d 1000:=R.facts 2 (hdep ⟨2,.data⟩ (by simp) rfl)
           refine(ze3 w' _ _ g d N (by exact HGV.out.num.below R.below (Nat.le_refl _)) (m2.mono HN1.out) (by have:=HN2.out;omega)).mono ?_
           clear m2
           rintro e wq ⟨vg,vx,vy,gg,x,y,rfl,m1,m2,m3,m4,m5,m6,m7,hb⟩
           have R':=R.call hn (zN rfl) (TR.FA3P.keep zaf hst) hb (v:=.tuple #[vg,vx,vy]) (show GcdGotR (N+1) g d wq (upd c 3 (.tuple #[vg,vx,vy]) 3) from by rw [zd];exact⟨vg,vx,vy,gg,x,y,rfl,m1,m2,m3,m4,m5,m6,m7⟩)
           clear m1 m2 m3 m4 m5 m6 m7 hb
           clear R
           go_wp2_with fail
           exact hK.out _ _ ⟨_,_,by simp [upd,e0],R'⟩
          ·obtain rfl:=zI ho
           have R':=R.plain hn (fun j hj=>by simp [TR.D3] at hj;subst hj;exact hdep ⟨_,.data⟩ (by simp) rfl) (TR.FA3P.keep zaf hst) (v:=c 3) (show upd c 4 (c 3) 4=upd c 4 (c 3) 3 from by rw [zd,ze _ _ (by decide)])
           clear R
           go_simp
           exact hK.out _ _ ⟨_,_,by simp [upd],R'⟩
          ·obtain rfl:=zI ho
           have hm:=hdep ⟨4,.data⟩ (by simp) rfl
           have em:c 4=c 3:=R.facts 4 hm
           obtain⟨vg,vx,vy,gg,x,y,ec,nm1,nm2,nm3,-⟩:(GcdGotR (N+1) g d) w' (c 3):=R.facts 3 (R.closed 4 hm 3 (by simp [TR.D3]))
           rw [ec] at em
           have R':=R.plain hn (fun j hj=>by simp [TR.D3] at hj;subst hj;exact hdep ⟨_,.data⟩ (by simp) rfl) (TR.FA3P.keep zaf hst) (v:=vg) (show ∃ u1 u2 u3:Value,upd c 5 vg 4=.tuple #[u1,u2,u3]∧upd c 5 vg 5=u1 from⟨vg,vx,vy,by rw [ze _ _ (by decide)];exact em,zd _ _ _⟩)
           clear R ec
           rw [em]
           go_simp
           exact hK.out _ _ ⟨_,_,by simp [upd,em],R'⟩
          ·obtain rfl:=zI ho
           have hm:=hdep ⟨4,.data⟩ (by simp) rfl
           have em:c 4=c 3:=R.facts 4 hm
           obtain⟨vg,vx,vy,gg,x,y,ec,nm1,nm2,nm3,-⟩:(GcdGotR (N+1) g d) w' (c 3):=R.facts 3 (R.closed 4 hm 3 (by simp [TR.D3]))
           rw [ec] at em
           have R':=R.plain hn (fun j hj=>by simp [TR.D3] at hj;subst hj;exact hdep ⟨_,.data⟩ (by simp) rfl) (TR.FA3P.keep zaf hst) (v:=vx) (show ∃ u1 u2 u3:Value,upd c 6 vx 4=.tuple #[u1,u2,u3]∧upd c 6 vx 6=u2 from⟨vg,vx,vy,by rw [ze _ _ (by decide)];exact em,zd _ _ _⟩)
           clear R ec
           rw [em]
           go_simp
           exact hK.out _ _ ⟨_,_,by simp [upd,em],R'⟩
          ·obtain rfl:=zI ho
           have hm:=hdep ⟨4,.data⟩ (by simp) rfl
           have em:c 4=c 3:=R.facts 4 hm
           obtain⟨vg,vx,vy,gg,x,y,ec,nm1,nm2,nm3,-⟩:(GcdGotR (N+1) g d) w' (c 3):=R.facts 3 (R.closed 4 hm 3 (by simp [TR.D3]))
           rw [ec] at em
           have R':=R.plain hn (fun j hj=>by simp [TR.D3] at hj;subst hj;exact hdep ⟨_,.data⟩ (by simp) rfl) (TR.FA3P.keep zaf hst) (v:=vy) (show ∃ u1 u2 u3:Value,upd c 7 vy 4=.tuple #[u1,u2,u3]∧upd c 7 vy 7=u3 from⟨vg,vx,vy,by rw [ze _ _ (by decide)];exact em,zd _ _ _⟩)
           clear R ec
           rw [em]
           go_simp
           exact hK.out _ _ ⟨_,_,by simp [upd,em],R'⟩
          ·obtain rfl:=zI ho
           obtain⟨G',R'⟩:=R.alloc hn (zN rfl) (TR.FA3P.keep zaf hst) 11 (fun W' G' h=>show TR.Made W' G' _ 11 (upd c 8 (ptr w'.heap.size) 8) from by rw [zd];exact h)
           clear R
           go_simp
           exact hK.out _ _ ⟨_,G',by simp [upd],R'⟩
          ·obtain rfl:=zI ho
           obtain⟨G',R'⟩:=R.alloc hn (zN rfl) (TR.FA3P.keep zaf hst) 12 (fun W' G' h=>show TR.Made W' G' _ 12 (upd c 9 (ptr w'.heap.size) 9) from by rw [zd];exact h)
           clear R
           go_simp
           exact hK.out _ _ ⟨_,G',by simp [upd],R'⟩
          ·obtain rfl:=zI ho
           obtain⟨G',R'⟩:=R.alloc hn (zN rfl) (TR.FA3P.keep zaf hst) 13 (fun W' G' h=>show TR.Made W' G' _ 13 (upd c 10 (ptr w'.heap.size) 10) from by rw [zd];exact h)
           clear R
           go_simp
           exact hK.out _ _ ⟨_,G',by simp [upd],R'⟩
          ·obtain rfl:=zI ho
           have hx:=hdep ⟨5,.data⟩ (by simp) rfl
           have hm:=R.closed 5 hx 4 (by simp [TR.D3])
           have em:c 4=c 3:=R.facts 4 hm
           obtain⟨vg,vx,vy,gg,x,y,ec,nm1,nm2,nm3,-⟩:(GcdGotR (N+1) g d) w' (c 3):=R.facts 3 (R.closed 4 hm 3 (by simp [TR.D3]))
           obtain⟨u1,u2,u3,em',ex⟩:∃ u1 u2 u3:Value,c 4=.tuple #[u1,u2,u3]∧c 5=u1:=R.facts 5 hx
           rw [em,ec] at em'
           simp only [Value.tuple.injEq,Array.mk.injEq,List.cons.injEq,and_true] at em'
           obtain⟨rfl,rfl,rfl⟩:=em'
           obtain⟨s,hs⟩:=TR.rm_of nm1
           rw [hs] at ex
           obtain⟨B,ea,hC,hB,hG,r,hb⟩:TR.Made w' G _ 11 (c 8):=R.facts 8 (hdep ⟨8,.data⟩ (by simp) rfl)
           have R':=R.store hn (fun j hj=>by simp [TR.D3] at hj;rcases hj with rfl | rfl <;> exact hdep ⟨_,.data⟩ (by simp) rfl) (TR.FA3P.keep zaf hst) s hC hB hG hb (fun W' G' h=>show ∃ r:Rm,upd c 11 undef 5=r.v∧TR.Stored W' G' _ 11 (upd c 11 undef 8) r from⟨s,by rw [ze _ _ (by decide)];exact ex,by rw [ze _ _ (by decide),ea];exact h⟩)
           obtain⟨b0,b1,b2,b3⟩:=hb.box
           obtain⟨sn,so,sl,sc⟩:=s
           dsimp only at *
           clear R em ec
           rw [ea,ex]
           go_simp
           exact hK.out _ _ ⟨_,_,by simp [upd,ea,ex],R'⟩
          ·obtain rfl:=zI ho
           have hx:=hdep ⟨6,.data⟩ (by simp) rfl
           have hm:=R.closed 6 hx 4 (by simp [TR.D3])
           have em:c 4=c 3:=R.facts 4 hm
           obtain⟨vg,vx,vy,gg,x,y,ec,nm1,nm2,nm3,-⟩:(GcdGotR (N+1) g d) w' (c 3):=R.facts 3 (R.closed 4 hm 3 (by simp [TR.D3]))
           obtain⟨u1,u2,u3,em',ex⟩:∃ u1 u2 u3:Value,c 4=.tuple #[u1,u2,u3]∧c 6=u2:=R.facts 6 hx
           rw [em,ec] at em'
           simp only [Value.tuple.injEq,Array.mk.injEq,List.cons.injEq,and_true] at em'
           obtain⟨rfl,rfl,rfl⟩:=em'
           obtain⟨s,hs⟩:=TR.rm_of nm2
           rw [hs] at ex
           obtain⟨B,ea,hC,hB,hG,r,hb⟩:TR.Made w' G _ 12 (c 9):=R.facts 9 (hdep ⟨9,.data⟩ (by simp) rfl)
           have R':=R.store hn (fun j hj=>by simp [TR.D3] at hj;rcases hj with rfl | rfl <;> exact hdep ⟨_,.data⟩ (by simp) rfl) (TR.FA3P.keep zaf hst) s hC hB hG hb (fun W' G' h=>show ∃ r:Rm,upd c 12 undef 6=r.v∧TR.Stored W' G' _ 12 (upd c 12 undef 9) r from⟨s,by rw [ze _ _ (by decide)];exact ex,by rw [ze _ _ (by decide),ea];exact h⟩)
           obtain⟨b0,b1,b2,b3⟩:=hb.box
           obtain⟨sn,so,sl,sc⟩:=s
           dsimp only at *
           clear R em ec
           rw [ea,ex]
           go_simp
           exact hK.out _ _ ⟨_,_,by simp [upd,ea,ex],R'⟩
          ·obtain rfl:=zI ho
           have hx:=hdep ⟨7,.data⟩ (by simp) rfl
           have hm:=R.closed 7 hx 4 (by simp [TR.D3])
           have em:c 4=c 3:=R.facts 4 hm
           obtain⟨vg,vx,vy,gg,x,y,ec,nm1,nm2,nm3,-⟩:(GcdGotR (N+1) g d) w' (c 3):=R.facts 3 (R.closed 4 hm 3 (by simp [TR.D3]))
           obtain⟨u1,u2,u3,em',ex⟩:∃ u1 u2 u3:Value,c 4=.tuple #[u1,u2,u3]∧c 7=u3:=R.facts 7 hx
           rw [em,ec] at em'
           simp only [Value.tuple.injEq,Array.mk.injEq,List.cons.injEq,and_true] at em'
           obtain⟨rfl,rfl,rfl⟩:=em'
           obtain⟨s,hs⟩:=TR.rm_of nm3
           rw [hs] at ex
           obtain⟨B,ea,hC,hB,hG,r,hb⟩:TR.Made w' G _ 13 (c 10):=R.facts 10 (hdep ⟨10,.data⟩ (by simp) rfl)
           have R':=R.store hn (fun j hj=>by simp [TR.D3] at hj;rcases hj with rfl | rfl <;> exact hdep ⟨_,.data⟩ (by simp) rfl) (TR.FA3P.keep zaf hst) s hC hB hG hb (fun W' G' h=>show ∃ r:Rm,upd c 13 undef 7=r.v∧TR.Stored W' G' _ 13 (upd c 13 undef 10) r from⟨s,by rw [ze _ _ (by decide)];exact ex,by rw [ze _ _ (by decide),ea];exact h⟩)
           obtain⟨b0,b1,b2,b3⟩:=hb.box
           obtain⟨sn,so,sl,sc⟩:=s
           dsimp only at *
           clear R em ec
           rw [ea,ex]
           go_simp
           exact hK.out _ _ ⟨_,_,by simp [upd,ea,ex],R'⟩
         ·rintro L a' w1 ⟨c1,G,rfl,R⟩ hall
          obtain⟨⟨ks,kO,kL,kC⟩,⟨sx,xo,xl,xc⟩,⟨sy,yo,yl,yc⟩,B1,B2,B3,⟨vg,vx,vy,gg,x,y,ec,N1,N2,N3,hgx,hgp,⟨p',hp⟩,⟨q',hq⟩⟩,e13,e14,e15,l1,l2,l3,s1,s2,s3,d12,d13,d23,x1,x2,x3,hb1⟩:=R.fin3P (fun i hi=>hall i hi)
          simp only [Value.tuple.injEq,Array.mk.injEq,List.cons.injEq,and_true] at ec
          obtain⟨rfl,rfl,rfl⟩:=ec
          have HGN:=hide (HGC.out.snoc hgp hgx ⟨p',by rw [Int.mul_comm];exact hp⟩ ⟨q',by rw [Int.mul_comm];exact hq⟩)
          rw [← HDS.out] at HGN
          have HG7:=hide (HGV.out.later hb1);have HR7:=hide (HR6.out.below hb1 (Nat.le_refl _));have HC7:=hide (HC6.out.below hb1 (Nat.le_refl _));have HB7:=hide (HB6.out.trans (hb1.mono HB6.out.size))
          have HG8:=hide (RVar.write (r:=⟨ks,kO,kL,kC⟩) HG7.out.box N1)
          have HR8:=hide (HR7.out.setBox HG7.out.box (.int .i64 ks) (.slice kO kL kC));have HC8:=hide (HC7.out.setBox HG7.out.box (.int .i64 ks) (.slice kO kL kC));have HB8:=hide (zB HB7.out (C:=W1.heap.size) (Nat.le_refl _) (.int .i64 ks) (.slice kO kL kC))
          have HGI':Hid (∃(r:Rm) (g:Int),RVar ((w1.setCell ⟨W1.heap.size,0,none⟩ (.int .i64 ks)).setCell ⟨W1.heap.size,1,none⟩ (.slice kO kL kC)) W1.heap.size r g (1000+i*16+(j+1))∧GcdOf (detsTo ms a rows cols i (j+1)) g):=⟨_,gg,by have h:=HG8.out;rw [HNE.out] at h;exact h,HGN.out⟩
          obtain⟨y0,y1,y2,y3⟩:=x1.box
          obtain⟨t0,t1,t2,t3⟩:=HG7.out.box.box
          clear R hall N1 N2 N3 hgx hgp hp hq l1 l2 l3 s1 s2 s3 d12 d13 d23 x1 x2 x3 hb1 hst b0 b1 HG8 HR7 HC7 HB7 HG7 HGN HGC HGV HR6 HC6 HB6 HDS HSUB
          dsimp only at *
          rw [e13,e14,e15]
          clear e13 e14 e15
          go_wp2
          go_roundw
          case rel=>exact⟨j+1,by omega,by go_num,HR8,HC8,HGI',HB8⟩
          case measure=>simp [intOf];omega
      ·obtain rfl:j=cols.length:=by omega
       have HGI':Hid (∃(r:Rm) (g:Int),RVar wr W1.heap.size r g (1000+(i+1)*16)∧GcdOf (detsTo ms k rows cols (i+1) 0) g):=by
        obtain⟨r,g,h1,h2⟩:=HGI.out
        exact⟨r,g,⟨h1.box,h1.num.mono (by rw [Nat.add_mul];omega)⟩,by rw [zhW ms k rows cols i hir];exact h2⟩
       clear HGI
       go_wp2
       go_roundw
       case rel=>exact⟨i+1,by omega,by go_num,HR4,HC4,HGI',HB4⟩
       case measure=>simp [intOf];omega
    ·obtain rfl:i=rows.length:=by omega
     obtain⟨⟨gs,gO,gL,gC⟩,g,hgv,hgd⟩:=HGI.out
     have HGX:=hide (HGD2.out g hgd);have HG0:=hide hgd.pos
     have HGV:=hide hgv
     obtain⟨b0,b1,b2,b3⟩:=hgv.box.box
     dsimp only at b0 b1
     have HSG:=hide hgv.num.sgn0.1
     dsimp only at HSG
     have HDN:=hide HGD.out
     clear hgv hgd HGI HR4 HC4
     by_cases hgz:g=0
     ·have hs0:gs=0:=HSG.out.2 hgz
      subst hs0
      have HEND:Hid (Dv ((ps.map (·.2)).length+1) ms.length n (ent ms) 0):=by
       have h:=(HGX.out 0).1 (by rw [hgz];exact Int.dvd_refl 0)
       show Dv _ _ _ _ _
       rw [List.length_map,HPL.out,HK.out]
       exact h
      have HRET:=hide (HGD.out.later HB4.out).row
      have HBR:=hide (HBW.out.trans (HB4.out.mono HBW.out.size))
      go_wp2
      go_ret
      exact⟨.slice dO dl dc,rfl,ps.map (·.2),HRET.out,HBR.out,HRS.out,.inr (.inr HEND.out)⟩
     ·have hs0:¬(gs=0):=fun h=>hgz (HSG.out.1 h)
      have hs1:(gs==0)=false:=beq_eq_false_iff_ne.2 hs0
      obtain⟨⟨xs,xO,xL,xC⟩,hlv⟩:=HLV.out
      have HLW:=hide (hlv.later HB4.out)
      obtain⟨b4,b5,-,-⟩:=HLW.out.box.box
      dsimp only at b4 b5
      have ll:=HLW.out.box.lt
      have lg:=HGV.out.box.lt
      clear hlv
      have hml:(ps.map (·.2)).length=t:=by rw [List.length_map];exact HPL.out
      have HLA2:Hid (last=prodN (ps.map (·.2)).length (fun i=>(ps.map (·.2)).getD i 0)):=by show _=_;rw [hml];exact HLA.out
      have HLP:Hid (0<last):=by show 0<last;rw [HLA2.out];exact zad _ _ fun i hi=>HRS.out.pos i hi
      have HL0:Hid (last≠0):=fun h=>by have:=HLP.out;rw [h] at this;exact absurd this (by decide)
      have HGX2:Hid (∀ x,x∣g↔Dv ((ps.map (·.2)).length+1) ms.length n (ent ms) x):=by show ∀ x,_;rw [hml,HK.out];exact HGX.out
      have HDV:Hid (last∣g):=by show last∣g;rw [HLA2.out];exact HRS.out.goes HGX2.out
      have HKK:Hid ((ps.map (·.2)).length+1≤ms.length∧(ps.map (·.2)).length+1≤n):=by show _∧_;rw [hml];exact hkm
      have HGP:Hid (0<g):=by have:=HG0.out;show 0<g;omega
      obtain⟨N,hN⟩:∃ N,1000+rows.length*16=N:=⟨_,rfl⟩
      have HN2:Hid (N≤2000):=by show _≤_;omega
      rw [hN] at HGV
      clear hml hN HSG b2 b3
      go_wp2_with fail
      refine(zaP wr _ _ g last N 2000 HGV.out.num HLW.out.num HL0.out (by have:=HN2.out;omega) (by decide)).mono ?_
      rintro e w2 ⟨vq,vr,q,r',rfl,N1,N2,hqe,hql,hb2⟩
      obtain⟨⟨qs,qO,qL,qC⟩,rfl⟩:=N1.rm
      obtain⟨⟨zs,zO,zL,zC⟩,rfl⟩:=N2.rm
      try dsimp only at N1
      obtain⟨pp,hpp⟩:=HDV.out
      have hgq:g=q*last:=Left.exact HLP.out (by rw [hpp];exact Int.mul_comm _ _) hqe hql
      have HS:=hide (HRS.out.snoc (q:=q) HLA2.out HKK.out HGP.out HGX2.out hgq)
      have hba:Below w2.heap.size w2 ((w2.alloc (.cells #[.int .i64 qs,.slice qO qL qC] 40)).alloc (.cells #[.int .i64 zs,.slice zO zL zC] 40)):=((Below.refl _ _).alloc (Nat.le_refl _) _).alloc (by simp) _
      have hb1:=hb2.trans (hba.mono hb2.size)
      have HNQ:Hid (NumR ((w2.alloc (.cells #[.int .i64 qs,.slice qO qL qC] 40)).alloc (.cells #[.int .i64 zs,.slice zO zL zC] 40)) (Rn.val ⟨qs,qO,qL,qC⟩) q 2006):=(N1.below hba (Nat.le_refl _)).mono (by have:=HN2.out;omega)
      have XQ:BoxR ((w2.alloc (.cells #[.int .i64 qs,.slice qO qL qC] 40)).alloc (.cells #[.int .i64 zs,.slice zO zL zC] 40)) w2.heap.size (.int .i64 qs) (.slice qO qL qC):=(zp w2 _ _ _ rfl).later ((Below.refl _ _).alloc (by simp) _:Below (w2.heap.size+1) _ _) (by omega)
      have HG7:=hide (HGV.out.later hb1);have HL7:=hide (HLW.out.later hb1);have HD7:=hide ((HGD.out.later HB4.out).later hb1);have HB7:=hide ((HBW.out.trans (HB4.out.mono HBW.out.size)).trans (hb1.mono (HBW.out.trans (HB4.out.mono HBW.out.size)).size))
      have HW7:Hid (W0.heap.size≤((w2.alloc (.cells #[.int .i64 qs,.slice qO qL qC] 40)).alloc (.cells #[.int .i64 zs,.slice zO zL zC] 40)).heap.size):=by
       have h1:=HW0.out;have h2:=HB4.out.size;have h3:=hb1.size
       show _≤_
       omega
      obtain⟨y0,y1,-,-⟩:=XQ.box
      try dsimp only at y0 y1
      clear N1 N2 hqe hql hb2 hba hb1 b0 b1 b4 b5 hpp hgq HLW HGV
      go_upto_region 29 with fail
      generalize (w2.alloc (.cells #[.int .i64 qs,.slice qO qL qC] 40)).alloc (.cells #[.int .i64 zs,.slice zO zL zC] 40)=w1 at *
      generalize w2.heap.size=QB at *
      obtain⟨t0,t1,-,-⟩:=HG7.out.box.box
      try dsimp only at t0 t1
      have hown:=HD7.out.1
      have hbs:=HW7.out
      have HTY:=hide ((zbd (ts:=[3]) hown (by decide)).alloc (.cells #[.int .i64 qs,.slice qO qL qC] 40))
      go_wp2_with (at_builtin;refine wpList_append_lies _ rfl _ _ 49 rfl W0.heap.size 40 i0 (.agg #[.int .i64 0,.slice none 0 0]) 2 32 (by kernel_rfl) hi hz0 hz1 hz2 rfl (by decide) (.slice dO dl dc) ps.length (ps.flatMap rcells) rfl (hown.alloc _) ⟨w1.heap.size,0,none⟩ 1 1 [.int .i64 qs,.slice qO qL qC] rfl rfl (World.news_of_block (heap_alloc_new w1 _)) (fun u hu=>by simp only [List.mem_cons,List.mem_nil_iff,or_false] at hu;rcases hu with rfl | rfl <;> rfl) (by decide) (by unfold maxLen;have:=HPL.out;omega) (by have:=HPL.out;omega) (by simp;omega) (w1.heap.size+1) (by simp) ?_)
      intro gb cap5 w5 hown5 hgrow5 hat5 hlt5
      have HNN:=hide (zbs HD7.out HNQ.out hown5 hgrow5)
      have hob:=zaa hown hbs hgrow5
      have HNG:=hide ((HG7.out.num.below ((Below.refl _ _).alloc (Nat.le_refl _) (.cells #[.int .i64 qs,.slice qO qL qC] 40):Below w1.heap.size _ _) (Nat.le_refl _)).grown hgrow5 HTY.out)
      have HLB5:=hide (HL7.out.box.later hob HLB.out.2)
      have HB5:=hide (HB7.out.trans (hob.mono (show w.heap.size≤W0.heap.size from by have:=HLB.out;omega)))
      have hgne:(Value.slice dO dl dc).ownBlock≠some W1.heap.size:=fun e=>by have h1:=(HGD.out.1.lt _ e).2;omega
      have f0:=hgrow5.cell (a:=⟨W1.heap.size,0,none⟩) (((Below.refl _ _).alloc (Nat.le_refl _) (.cells #[.int .i64 qs,.slice qO qL qC] 40):Below w1.heap.size _ _).cell (p:=⟨W1.heap.size,0,none⟩) HG7.out.box.lt |>.trans t0) (fun e=>hgne e.symm)
      have f1:=hgrow5.cell (a:=⟨W1.heap.size,1,none⟩) (((Below.refl _ _).alloc (Nat.le_refl _) (.cells #[.int .i64 qs,.slice qO qL qC] 40):Below w1.heap.size _ _).cell (p:=⟨W1.heap.size,1,none⟩) HG7.out.box.lt |>.trans t1) (fun e=>hgne e.symm)
      obtain⟨k0,k1,k2,k3⟩:=HLB5.out.box
      try dsimp only at k0 k1 k2 k3
      have HW5:Hid (W0.heap.size≤w5.heap.size):=Nat.le_trans hbs hob.size
      have HLVN:=hide (RVar.write (r:=⟨gs,gO,gL,gC⟩) HLB5.out (HNG.out.mono (m:=2000) HN2.out))
      have HND:=hide (HNN.out.setBox HLB5.out HLB.out.2 (.int .i64 gs) (.slice gO gL gC))
      have HNB:=hide (zB HB5.out (C:=LB) HLB.out.1 (.int .i64 gs) (.slice gO gL gC))
      have hm5:(ps++[((⟨qs,qO,qL,qC⟩:Rn),q)]).map (·.2)=ps.map (·.2)++[q]:=by rw [List.map_append];rfl
      have HPN:Hid ((ps++[((⟨qs,qO,qL,qC⟩:Rn),q)]).length=t+1):=by have:=HPL.out;show _=_;rw [List.length_append,List.length_singleton];omega
      have HRN:Hid (RefSm ms ms.length n ((ps++[((⟨qs,qO,qL,qC⟩:Rn),q)]).map (·.2))):=by show RefSm _ _ _ _;rw [hm5];exact HS.out.1
      have HLN:Hid (g=prodN (t+1) (fun i=>((ps++[((⟨qs,qO,qL,qC⟩:Rn),q)]).map (·.2)).getD i 0)):=by
       have h:=HS.out.2
       rw [← hm5] at h
       have e:((ps++[((⟨qs,qO,qL,qC⟩:Rn),q)]).map (·.2)).length=t+1:=by rw [List.length_map];exact HPN.out
       rw [e] at h
       exact h
      have HWN:Hid (W0.heap.size≤((w5.setCell ⟨LB,0,none⟩ (.int .i64 gs)).setCell ⟨LB,1,none⟩ (.slice gO gL gC)).heap.size):=by show _≤_;simpa using HW5.out
      clear hown hown5 hgrow5 hat5 hlt5 hob HNN HNG HLB5 HB5 hgne t0 t1 y0 y1 hm5 HS HD7 HG7 HL7 HB7 HW7
      go_wp2
      go_roundw
      case rel=>exact⟨t+1,_,g,by go_num,HND,HPN,HRN,HLN,⟨_,HLVN.out⟩,HNB,HWN⟩
      case measure=>simp [intOf];omega
  ·have HRET:=hide HGD.out.row
   have HLN:Hid ((ps.map (·.2)).length=t):=by show _=_;rw [List.length_map];exact HPL.out
   by_cases h1:t+1≤ms.length
   ·have g1:decide ((t:Int)+1≤(ms.length:Int))=true:=decide_eq_true (by omega)
    have g2:decide ((t:Int)+1≤(n:Int))=false:=decide_eq_false (by omega)
    have HEN:Hid (t=n):=by have:=HTL.out;show _=_;omega
    go_wp2
    go_ret
    exact⟨_,_,rfl,HRET.out,HBW.out,HRS.out,.inr (.inl (HLN.out.trans HEN.out))⟩
   ·have g1:decide ((t:Int)+1≤(ms.length:Int))=false:=decide_eq_false (by omega)
    have HEN:Hid (t=ms.length):=by have:=HTL.out;show _=_;omega
    go_wp2
    go_ret
    exact⟨_,_,rfl,HRET.out,HBW.out,HRS.out,.inl (HLN.out.trans HEN.out)⟩
end Go.Proofs.YtdedolkgcdlmeaaGreatDoor
