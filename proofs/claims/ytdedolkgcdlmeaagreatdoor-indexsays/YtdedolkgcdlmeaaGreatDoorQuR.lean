import Derived.Test.YtdedolkgcdlmeaaGreatDoorSmR
set_option maxRecDepth 100000
set_option maxHeartbeats 6400000
set_option linter.unusedSimpArgs false
namespace Go.Proofs.YtdedolkgcdlmeaaGreatDoor
open Go.RowKit Limbs Digs
variable {W:World}{B C n:Nat}{u1 u0 v:Value}
def QVar (W:World)(B:Nat)(u0 u1:Value):Prop:=Box W B u0 u1∧∃ cs,W.heap[B]?=some (.cells cs 77 (0,0))
theorem QVar.lt(h:QVar W B u0 u1):B<W.heap.size:=by
 obtain⟨-,cs,h2⟩:=h
 exact zq h2
theorem QVar.new (W:World)(u0 u1:Value):QVar (W.alloc (.cells #[u0,u1] 77)) W.heap.size u0 u1:=⟨zj W _ _ _ _ rfl,_,heap_alloc_new W _⟩
theorem QVar.later{W':World}(h:QVar W B u0 u1)(hb:Below C W W')(hB:B<C):QVar W' B u0 u1:=by
 obtain⟨h1,cs,h2⟩:=h
 exact⟨h1.later hb hB,cs,(hb.block _ hB).trans h2⟩
theorem QVar.putOther(h:QVar W B u0 u1)(hne:B≠C)(k:Nat)(y:Value):QVar (W.setCell ⟨C,k,none⟩ y) B u0 u1:=by
 obtain⟨⟨a,b,c,d⟩,cs,h2⟩:=h
 have hb:=Below.heap_setCell W ⟨C,k,none⟩ y B hne
 exact⟨⟨(World.cell?_of_block (a:=⟨B,0,none⟩) hb).trans a,(World.cell?_of_block (a:=⟨B,1,none⟩) hb).trans b,(World.frozen?_of_block (a:=⟨B,0,none⟩) hb).trans c,(World.frozen?_of_block (a:=⟨B,1,none⟩) hb).trans d⟩,cs,hb.trans h2⟩
theorem QVar.put(h:QVar W B u0 u1)(y:Value):QVar (W.setCell ⟨B,0,none⟩ y) B y u1:=by
 obtain⟨hbx,cs,h2⟩:=h
 have hw:=hbx.write y u1
 obtain⟨a,b,c,d⟩:=hbx
 have hh:=heap_setCell_same W B 0 _ _ y h2
 refine⟨⟨?_,Eq.trans (World.cell?_setCell_other (h:=fun e=>by simp at e) ..) b,?_,?_⟩,_,hh⟩
 ·have h1:=hw.1
  rw [World.cell?_setCell_other (h:=fun e=>by simp at e)] at h1
  exact h1
 ·simpa using c
 ·simpa using d
theorem RowR.setQ{zs:List Int}(h:RowR W v zs n)(hB:QVar W B u0 u1)(k:Nat)(y:Value):RowR (W.setCell ⟨B,k,none⟩ y) v zs n:=by
 obtain⟨-,cs,h2⟩:=hB
 exact h.setTyped h2 (by decide) (by decide) k y
theorem Grow.setQ{base:Nat}{ps:List (Nm × Int)}{o:Option Addr}{l c:Nat}(h:Grow W base v ps n)(hB:QVar W B (.slice o l c) u1)(y:Value):Grow (W.setCell ⟨B,0,none⟩ y) base v ps n:=by
 obtain⟨⟨c0,-,-,-⟩,cs,h2⟩:=hB
 refine⟨⟨h.1.1,?_⟩,fun p hp=>⟨(h.2 p hp).1.setCell c0 (fun z e=>by cases e),(h.2 p hp).2⟩⟩
 rcases h.1.2 with hn |⟨g,cap,cur,e,hbg,hh,rest⟩
 ·exact .inl hn
 ·have hne:g≠B:=fun e=>by
   rw [e,h2] at hh
   simp only [Option.some.injEq,Obj.cells.injEq] at hh
   exact absurd hh.2.1 (by decide)
  exact .inr ⟨g,cap,cur,e,hbg,(Below.heap_setCell W ⟨B,0,none⟩ y g hne).trans hh,rest⟩
def QuoRPost (w:World)(n:Nat)(hs ks:List (List Int))(pk:Nat→Nat)(e:Ending)(w':World):Prop:=
 Below w.heap.size w w'∧(((¬ ∀ us∈hs,Gens n (InL ks) us)∧e=.returned (.tuple #[.agg #[.slice none 0 0,.int .i64 0],.int .i64 12])) ∨
  ((∀ us∈hs,Gens n (InL ks) us)∧∃ u ds,e=.returned (.tuple #[.agg #[u,(.int .i64 ((ks.length:Int)-(hs.length:Int)))],.int .i64 0])∧VecN w' u (overOne ds) 2006∧RefSm (muchM hs ks pk) hs.length ks.length ds∧(ds.length=hs.length∨ds.length=ks.length∨Dv (ds.length+1) hs.length ks.length (ent (muchM hs ks pk)) 0)))
theorem zkh (w:World)(vA vB:Value)(n N:Nat)(hs ks:List (List Int))(p pk:Nat→Nat)(ha:MatR w vA hs N)(hF:FormL n hs p)(hb:MatR w vB ks N)(G:FormL n ks pk)(hn:n≤4)(hN:N≤10000)(hsm:(∀ us∈hs,Gens n (InL ks) us)→∀ zs∈muchM hs ks pk,∀ j,j<zs.length→-dp 24<zs.getD j 0∧zs.getD j 0<dp 24):
  Calls Tryz.prog 44 #[vA,vB] w fun e w'=>QuoRPost w n hs ks pk e w':=by
 obtain⟨i0,hi,hz0,hz1,hz2⟩:=info_parts Tryz.infoNum
 obtain⟨j0,hj,hy0,hy1,hy2⟩:=info_parts Tryz.infoRRow
 have HI0:=hide hi;have HZ0:=hide hz0;have HZ1:=hide hz1;have HZ2:=hide hz2
 have HJ:=hide hj;have HY0:=hide hy0;have HY1:=hide hy1;have HY2:=hide hy2
 clear hi hz0 hz1 hz2 hj hy0 hy1 hy2
 have HA:=hide ha;have HBM:=hide hb;have HG:=hide G;have HF:=hide hF;have HSM:=hide hsm
 have hle:=zbS hF;have hke:=zbS G
 have HB0:=hide (zR w (.cells #[.slice none 0 0,.int .i64 0] 77))
 have HX0:=hide (QVar.new w (.slice none 0 0) (.int .i64 0))
 have HIN:=hide (fun r hr=>zfj (w.alloc (.cells #[.slice none 0 0,.int .i64 0] 77)) vA vB n N hs ks pk (ha.below HB0.out zL) hF.len (hb.below HB0.out zL) G hn hN (by omega) r hr)
 obtain⟨ao,acap,rfl,-,-⟩:=ha
 obtain⟨bo,bcap,rfl,-,-⟩:=hb
 clear G hF hsm
 by_cases hin:∀ us∈hs,Gens n (InL ks) us
 ·have HIT:=hide (HIN.out true ⟨fun _=>hin,fun _=>rfl⟩)
  have HINS:=hide hin
  clear HIN hin
  go_enter Tryz.func44,Tryz.ntmps44
  go_wp2_with fail
  generalize (w.alloc (.cells #[.slice none 0 0,.int .i64 0] 77))=W0 at *
  refine HIT.out.mono ?_
  rintro e W1 ⟨rfl,hb1⟩
  have HX1:=hide (HX0.out.later hb1 HX0.out.lt)
  have HB1:=hide (HB0.out.trans (hb1.mono HB0.out.size))
  clear hb1 HIT HX0 HB0
  go_wp2
  go_loopw [7,8] (fun out i wr=>∃(k:Nat) (qs:List (Value × List Int)),k≤hs.length∧i=.int .i64 k∧Hid (GrowM wr W1.heap.size out qs (N+4 *(N+8)+6))∧Hid (qs.map (·.2)=muchM (hs.take k) ks pk)∧Hid (Below W1.heap.size W1 wr)) (fun _ i _=>hs.length-(intOf i).toNat)
  case atStart=>exact⟨0,[],Nat.zero_le _,rfl,hide ⟨World.ownsRow_nil _ _ _ _,fun _ h=>by cases h⟩,hide (by rw [List.take_zero];rfl),hide (Below.refl _ _)⟩
  case round=>
   obtain⟨k,qs,hk,rfl,HGM,HQ,HBE⟩:=hrel
   have HQL:Hid (qs.length=k):=by
    have h:=congrArg List.length HQ.out
    rw [List.length_map,zaO,List.length_take] at h
    show _=_
    omega
   by_cases hkl:k<hs.length
   ·have HBw:=hide (HB1.out.trans (HBE.out.mono HB1.out.size))
    obtain⟨_,_,e,-,hc⟩:=HA.out.below HBw.out zL
    simp only [Value.slice.injEq,true_and] at e
    obtain⟨rfl,rfl⟩:=e
    obtain⟨b,rfl,hblt,hc⟩:=hc (by omega)
    obtain⟨u,cu,hu⟩:=hc k hs[k] (by simp [hkl])
    have HU:=hide hu
    have hul:hs[k].length=n:=HF.out.len _ (List.getElem_mem hkl)
    have HGI:=hide (HINS.out _ (List.getElem_mem hkl))
    have HQN:Hid (∀ r:Value,(qs++[(r,muchL ks pk hs[k])]).map (·.2)=muchM (hs.take (k+1)) ks pk):=fun r=>by
     rw [List.map_append,HQ.out,List.take_succ_eq_append_getElem hkl]
     unfold muchM
     rw [List.map_append];rfl
    clear hc
    generalize hs[k]=us at *
    obtain⟨vo,vcap,rfl,-,-⟩:=hu
    have HUL:=hide hul
    clear hul
    go_wp2_with fail
    refine(zeE wr _ _ n N N ks pk us (HBM.out.below HBw.out zL) HG.out HU.out HUL.out hn hN hN).mono ?_
    rintro e w2 ⟨hb2,hcase⟩
    rcases hcase with⟨-,u2,rfl,hu2⟩ |⟨hg,-⟩
    ·obtain⟨so,sc,e2,hr2⟩:=id hu2
     subst e2
     have HR2:Hid (RowR w2 (.slice so (muchL ks pk us).length sc) (muchL ks pk us) (N+4 *(N+8)+6)):=hu2
     have HGX:=hide (HGM.out.later hb2)
     have HBX:=hide (HBE.out.trans (hb2.mono HBE.out.size))
     have hown:=HGX.out.1
     have hbs:=HBX.out.size
     have hj:=HJ.out;have hy0:=HY0.out;have hy1:=HY1.out;have hy2:=HY2.out
     clear hu2 hr2 HGM hb2 cu HU HBw
     generalize muchL ks pk us=ts at *
     generalize ts.length=tl at *
     go_wp2_with (at_builtin;refine wpList_append_lies _ rfl _ _ 43 rfl W1.heap.size 106 j0 (.slice none 0 0) 1 24 (by kernel_rfl) hj hy0 hy1 hy2 rfl (by decide) u7 qs.length (qs.map (·.1)) rfl (hown.alloc _) ⟨w2.heap.size,0,none⟩ 1 1 [.slice so tl sc] rfl rfl (World.news_of_block (heap_alloc_new w2 _)) (fun u hu=>by rw [List.mem_singleton] at hu;subst hu;rfl) (by decide) (by unfold maxLen;have:=HQL.out;omega) (by have:=HQL.out;omega) (by simp;omega) (w2.heap.size+1) (by simp) ?_)
     intro g cap' w5 hown5 hgrow5 hat5 hlt5
     have HN:=hide (zcA HGX.out HR2.out hown5 hgrow5)
     have HB5:=hide (HBX.out.trans (zaa hown HBX.out.size hgrow5))
     have HQ5:=hide (HQN.out (.slice so tl sc))
     clear hown hown5 hgrow5 hat5 hlt5 HGX HR2 HBX HQN HQ hj hy0 hy1 hy2
     go_wp2
     go_roundw
     case rel=>exact⟨k+1,_,by omega,by go_num,HN,HQ5,HB5⟩
     case measure=>simp [intOf];omega
    ·exact absurd HGI.out hg
   ·obtain rfl:k=hs.length:=by omega
    have HMR:Hid (MatR wr u7 (muchM hs ks pk) 24):=by
     have h:=HGM.out.mat
     rw [HQ.out,List.take_length] at h
     exact h.fits (HSM.out HINS.out)
    have HXR:=hide (HX1.out.later HBE.out HX1.out.lt)
    have HBw:=hide (HB1.out.trans (HBE.out.mono HB1.out.size))
    have HSZ:Hid (w.heap.size<wr.heap.size):=HXR.out.lt
    clear HGM HQ HQL HBE HX1 HB1 HSM
    have hwr:IntKind.i64.wrap ((ks.length:Int)-(hs.length:Int))=(ks.length:Int)-(hs.length:Int):=by rw [IntKind.wrap_i64];omega
    have hN1:=zR wr (.cells #[.slice none 0 0,(.int .i64 ((ks.length:Int)-(hs.length:Int)))] 77)
    have HQV:=hide (QVar.new wr (.slice none 0 0) (.int .i64 ((ks.length:Int)-(hs.length:Int))))
    have HM1:=hide (HMR.out.below hN1 zL);have HX2:=hide (HXR.out.later hN1 HXR.out.lt);have HB2:=hide (HBw.out.trans (hN1.mono HBw.out.size))
    clear hN1 HMR HXR HBw
    go_wp2_with fail
    generalize (wr.alloc (.cells #[.slice none 0 0,(.int .i64 ((ks.length:Int)-(hs.length:Int)))] 77))=W2 at *
    generalize wr.heap.size=QB at *
    have HML:=hide (zb9 hs ks pk);have HMN:=hide (zaO hs ks pk)
    refine(zkT W2 _ (muchM hs ks pk) ks.length HM1.out HML.out (by omega) (by rw [HMN.out];omega)).mono ?_
    rintro e W3 ⟨u3,ds,rfl,h1,h2,h3,h4⟩
    rw [HMN.out] at h3 h4
    have HDS:=hide h3;have HEND:=hide h4
    have HD3:=hide h1
    have HQ3:=hide (HQV.out.later h2 HQV.out.lt);have HX3:=hide (HX2.out.later h2 HX2.out.lt);have HB3:=hide (HB2.out.trans (h2.mono HB2.out.size))
    have hd4:ds.length≤4:=by have:=h3.le;omega
    obtain⟨uo,ucap,rfl,-,-⟩:=h1
    clear h2 h3 h4 HQV HX2 HB2 HM1
    have HUB:Hid (0<ds.length→∀ a l c,Value.slice uo ds.length ucap=.slice (some a) l c→a.block<W3.heap.size):=fun h0 a l c e=>by
     obtain⟨b',c',e',lt',-⟩:=HD3.out.at 0 h0
     rw [e'] at e
     simp only [Value.slice.injEq,Option.some.injEq] at e
     rw [← e.1]
     exact lt'
    have HLW0:Hid (QB<W3.heap.size∧w.heap.size<QB):=⟨HQ3.out.lt,HSZ.out⟩
    go_wp2
    go_loopw [13] (fun i wr=>∃(k:Nat) (ps:List (Nm × Int)) (dO:Option Addr) (dl dc:Nat),k≤ds.length∧i=.int .i64 k∧Hid (Grow wr W3.heap.size (.slice dO dl dc) ps 2006)∧Hid (ps.map (·.2)=overOne (ds.take k))∧Hid (ps.length≤k)∧Hid (QVar wr QB (.slice dO dl dc) (.int .i64 ((ks.length:Int)-(hs.length:Int))))∧Hid (QVar wr w.heap.size (.slice none 0 0) (.int .i64 0))∧Hid (RowR wr (.slice uo ds.length ucap) ds 2006)∧Hid (Below w.heap.size w wr)∧Hid (W3.heap.size≤wr.heap.size)) (fun i _=>ds.length-(intOf i).toNat)
    case atStart=>exact⟨0,[],none,0,0,Nat.zero_le _,rfl,hide (Grow.nil _ _ _),hide rfl,hide zL,HQ3,HX3,HD3,HB3,hide zL⟩
    case round=>
     clear HQ3 HX3 HD3 HB3
     obtain⟨k,ps,dO,dl,dc,hk,rfl,HG3,HP,HPL,HQ3,HR3,HD3,HB3,HW3⟩:=hrel
     by_cases hkl:k<ds.length
     ·obtain⟨ub,_,e,lu,zs,zo,zl,zc,c1,c2,nz⟩:=HD3.out.at k hkl
      simp only [Value.slice.injEq,true_and] at e
      obtain⟨rfl,rfl⟩:=e
      have NZ:=hide nz
      have HSN:=hide (zfR ds k hkl)
      clear nz
      generalize ds.getD k 0=z at *
      go_wp2_with fail
      go_region_held3 (fun w'=>w'.cell? ⟨ub,k*2,none⟩=some (.int .i64 zs)∧w'.cell? ⟨ub,k*2+1,none⟩=some (.slice zo zl zc)) (go_keep)
       (first
        |(go_at_call 58;refine(z8 _ 1 (by decide) (by decide)).mono ?_;rintro e wa ⟨ra,rfl,hra,hb⟩;have HWa:Hid (Below wr.heap.size wr wa):=((Below.refl wr.heap.size wr).drew).trans hb;have a1:=(HWa.out.cell (p:=⟨ub,k*2,none⟩) lu).trans c1;have a2:=(HWa.out.cell (p:=⟨ub,k*2+1,none⟩) lu).trans c2;have NO:=hide hra;clear hb hra)
        |(go_at_call 90;refine(zey wa _ _ z 1 2006 5 (by exact NZ.out.below HWa.out zL) (by exact NO.out)).mono ?_;rintro e w4 ⟨rfl,hb⟩;have HW4':=hide (HWa.out.trans (hb.mono HWa.out.size));have b1:=(HW4'.out.cell (p:=⟨ub,k*2,none⟩) lu).trans c1;have b2:=(HW4'.out.cell (p:=⟨ub,k*2+1,none⟩) lu).trans c2;clear hb))
      have HG4:=hide (HG3.out.later HW4'.out);have HQ4:=hide (HQ3.out.later HW4'.out HQ3.out.lt);have HR4:=hide (HR3.out.later HW4'.out HR3.out.lt);have HD4:=hide (HD3.out.below HW4'.out zL);have HB4:=hide (HB3.out.trans (HW4'.out.mono HB3.out.size));have NZ4:=hide (NZ.out.below HW4'.out zL)
      have HW4:Hid (W3.heap.size≤w4.heap.size):=Nat.le_trans HW3.out HW4'.out.size
      have lu4:ub<w4.heap.size:=zT lu HW4'.out.size
      clear c1 c2 a1 a2 HG3 HQ3 HR3 HD3 HB3 HW3 NZ NO HWa HW4'
      by_cases hz1':1<z
      ·have hc:cmpI z 1=1:=by unfold cmpI;rw [if_neg (by omega),if_pos hz1']
       rw [hc]
       have c0:=HQ4.out.1.1;have c1:=b1;have c2:=b2
       have lq4:=HQ4.out.lt;have lr4:=HR4.out.lt
       have HLW:Hid (QB<W3.heap.size∧ub<W3.heap.size∧w.heap.size<QB):=⟨HLW0.out.1,HUB.out (by omega) _ _ _ rfl,HLW0.out.2⟩
       have hi:=HI0.out;have hz0:=HZ0.out;have hz1:=HZ1.out;have hz2:=HZ2.out
       clear hc b1 b2
       go_wp2_with fail
       refine zbJ (A:=fun j=>decide (j=1∨j=5∨j=6∨j=7∨j=8)) (S:=(fun w'=>w'.cell? ⟨QB,0,none⟩=some (.slice dO dl dc)∧w'.cell? ⟨ub,k*2,none⟩=some (.int .i64 zs)∧w'.cell? ⟨ub,k*2+1,none⟩=some (.slice zo zl zc))) (by kernel_rfl) (by exact⟨c0,c1,c2⟩) (fun hHeld=>?_)
       refine zx 0 62 ?_
       try simp only [zA]
       refine zx 2 64 ?_
       try simp only [zA]
       refine zx 3 65 ?_
       try simp only [zA]
       refine zx 4 66 ?_
       try simp only [zA]
       refine zi 1 63 [8,9,10] ?_
       try simp only [zA]
       refine zi 5 67 [6,7,8,9,10] ?_
       try simp only [zA]
       refine zM 6 (by kernel_rfl) rfl (fun K hK=>?_)
       go_simp
       refine(zfk w4.drew _ z 2006 (by exact NZ4.out.below (Below.refl w4.heap.size w4).drew zL) (by omega)).mono ?_
       rintro e w5 ⟨⟨v5,rfl,hv5,hb5'⟩,hnew5⟩
       have hb5:Below w4.heap.size w4 w5:=(Below.refl _ _).drew.trans hb5'
       obtain⟨⟨yn,yo,yl,yc⟩,rfl⟩:=hv5.nm
       have HNW:Hid (NewSl w4 (Nm.sl ⟨yn,yo,yl,yc⟩)):=fun a l c e=>by
        have:=hnew5 yn _ rfl a l c e
        exact this
       have d0:=(hb5.cell (p:=⟨QB,0,none⟩) lq4).trans c0;have d1:=(hb5.cell (p:=⟨ub,k*2,none⟩) lu4).trans c1;have d2:=(hb5.cell (p:=⟨ub,k*2+1,none⟩) lu4).trans c2
       have NY:Hid (NumL w5 (Nm.val ⟨yn,yo,yl,yc⟩) z 2006):=hv5
       have HG5:=hide (HG4.out.later hb5)
       have HAP:Hid (apart (Value.slice dO dl dc).ownBlock (Nm.sl ⟨yn,yo,yl,yc⟩)):=HG4.out.fresh zL HNW.out
       have HQ5:=hide (HQ4.out.later hb5 lq4);have HR5:=hide (HR4.out.later hb5 lr4);have HD5:=hide (HD4.out.below hb5 zL);have HB5:=hide (HB4.out.trans (hb5.mono HB4.out.size))
       have HW5:Hid (W3.heap.size≤w5.heap.size):=Nat.le_trans HW4.out hb5.size
       have HS45:=hide hb5.size
       clear hv5 hb5' hnew5 HNW
       go_wp2_with fail
       refine hK.out _ _ (fun _=>⟨d0,d1,d2⟩) ?_
       clear hK K hHeld hb5
       try simp only [zA]
       refine zM 7 (by kernel_rfl) rfl (fun K hK=>?_)
       go_simp
       have hbA:Below w5.heap.size w5 (w5.alloc (.cells #[.bool yn,.slice yo yl yc] 29)):=(Below.refl _ _).alloc zL _
       have lq5:QB<w5.heap.size:=HQ5.out.lt
       have lu5:ub<w5.heap.size:=zT lu4 HS45.out
       have f0:=(hbA.cell (p:=⟨QB,0,none⟩) lq5).trans d0;have f1:=(hbA.cell (p:=⟨ub,k*2,none⟩) lu5).trans d1;have f2:=(hbA.cell (p:=⟨ub,k*2+1,none⟩) lu5).trans d2
       refine hK.out _ _ (fun _=>⟨f0,f1,f2⟩) ?_
       clear hK K
       try simp only [zA]
       refine zM 8 (by kernel_rfl) rfl (fun K hK=>?_)
       have hown:=HG5.out.1
       have hbs:=HW5.out
       have HTY:=hide ((zbd (ts:=[3]) hown (by decide)).alloc (.cells #[.bool yn,.slice yo yl yc] 29))
       refine step_append_lies _ rfl (.tmp 63) (.tmp 69) 46 rfl W3.heap.size 29 i0 (.agg #[.bool false,.slice none 0 0]) 2 32 (by kernel_rfl) hi hz0 hz1 hz2 rfl (by decide) (.slice dO dl dc) ps.length (ps.flatMap ncells) rfl (hown.alloc _) ⟨w5.heap.size,0,none⟩ 1 1 [.bool yn,.slice yo yl yc] rfl rfl (World.news_of_block (heap_alloc_new w5 _)) (fun u hu=>by simp only [List.mem_cons,List.mem_nil_iff,or_false] at hu;rcases hu with rfl | rfl <;> rfl) (by decide) (by unfold maxLen;have:=HPL.out;omega) (by have:=HPL.out;omega) (by simp;omega) (w5.heap.size+1) (by simp) ?_
       intro g6 cap6 w6 hown6 hgrow6 hat6 hlt6
       have HN6:=hide (ze9 (r:=⟨yn,yo,yl,yc⟩) HG5.out NY.out HAP.out hown6 hgrow6 hat6)
       have hob:=ze8 HG5.out HW5.out hgrow6
       have HGA:=hide hgrow6
       have hgne:∀ g,(Value.slice dO dl dc).ownBlock=some g→W3.heap.size≤g:=fun g e=>(HG5.out.1.lt _ e).1
       have k0:=hgrow6.cell f0 (fun e=>by have h1:W3.heap.size≤QB:=hgne _ e.symm;have h2:=HLW.out;omega);have k1:=hgrow6.cell f1 (fun e=>by have h1:W3.heap.size≤ub:=hgne _ e.symm;have h2:=HLW.out;omega);have k2:=hgrow6.cell f2 (fun e=>by have h1:W3.heap.size≤ub:=hgne _ e.symm;have h2:=HLW.out;omega)
       have HQ6:=hide (HQ5.out.later hob (by have h2:=HLW.out;omega));have HR6:=hide (HR5.out.later hob (by have h2:=HLW.out;omega));have HB6:=hide (HB5.out.trans (hob.mono (by have h2:=HLW.out;omega)))
       have HD6:=hide ((HD5.out.below hbA zL).grownOff hgrow6 HTY.out (fun a l c e g hg=>by
        simp only [Value.slice.injEq,Option.some.injEq] at e
        have h1:=hgne _ hg;have h2:=HLW.out
        rw [← e.1]
        show ub≠g
        omega))
       have HW6:Hid (W3.heap.size≤w6.heap.size):=Nat.le_trans HW5.out hob.size
       refine hK.out _ _ (fun _=>⟨k0,k1,k2⟩) ?_
       clear hK K hown hown6 hgrow6 hat6 hlt6 hob hgne HGA
       try simp only [zA]
       refine zx 9 71 ?_
       try simp only [zA]
       obtain⟨x0,x1,x2,x3⟩:=HQ6.out.1
       refine zM 10 (by kernel_rfl) rfl (fun K hK=>?_)
       go_simp
       refine hK.out _ _ (fun h=>absurd h (by decide)) ?_
       clear hK K
       try simp only [zA]
       refine zbI (by kernel_rfl) ?_
       have HQ7:=hide (HQ6.out.put (.slice (some ⟨g6,0,none⟩) (ps.length+1) cap6))
       have HR7:=hide (HR6.out.putOther (C:=QB) (by have:=HLW.out;omega) 0 (.slice (some ⟨g6,0,none⟩) (ps.length+1) cap6))
       have HD7:=hide (HD6.out.setQ HQ6.out 0 (.slice (some ⟨g6,0,none⟩) (ps.length+1) cap6))
       have HG7:=hide (HN6.out.setQ HQ6.out (.slice (some ⟨g6,0,none⟩) (ps.length+1) cap6))
       have HB7:=hide (HB6.out.setCell (p:=⟨QB,0,none⟩) (by have:=HLW.out;show w.heap.size≤QB;omega) (.slice (some ⟨g6,0,none⟩) (ps.length+1) cap6))
       have HW7:Hid (W3.heap.size≤(w6.setCell ⟨QB,0,none⟩ (.slice (some ⟨g6,0,none⟩) (ps.length+1) cap6)).heap.size):=by show _≤_;simpa using HW6.out
       have HP7:Hid ((ps++[((⟨yn,yo,yl,yc⟩:Nm),z)]).map (·.2)=overOne (ds.take (k+1))):=by
        show _=_
        rw [HSN.out,if_pos hz1',List.map_append,HP.out];rfl
       have HPL7:Hid ((ps++[((⟨yn,yo,yl,yc⟩:Nm),z)]).length≤k+1):=by
        have:=HPL.out
        show _≤_
        rw [List.length_append,List.length_singleton];omega
       clear x0 x1 x2 x3 k0 k1 k2 f0 f1 f2 d0 d1 d2 c0 c1 c2 HQ6 HR6 HD6 HN6 HB6 HW6 HG5 HQ5 HR5 HD5 HB5 HW5 NY HAP hbA hbs
       go_wp2
       go_roundw
       case rel=>exact⟨k+1,_,_,_,_,by omega,by go_num,HG7,HP7,HPL7,HQ7,HR7,HD7,HB7,HW7⟩
       case measure=>simp [intOf];omega
      ·have hc:cmpI z 1≤0:=by
        unfold cmpI
        repeat' split
        all_goals omega
       have HP':Hid (ps.map (·.2)=overOne (ds.take (k+1))):=by
        show _=_
        rw [HSN.out,if_neg hz1',List.append_nil];exact HP.out
       have HPL':Hid (ps.length≤k+1):=Nat.le_succ_of_le HPL.out
       generalize hcc:cmpI z 1=cc at *
       have g1:decide (0<cc)=false:=decide_eq_false (by omega)
       have g2:¬(0<cc):=by omega
       clear hcc hc b1 b2
       go_wp2
       go_roundw
       case rel=>exact⟨k+1,_,_,_,_,by omega,by go_num,HG4,HP',HPL',HQ4,HR4,HD4,HB4,HW4⟩
       case measure=>simp [intOf];omega
     ·obtain rfl:k=ds.length:=by omega
      have HVE:Hid (VecN wr (.slice dO dl dc) (overOne ds) 2006):=by
       have h:=HG3.out.vec
       rw [HP.out,List.take_length] at h
       exact h
      have HFR:Hid (∀ a l c,Value.slice dO dl dc=.slice (some a) l c→w.heap.size<a.block):=fun a l c e=>by
       have h0:=HLW0.out
       rcases HG3.out.1.2 with⟨e1,-⟩ |⟨g',cap',cur,e1,hb',-⟩
       ·rw [e1] at e;cases e
       ·rw [e1] at e
        simp only [Value.slice.injEq,Option.some.injEq] at e
        rw [← e.1]
        show w.heap.size<g'
        omega
      obtain⟨x0,x1,x2,x3⟩:=HR3.out.1
      obtain⟨y0,y1,-,-⟩:=HQ3.out.1
      have Z:=hide (HR3.out.1.write (.slice dO dl dc) (.int .i64 ((ks.length:Int)-(hs.length:Int))))
      obtain⟨z0,z1,-,-⟩:=Z.out
      have HV9:=hide (HVE.out.setTwo HFR.out x0 x1 (y:=.slice dO dl dc) (z:=(.int .i64 ((ks.length:Int)-(hs.length:Int)))) (fun x e=>by cases e) (fun x e=>by cases e))
      have HB9:=hide (zB HB3.out (C:=w.heap.size) zL (.slice dO dl dc) (.int .i64 ((ks.length:Int)-(hs.length:Int))))
      clear HG3 HP HPL HVE HFR
      go_wp2
      exact bodyPost_ret (v:=.tuple #[.agg #[.slice dO dl dc,(.int .i64 ((ks.length:Int)-(hs.length:Int)))],.int .i64 0]) (by simp [results,Tryz.results44,go_sem,z0,z1]) rfl ⟨HB9.out,.inr ⟨HINS.out,_,ds,rfl,HV9.out,HDS.out,HEND.out⟩⟩
 ·have HIT:=hide (HIN.out false ⟨fun h=>absurd h (by decide),fun h=>absurd h hin⟩)
  have HINS:=hide hin
  clear HIN hin
  go_enter Tryz.func44,Tryz.ntmps44
  go_wp2_with fail
  generalize (w.alloc (.cells #[.slice none 0 0,.int .i64 0] 77))=W0 at *
  refine HIT.out.mono ?_
  rintro e w1 ⟨rfl,hb1⟩
  have HX1:=hide (HX0.out.later hb1 HX0.out.lt)
  have HB1:=hide (HB0.out.trans (hb1.mono HB0.out.size))
  have HB2:=hide (zB HB1.out (C:=w.heap.size) zL (.slice none 0 0) (.int .i64 0))
  have Z:=hide (HX1.out.1.write (.slice none 0 0) (.int .i64 0))
  obtain⟨x0,x1,x2,x3⟩:=HX1.out.1
  obtain⟨z0,z1,-,-⟩:=Z.out
  clear hb1 HIT HX0 HB0
  go_wp2
  exact bodyPost_ret (v:=.tuple #[.agg #[.slice none 0 0,.int .i64 0],.int .i64 12]) (by simp [results,Tryz.results44,go_sem,z0,z1]) rfl ⟨HB2.out,.inl ⟨HINS.out,rfl⟩⟩
end Go.Proofs.YtdedolkgcdlmeaaGreatDoor
