import Derived.Test.YtdedolkgcdlmeaaGreatDoorDrawn
set_option maxRecDepth 100000
set_option maxHeartbeats 6400000
set_option linter.unusedSimpArgs false
namespace Go.Proofs.YtdedolkgcdlmeaaGreatDoor
open Go.RowKit Limbs Digs
def dtD:Nat→List Nat
 | 1=>[0]
 | 2=>[1]
 | 4=>[2,3]
 | 5=>[4]
 | 7=>[6]
 | 8=>[5,7]
 | 10=>[8,9]
 | _=>[]
def dtK (mb ab c:Nat)(v0 zv rv u:Value):Nat→Option Value
 | 0=>some v0
 | 1=>some (.pointer (some ⟨mb,0,none⟩))
 | 2=>some zv
 | 3=>some (.int .i64 (c:Int))
 | 4=>some (.pointer (some ⟨ab,c*2,none⟩))
 | 5=>some rv
 | 6=>some u
 | _=>none
def dtS (z D:Int)(a N C:Nat)(i:Nat)(c:Nat→Value)(W:World):Prop:=
 match i with
 | 7=>NumR W (c 7) D N
 | 8=>NumR W (c 8) (z*D) (a+N+1)
 | 9=>∃ B,c 9=.pointer (some ⟨B,0,none⟩)∧C≤B∧BoxR W B (.int .i64 0) (.slice none 0 0)
 | _=>True
theorem dtStays (z D:Int)(a N C:Nat):Stays dtD (dtS z D a N C) where
 later:=fun i c W W' hb h=>by
  unfold dtS at h ⊢
  split at h
  ·exact h.below hb zL
  ·exact h.below hb zL
  ·obtain⟨B,e,h1,h3⟩:=h
   exact⟨B,e,h1,h3.later hb h3.lt⟩
  ·trivial
 other:=fun i j c v W hne hnd h=>by
  unfold dtS at h ⊢
  split at h
  ·rw [ze _ _ (by omega)];exact h
  ·rw [ze _ _ (by omega)];exact h
  ·obtain⟨B,e,h1⟩:=h
   exact⟨B,by rw [ze _ _ (by omega)];exact e,h1⟩
  ·trivial
def dtFin (z D:Int)(N:Nat)(w:World)(c:Nat→Value)(W:World):Prop:=
 ∃(B:Nat) (r:Rm),c 9=.pointer (some ⟨B,0,none⟩)∧w.heap.size≤B∧RVar W B r (z*D) N∧Below w.heap.size w W
def dD (a:Nat):Nat→Nat
 | 0=>5
 | n+1=>a+dD a n+1+(n+1)
theorem zhH {a:Nat}(ha:a≤1000000000):∀ n,n≤8→dD a n≤5+n*1000000100:=fun n=>by
 induction n with
 | zero=>intro _;exact Nat.le_refl 5
 | succ n ih=>intro h;have:=ih (by omega);show a+dD a n+1+(n+1)≤_;omega
theorem zhG:∀ n,n≤5→dD 24 n≤1000:=fun n h=>(by decide:∀ n,n<6→dD 24 n≤1000) n (by omega)
def dPart (n:Nat)(ms:List (List Int))(c:Nat):Int:=sumN c (fun c=>sgnN c *(ent ms 0 c*det n (ent (restL ms c))))
theorem zhI (n:Nat)(ms:List (List Int)):dPart n ms (n+1)=det (n+1) (ent ms):=by
 rw [zhQ]
 refine zm fun c _=>?_
 rw [zn fun a b _ _=>zkm ms c a b]
def DetRP (w:World)(n:Nat)(ms:List (List Int))(a0:Nat)(e:Ending)(w':World):Prop:=RefPost w (det n (ent ms)) (dD a0 n) e w'
theorem zhM (w:World)(v:Value)(ms:List (List Int))(a0:Nat)(hv:MatR w v ms a0)(hm:ms.length=0):Calls Tryz.prog 17 #[v] w fun e w'=>DetRP w 0 ms a0 e w':=by
 obtain⟨ao,cap,rfl,-,-⟩:=hv
 rw [hm]
 clear hm
 have HX0:=hide (zp w (.int .i64 0) (.slice none 0 0) w.heap.size rfl)
 have HB0:=hide (zR w (.cells #[.int .i64 0,.slice none 0 0] 40))
 go_enter Tryz.func17,Tryz.ntmps17
 go_wp2_with fail
 generalize (w.alloc (.cells #[.int .i64 0,.slice none 0 0] 40))=W0 at *
 refine(z8 W0 1 (by decide) (by decide)).mono ?_
 rintro e w1 ⟨v1,rfl,hv1,hb1⟩
 obtain⟨ss,sO,sL,sC,rfl,-⟩:=hv1.form
 have HX1:=hide (HX0.out.later hb1 HX0.out.lt)
 have HR1:=hide (RVar.write (r:=⟨ss,sO,sL,sC⟩) HX1.out hv1)
 have HB1:=hide (zB (HB0.out.trans (hb1.mono HB0.out.size)) (C:=w.heap.size) zL (.int .i64 ss) (.slice sO sL sC))
 obtain⟨x0,x1,x2,x3⟩:=HX1.out.box
 obtain⟨z0,z1,-,-⟩:=HR1.out.box.box
 clear hv1 hb1 HX0 HB0
 go_wp2
 exact bodyPost_ret (v:=.agg #[.int .i64 ss,.slice sO sL sC]) (by simp [results,Tryz.results17,go_sem,z0,z1]) rfl ⟨_,rfl,HR1.out.num,HB1.out⟩
theorem zhN (n a0:Nat)(hn:n≤7)(ha5:5≤a0)(ha:a0≤1000000000)(ih:∀(w:World) (v:Value) (ms:List (List Int)),MatR w v ms a0→ms.length=n→(∀ u∈ms,u.length=n)→Calls Tryz.prog 17 #[v] w fun e w'=>DetRP w n ms a0 e w')
  (w:World) (v:Value) (ms:List (List Int)) (hv:MatR w v ms a0) (hm:ms.length=n+1) (hr:∀ u∈ms,u.length=n+1):Calls Tryz.prog 17 #[v] w fun e w'=>DetRP w (n+1) ms a0 e w':=by
 obtain⟨i0,hi,hz0,hz1,hz2⟩:=info_parts Tryz.infoRNum
 obtain⟨j0,hj,hy0,hy1,hy2⟩:=info_parts Tryz.infoRRow
 have HV:=hide hv;have HM:=hide hm;have HR:=hide hr;have HDD:=hide (zhH ha n (by omega))
 obtain⟨ao,cap,rfl,-,-⟩:=hv
 have hml:0<ms.length:=by omega
 have hml8:ms.length≤8:=by omega
 have g0:((ms.length:Int)==0)=false:=by rw [beq_eq_false_iff_ne];omega
 clear hm hr
 have HX0:=hide (zp w (.int .i64 0) (.slice none 0 0) w.heap.size rfl)
 have hB0:=zR w (.cells #[.int .i64 0,.slice none 0 0] 40)
 have HX1:=hide (zp (w.alloc (.cells #[.int .i64 0,.slice none 0 0] 40)) (.int .i64 0) (.slice none 0 0) (w.heap.size+1) (by simp))
 have hB1:=zR (w.alloc (.cells #[.int .i64 0,.slice none 0 0] 40)) (.cells #[.int .i64 0,.slice none 0 0] 40)
 have HX01:=hide (HX0.out.later hB1 HX0.out.lt)
 have HB1:=hide (hB0.trans (hB1.mono hB0.size))
 have HSUM:Hid (∃ r:Rm,RVar ((w.alloc (.cells #[.int .i64 0,.slice none 0 0] 40)).alloc (.cells #[.int .i64 0,.slice none 0 0] 40)) (w.heap.size+1) r (dPart n ms 0) (a0+dD a0 n+1+0)):=⟨⟨0,none,0,0⟩,HX1.out,NumR.nought _ _⟩
 clear hB0 hB1 HX0 HX1
 go_enter Tryz.func17,Tryz.ntmps17
 go_wp2
 generalize ((w.alloc (.cells #[.int .i64 0,.slice none 0 0] 40)).alloc (.cells #[.int .i64 0,.slice none 0 0] 40))=W0 at *
 go_loopw [4] (fun x wr=>∃ c:Nat,c≤ms.length∧x=.int .i64 c∧Hid (BoxR wr w.heap.size (.int .i64 0) (.slice none 0 0))∧Hid (∃ r:Rm,RVar wr (w.heap.size+1) r (dPart n ms c) (a0+dD a0 n+1+c))∧Hid (Below w.heap.size w wr)) (fun x _=>ms.length-(intOf x).toNat)
 case atStart=>exact⟨0,Nat.zero_le _,rfl,HX01,HSUM,HB1⟩
 case round=>
  clear HX01 HSUM HB1
  obtain⟨c,hc,rfl,HX,HSUM,HBW⟩:=hrel
  by_cases hcl:c<ms.length
  ·generalize wr=W1 at *
   go_wp2
   go_loopw [5,6] (fun out i wr=>∃(k:Nat) (qs:List (Value × List Int)),k+1≤ms.length∧i=.int .i64 ((k:Int)+1)∧Hid (GrowM wr W1.heap.size out qs a0)∧Hid (qs.map (·.2)=(restL ms c).take k)∧Hid (Below W1.heap.size W1 wr)) (fun _ i _=>ms.length-(intOf i).toNat)
   case atStart=>exact⟨0,[],hml,rfl,hide ⟨World.ownsRow_nil _ _ _ _,fun _ h=>by cases h⟩,hide (by simp),hide (Below.refl _ _)⟩
   case round=>
    obtain⟨k,qs,hk,rfl,HGM,HQ,HBE⟩:=hrel
    have HQL:Hid (qs.length=k):=by
     have:=congrArg List.length HQ.out
     rw [List.length_map,List.length_take,zcN] at this
     show qs.length=k
     omega
    by_cases hkl:k+1<ms.length
    ·obtain⟨k1,hk1⟩:∃ k1,k+1=k1:=⟨_,rfl⟩
     have gk:(k:Int)+1=(k1:Int):=by omega
     have hk1l:k1<ms.length:=by omega
     have HTT:=hide (zko ms c k hkl)
     rw [hk1] at HTT
     have HK1:=hide hk1
     clear hk1
     rw [gk]
     generalize wr=wo at *
     go_wp2
     go_loopw [7,8] (fun r i wr=>∃(q:Nat) (ps:List (Rn × Int)),q≤ms.length∧i=.int .i64 q∧Hid (GrowR wr wo.heap.size r ps a0)∧Hid (ps.map (·.2)=((ms.getD k1 []).take q).eraseIdx c)∧Hid (ps.length≤q)∧Hid (Below wo.heap.size wo wr)) (fun _ i _=>ms.length-(intOf i).toNat)
     case atStart=>exact⟨0,[],Nat.zero_le _,rfl,hide (GrowR.nil _ _ _),hide (by simp),hide zL,hide (Below.refl _ _)⟩
     case round=>
      obtain⟨q,ps,hq,rfl,HGR,HP,HPL,HBI⟩:=hrel
      have HUS:Hid ((ms.getD k1 []).length=ms.length):=by
       show _=_
       rw [zk hk1l,HR.out _ (List.getElem_mem hk1l)];exact HM.out.symm
      by_cases hql:q<ms.length
      ·by_cases hqc:q=c
       ·have HP':Hid (ps.map (·.2)=((ms.getD k1 []).take (q+1)).eraseIdx c):=by
         show _=_
         rw [HP.out,hqc,zil _ c (by have:=HUS.out;omega)]
        have gq:((q:Int) !=(c:Int))=false:=by rw [bne_eq_false_iff_eq];omega
        have gq2:(q:Int)=(c:Int):=by omega
        have HPL':Hid (ps.length≤q+1):=Nat.le_succ_of_le HPL.out
        clear HP HPL
        subst hqc
        go_wp2
        go_roundw
        case rel=>exact⟨q+1,_,by omega,by go_num,HGR,HP',HPL',HBI⟩
        case measure=>simp [intOf];omega
       ·have gq:((q:Int) !=(c:Int))=true:=by rw [bne_iff_ne];omega
        have gq2:¬((q:Int)=(c:Int)):=by omega
        obtain⟨_,_,e,-,hcc⟩:=HV.out
        simp only [Value.slice.injEq,true_and] at e
        obtain⟨rfl,rfl⟩:=e
        obtain⟨mb,rfl,hmlt,hcc⟩:=hcc hml
        obtain⟨u,cu0,hu⟩:=hcc k1 ms[k1] (by simp [hk1l])
        clear hcc
        have hbw:Below w.heap.size w wr:=HBW.out.trans ((HBE.out.trans (HBI.out.mono HBE.out.size)).mono HBW.out.size)
        have cu:=(hbw.cell (p:=⟨mb,k1,none⟩) hmlt).trans cu0
        have hu2:=hu.below hbw zL
        have eg:ms[k1]=ms.getD k1 []:=(zk hk1l).symm
        rw [eg] at hu2
        clear hu cu0
        obtain⟨ab,acap,e,la,rs,ro,rl,rc,a0',a1',na⟩:=hu2.at q (by have:=HUS.out;omega)
        subst e
        rw [HUS.out] at cu
        have NA:Hid (NumR wr (Rn.val ⟨rs,ro,rl,rc⟩) ((ms.getD k1 []).getD q 0) a0):=na
        have HP':Hid ((ps++[((⟨rs,ro,rl,rc⟩:Rn),(ms.getD k1 []).getD q 0)]).map (·.2)=((ms.getD k1 []).take (q+1)).eraseIdx c):=by
         show _=_
         rw [List.map_append,HP.out,zim _ c q (by have:=HUS.out;omega) hqc];rfl
        have HPL':Hid ((ps++[((⟨rs,ro,rl,rc⟩:Rn),(ms.getD k1 []).getD q 0)]).length≤q+1):=by
         have:=HPL.out
         show _≤_
         rw [List.length_append,List.length_singleton];omega
        have hown:=HGR.out.1
        have hbs:=HBI.out.size
        clear na hu2 hbw eg
        generalize (ms.getD k1 []).getD q 0=z at *
        go_wp2_with (at_builtin;refine wpList_append_lies _ rfl _ _ 106 rfl wo.heap.size 40 i0 (.agg #[.int .i64 0,.slice none 0 0]) 2 32 (by kernel_rfl) hi hz0 hz1 hz2 rfl (by decide) u7 ps.length (ps.flatMap rcells) rfl (hown.alloc _) ⟨wr.heap.size,0,none⟩ 1 1 [.int .i64 rs,.slice ro rl rc] rfl rfl (World.news_of_block (heap_alloc_new wr _)) (fun u hu=>by simp only [List.mem_cons,List.mem_nil_iff,or_false] at hu;rcases hu with rfl | rfl <;> rfl) (by decide) (by unfold maxLen;have:=HPL.out;omega) (by have:=HPL.out;omega) (by simp;omega) (wr.heap.size+1) (by simp) ?_)
        intro g cap' w5 hown5 hgrow5 hat5 hlt5
        have HN:=hide (zbs HGR.out NA.out hown5 hgrow5)
        have HB5:=hide (HBI.out.trans (zaa hown HBI.out.size hgrow5))
        clear hown hown5 hgrow5 hat5 hlt5 HGR NA HBI HP HPL cu a0' a1'
        go_wp2
        go_roundw
        case rel=>exact⟨q+1,_,by omega,by go_num,HN,HP',HPL',HB5⟩
        case measure=>simp [intOf];omega
      ·obtain rfl:q=ms.length:=by omega
       have HRR:Hid (RowR wr u7 ((ms.getD k1 []).eraseIdx c) a0):=by
        have:=HGR.out.row
        rw [HP.out,List.take_of_length_le (by rw [HUS.out];exact Nat.le_refl _)] at this
        exact this
       have HG2:=hide (HGM.out.later HBI.out)
       have HB2:=hide (HBE.out.trans (HBI.out.mono HBE.out.size))
       have HQ':Hid (∀ r:Value,(qs++[(r,(ms.getD k1 []).eraseIdx c)]).map (·.2)=(restL ms c).take k1):=fun r=>by
        rw [List.map_append,HQ.out,HTT.out];rfl
       obtain⟨so,sl,sc,rfl⟩:∃ so sl sc,u7=.slice so sl sc:=by
        obtain⟨so,sc,e,-⟩:=HRR.out
        exact⟨_,_,_,e⟩
       have hown:=HG2.out.1
       have hbs:=HB2.out.size
       clear HGR HP HPL
       go_wp2_with (at_builtin;refine wpList_append_lies _ rfl _ _ 43 rfl W1.heap.size 106 j0 (.slice none 0 0) 1 24 (by kernel_rfl) hj hy0 hy1 hy2 rfl (by decide) u5 qs.length (qs.map (·.1)) rfl (hown.alloc _) ⟨wr.heap.size,0,none⟩ 1 1 [.slice so sl sc] rfl rfl (World.news_of_block (heap_alloc_new wr _)) (fun u hu=>by rw [List.mem_singleton] at hu;subst hu;rfl) (by decide) (by unfold maxLen;have:=HQL.out;omega) (by have:=HQL.out;omega) (by simp;omega) (wr.heap.size+1) (by simp) ?_)
       intro g cap' w5 hown5 hgrow5 hat5 hlt5
       have HN:=hide (zcA HG2.out HRR.out hown5 hgrow5)
       have HB5:=hide (HB2.out.trans (zaa hown HB2.out.size hgrow5))
       have HQ5:=hide (HQ'.out (.slice so sl sc))
       clear hown hown5 hgrow5 hat5 hlt5 HG2 HRR HB2 HQ' HQ
       go_wp2
       go_roundw
       case rel=>exact⟨k1,_,by omega,by go_num,HN,HQ5,HB5⟩
       case measure=>(have:=HK1.out;simp [intOf];omega)
    ·have HREST:Hid (MatR wr u5 (restL ms c) a0):=by
      have:=HGM.out.mat
      rw [HQ.out,List.take_of_length_le (by rw [zcN];omega)] at this
      exact this
     have gk:¬((k:Int)+1<(ms.length:Int)):=by omega
     have HRL:Hid ((restL ms c).length=n):=by
      show _=_
      rw [zcN,HM.out];omega
     have HRR:=hide (zkn (ms:=ms) (c:=c) (n:=n) (by have:=HM.out;omega) HR.out)
     have HBX:=hide (HBW.out.trans (HBE.out.mono HBW.out.size))
     obtain⟨_,_,e,-,hcc⟩:=HV.out
     simp only [Value.slice.injEq,true_and] at e
     obtain⟨rfl,rfl⟩:=e
     obtain⟨mb,rfl,hmlt,hcc⟩:=hcc hml
     obtain⟨u,cu0,hu⟩:=hcc 0 ms[0] (by simp [hml])
     clear hcc
     have cu:=(HBX.out.cell (p:=⟨mb,0,none⟩) hmlt).trans cu0
     have lm:mb<wr.heap.size:=zT hmlt HBX.out.size
     have hu2:=hu.below HBX.out zL
     have HEN:Hid ((ms[0]).getD c 0=ent ms 0 c):=by show _=_;unfold ent;rw [zk hml]
     have HUS:Hid ((ms[0]).length=ms.length):=by
      show _=_
      rw [HR.out _ (List.getElem_mem hml)];exact HM.out.symm
     clear hu cu0
     generalize ms[0]=zs at *
     have hcz:c<zs.length:=by have:=HUS.out;omega
     obtain⟨ab,acap,e,la,rs,ro,rl,rc,a0',a1',na⟩:=hu2.at c hcz
     subst e
     rw [HEN.out] at na
     obtain⟨z,hz⟩:∃ z,ent ms 0 c=z:=⟨_,rfl⟩
     rw [hz] at na
     have HZ:=hide hz
     have NA:=hide na
     have HXR:=hide (HX.out.later HBE.out HX.out.lt)
     obtain⟨⟨ss,sO,sL,sC⟩,hsum⟩:=HSUM.out
     have HSR:=hide (hsum.later HBE.out)
     clear na hz hu2 hsum HGM HQ HQL HBE HX HSUM HBW
     go_wp2_with fail
     refine zab (by kernel_rfl) (by kernel_rfl) (fun L a' w'=>∃ c1:Nat→Value,a'=(⟨#[.slice (some ⟨mb,0,none⟩) ms.length cap,undef,.pointer (some ⟨w.heap.size,0,none⟩),.pointer (some ⟨w.heap.size+1,0,none⟩),.int .i64 (c:Int),u5,.int .i64 ((k:Int)+1),u7,u8,c1 9,.slice (some ⟨mb,0,none⟩) ms.length cap,.int .i64 (ms.length:Int),.bool false,undef,.agg #[.int .i64 0,.slice none 0 0],.int .i64 (c:Int),.slice (some ⟨mb,0,none⟩) ms.length cap,.int .i64 (ms.length:Int),.bool true,u19,u20,.int .i64 ((k:Int)+1),.slice (some ⟨mb,0,none⟩) ms.length cap,.int .i64 (ms.length:Int),.bool false,u25,u26,u27,u28,u29,u30,u31,u32,u33,u34,u35,u36,u37,u38,u39,u40,u41,u42,u43,u44,u45,u46,u47,u48,u49,c1 0,c1 1,c1 2,c1 3,c1 4,c1 5,c1 6,c1 7,c1 8,u59,u60,u61,u62,u63,u64,u65,u66,undef],[]⟩:Act)∧FSx dtD (dtK mb ab c (.slice (some ⟨mb,0,none⟩) ms.length cap) (.slice (some ⟨ab,0,none⟩) zs.length acap) (.agg #[.int .i64 rs,.slice ro rl rc]) u5) (dtS z (det n (ent (restL ms c))) a0 (dD a0 n) wr.heap.size) (dtFin z (det n (ent (restL ms c))) (a0+dD a0 n+1) wr) (wr) 10 L c1 w') ⟨fun i=>List.getD [u50,u51,u52,u53,u54,u55,u56,u57,u58,u9,undef] i undef,rfl,FSx.start _ _ _ _⟩ ?_ ?_
     ·rintro L a' w' i o ⟨c1,rfl,R0⟩ ho hn hdep K hK
      have hi:i<11:=(Array.getElem?_eq_some_iff.1 ho).1
      obtain⟨hm,R⟩:=R0.pre (by omega) hn
      clear R0
      rcases(by omega:i=0∨i=1∨i=2∨i=3∨i=4∨i=5∨i=6∨i=7∨i=8∨i=9∨i=10) with rfl | rfl | rfl | rfl | rfl | rfl | rfl | rfl | rfl | rfl | rfl
      ·obtain rfl:=zI ho
       have R':=R.made (dtStays z (det n (ent (restL ms c))) a0 (dD a0 n) _) hn (fun j hj=>absurd hj (by simp [dtD])) (Below.refl _ _) (v:=(.slice (some ⟨mb,0,none⟩) ms.length cap)) (fun u h=>zI h) (by simp only [dtS])
       clear R
       go_simp
       exact hK.out _ _ ⟨_,by simp [upd],R'.next (by decide) hm⟩
      ·obtain rfl:=zI ho
       have e0:c1 0=(.slice (some ⟨mb,0,none⟩) ms.length cap):=R.plain 0 _ (hdep ⟨0,.data⟩ (by simp) rfl) rfl
       have R':=R.made (dtStays z (det n (ent (restL ms c))) a0 (dD a0 n) _) hn (fun j hj=>by simp [dtD] at hj;subst hj;exact hdep ⟨_,.data⟩ (by simp) rfl) (Below.refl _ _) (v:=(.pointer (some ⟨mb,0,none⟩))) (fun u h=>zI h) (by simp only [dtS])
       clear R
       rw [e0]
       go_simp
       exact hK.out _ _ ⟨_,by simp [upd,e0],R'.next (by decide) hm⟩
      ·obtain rfl:=zI ho
       have e1:c1 1=(.pointer (some ⟨mb,0,none⟩)):=R.plain 1 _ (hdep ⟨1,.data⟩ (by simp) rfl) rfl
       have q0:=(R.below.cell (p:=⟨mb,0,none⟩) lm).trans cu
       have R':=R.made (dtStays z (det n (ent (restL ms c))) a0 (dD a0 n) _) hn (fun j hj=>by simp [dtD] at hj;subst hj;exact hdep ⟨_,.data⟩ (by simp) rfl) (Below.refl _ _) (v:=(.slice (some ⟨ab,0,none⟩) zs.length acap)) (fun u h=>zI h) (by simp only [dtS])
       clear R
       rw [e1]
       go_simp
       exact hK.out _ _ ⟨_,by simp [upd,e1],R'.next (by decide) hm⟩
      ·obtain rfl:=zI ho
       have R':=R.made (dtStays z (det n (ent (restL ms c))) a0 (dD a0 n) _) hn (fun j hj=>absurd hj (by simp [dtD])) (Below.refl _ _) (v:=(.int .i64 (c:Int))) (fun u h=>zI h) (by simp only [dtS])
       clear R
       go_simp
       exact hK.out _ _ ⟨_,by simp [upd],R'.next (by decide) hm⟩
      ·obtain rfl:=zI ho
       have e2:c1 2=(.slice (some ⟨ab,0,none⟩) zs.length acap):=R.plain 2 _ (hdep ⟨2,.data⟩ (by simp) rfl) rfl
       have e3:c1 3=(.int .i64 (c:Int)):=R.plain 3 _ (hdep ⟨3,.data⟩ (by simp) rfl) rfl
       have R':=R.made (dtStays z (det n (ent (restL ms c))) a0 (dD a0 n) _) hn (fun j hj=>by simp [dtD] at hj;rcases hj with rfl | rfl <;> exact hdep ⟨_,.data⟩ (by simp) rfl) (Below.refl _ _) (v:=(.pointer (some ⟨ab,c*2,none⟩))) (fun u h=>zI h) (by simp only [dtS])
       clear R
       rw [e2,e3]
       go_simp
       exact hK.out _ _ ⟨_,by simp [upd,e2,e3],R'.next (by decide) hm⟩
      ·obtain rfl:=zI ho
       have e4:c1 4=(.pointer (some ⟨ab,c*2,none⟩)):=R.plain 4 _ (hdep ⟨4,.data⟩ (by simp) rfl) rfl
       have q0:=(R.below.cell (p:=⟨ab,c*2,none⟩) la).trans a0'
       have q1:=(R.below.cell (p:=⟨ab,c*2+1,none⟩) la).trans a1'
       have R':=R.made (dtStays z (det n (ent (restL ms c))) a0 (dD a0 n) _) hn (fun j hj=>by simp [dtD] at hj;subst hj;exact hdep ⟨_,.data⟩ (by simp) rfl) (Below.refl _ _) (v:=(.agg #[.int .i64 rs,.slice ro rl rc])) (fun u h=>zI h) (by simp only [dtS])
       clear R
       rw [e4]
       go_simp
       exact hK.out _ _ ⟨_,by simp [upd,e4],R'.next (by decide) hm⟩
      ·obtain rfl:=zI ho
       have R':=R.made (dtStays z (det n (ent (restL ms c))) a0 (dD a0 n) _) hn (fun j hj=>absurd hj (by simp [dtD])) (Below.refl _ _) (v:=(u5)) (fun u h=>zI h) (by simp only [dtS])
       clear R
       go_simp
       exact hK.out _ _ ⟨_,by simp [upd],R'.next (by decide) hm⟩
      ·obtain rfl:=zI ho
       have e6:c1 6=(u5):=R.plain 6 _ (hdep ⟨6,.data⟩ (by simp) rfl) rfl
       rw [e6]
       go_simp
       refine(ih w' _ (restL ms c) (by exact HREST.out.below R.below zL) HRL.out HRR.out).mono ?_
       rintro e w2 ⟨v7,rfl,m7,hb⟩
       have R':=R.made (dtStays z (det n (ent (restL ms c))) a0 (dD a0 n) _) hn (fun j hj=>by simp [dtD] at hj;subst hj;exact hdep ⟨_,.data⟩ (by simp) rfl) hb (v:=v7) (fun u h=>by cases h) (by show dtS z (det n (ent (restL ms c))) a0 (dD a0 n) wr.heap.size 7 _ _;simp only [dtS,zd];exact m7)
       clear R m7 hb
       go_wp2_with fail
       exact hK.out _ _ ⟨_,by simp [upd,e6],R'.next (by decide) hm⟩
      ·obtain rfl:=zI ho
       have e5:c1 5=(.agg #[.int .i64 rs,.slice ro rl rc]):=R.plain 5 _ (hdep ⟨5,.data⟩ (by simp) rfl) rfl
       have m7:NumR w' (c1 7) (det n (ent (restL ms c))) (dD a0 n):=R.spec 7 (hdep ⟨7,.data⟩ (by simp) rfl)
       rw [e5]
       go_simp
       refine(zaI w' _ _ z _ _ _ (by exact NA.out.below R.below zL) m7 (by omega) (by have:=HDD.out;omega)).mono ?_
       clear m7
       rintro e w2 ⟨v8,rfl,m8,hb⟩
       have R':=R.made (dtStays z (det n (ent (restL ms c))) a0 (dD a0 n) _) hn (fun j hj=>by simp [dtD] at hj;rcases hj with rfl | rfl <;> exact hdep ⟨_,.data⟩ (by simp) rfl) hb (v:=v8) (fun u h=>by cases h) (by show dtS z (det n (ent (restL ms c))) a0 (dD a0 n) wr.heap.size 8 _ _;simp only [dtS,zd];exact m8)
       clear R m8 hb
       go_wp2_with fail
       exact hK.out _ _ ⟨_,by simp [upd,e5],R'.next (by decide) hm⟩
      ·obtain rfl:=zI ho
       have hb:=(Below.refl w'.heap.size w').alloc zL (.cells #[.int .i64 0,.slice none 0 0] 40)
       have m7:=zp w' (.int .i64 0) (.slice none 0 0) _ rfl
       have R':=R.made (dtStays z (det n (ent (restL ms c))) a0 (dD a0 n) _) hn (fun j hj=>absurd hj (by simp [dtD])) hb (v:=.pointer (some ⟨w'.heap.size,0,none⟩)) (fun u h=>by cases h) (by show dtS z (det n (ent (restL ms c))) a0 (dD a0 n) wr.heap.size 9 _ _;simp only [dtS];rw [zd];exact⟨_,rfl,R.below.size,m7⟩)
       clear R m7 hb
       go_simp
       exact hK.out _ _ ⟨_,by simp [upd],R'.next (by decide) hm⟩
      ·obtain rfl:=zI ho
       have t8:=hdep ⟨8,.data⟩ (by simp) rfl
       have t9:=hdep ⟨9,.data⟩ (by simp) rfl
       have t5:=R.closed 8 t8 5 (by simp [dtD])
       have t7:=R.closed 8 t8 7 (by simp [dtD])
       have t6:=R.closed 7 t7 6 (by simp [dtD])
       have t4:=R.closed 5 t5 4 (by simp [dtD])
       have t2:=R.closed 4 t4 2 (by simp [dtD])
       have t3:=R.closed 4 t4 3 (by simp [dtD])
       have t1:=R.closed 2 t2 1 (by simp [dtD])
       have t0:=R.closed 1 t1 0 (by simp [dtD])
       have hall:∀ j,j<10→L.getD j false=true:=fun j hj=>by
        rcases(by omega:j=0∨j=1∨j=2∨j=3∨j=4∨j=5∨j=6∨j=7∨j=8∨j=9) with rfl | rfl | rfl | rfl | rfl | rfl | rfl | rfl | rfl | rfl <;> assumption
       have m8:NumR w' (c1 8) (z*det n (ent (restL ms c))) (a0+dD a0 n+1):=R.spec 8 t8
       obtain⟨B,e9,hCB,hbx⟩:∃ B,c1 9=.pointer (some ⟨B,0,none⟩)∧wr.heap.size≤B∧BoxR w' B (.int .i64 0) (.slice none 0 0):=R.spec 9 t9
       have hbl:=R.below
       clear t0 t1 t2 t3 t4 t5 t6 t7 t8 t9
       obtain⟨ts,tO,tL,tC,e8,-⟩:=m8.form
       rw [e8] at m8
       have hfin:dtFin z (det n (ent (restL ms c))) (a0+dD a0 n+1) wr (upd c1 10 undef) ((w'.setCell ⟨B,0,none⟩ (.int .i64 ts)).setCell ⟨B,1,none⟩ (.slice tO tL tC)):=⟨B,⟨ts,tO,tL,tC⟩,by rw [ze _ _ (by decide)];exact e9,hCB,RVar.write (r:=⟨ts,tO,tL,tC⟩) hbx m8,zB hbl hCB _ _⟩
       have R':=FSx.last (deps:=dtD) (kv:=(dtK mb ab c (.slice (some ⟨mb,0,none⟩) ms.length cap) (.slice (some ⟨ab,0,none⟩) zs.length acap) (.agg #[.int .i64 rs,.slice ro rl rc]) u5)) (Sp:=dtS z (det n (ent (restL ms c))) a0 (dD a0 n) wr.heap.size) (w:=wr) hall hn hfin
       obtain⟨z0,z1,z2,z3⟩:=hbx.box
       clear R hfin hbl m8 hall
       rw [e8,e9]
       go_simp
       exact hK.out _ _ ⟨_,by simp [upd,e8,e9],R'⟩
     ·rintro L a' W6 ⟨cc,rfl,R⟩ hall
      obtain⟨DB,⟨ts,tO,tL,tC⟩,e9,hDB,hd6,hb6⟩:=FSx.fin R (hall 10 (by decide))
      have HD6:=hide hd6
      have HNE:Hid (w.heap.size+1≠DB∧w.heap.size≠DB∧w.heap.size≤DB):=by have h2:=HSR.out.box.lt;have h3:=HBX.out.size;show _∧_;omega
      have HS6:=hide (HSR.out.later hb6)
      have HX6:=hide (HXR.out.later hb6 HXR.out.lt)
      have HB6:=hide (HBX.out.trans (hb6.mono HBX.out.size))
      clear R hall hd6 hb6 hDB cu a0' a1' NA HREST HRR HRL HXR HSR HBX
      dsimp only at *
      rw [e9]
      clear e9
      by_cases hodd:c%2=1
      ·have go:(((c:Int).tmod 2)==1)=true:=by rw [beq_iff_eq,Int.tmod_eq_emod_of_nonneg (by omega)];omega
       have go2:(c:Int).tmod 2=1:=by rw [Int.tmod_eq_emod_of_nonneg (by omega)];omega
       have HSG:Hid (sgnN c=-1):=by show _=_;unfold sgnN;rw [if_neg (by omega)]
       obtain⟨d0,d1,d2,d3⟩:=HD6.out.box.box
       dsimp only at d0 d1
       go_wp2_with fail
       refine(zaC W6 _ _ _ (by exact HD6.out.num)).mono ?_
       rintro e w7 ⟨v7,rfl,hv7,hb7⟩
       obtain⟨ps,pO,pL,pC,rfl,-⟩:=hv7.form
       have HDa:=hide (HD6.out.later hb7)
       have HD7:Hid (RVar ((w7.setCell ⟨DB,0,none⟩ (.int .i64 ps)).setCell ⟨DB,1,none⟩ (.slice pO pL pC)) DB ⟨ps,pO,pL,pC⟩ (-(z*det n (ent (restL ms c)))) (a0+dD a0 n+1)):=RVar.write (r:=⟨ps,pO,pL,pC⟩) HDa.out.box hv7
       have hne:w.heap.size+1≠DB:=HNE.out.1
       have HS7:=hide ((HS6.out.later hb7).other HDa.out.box HNE.out.1 (.int .i64 ps) (.slice pO pL pC))
       have HX7:=hide ((HX6.out.later hb7 HX6.out.lt).others HNE.out.2.1 (.int .i64 ps) (.slice pO pL pC))
       have HB7:=hide (zB (HB6.out.trans (hb7.mono HB6.out.size)) (C:=DB) HNE.out.2.2 (.int .i64 ps) (.slice pO pL pC))
       clear d0 d1 d2 d3 hne
       obtain⟨y0,y1,y2,y3⟩:=HDa.out.box.box
       dsimp only at y0 y1
       clear hv7 hb7 HD6 HS6 HX6 HB6 HDa
       have HPT:Hid (dPart n ms (c+1)=dPart n ms c+-(z*det n (ent (restL ms c)))):=by
        show dPart n ms c+sgnN c *(ent ms 0 c*_)=_
        rw [HZ.out,HSG.out]
        first | rw [Int.one_mul] | rw [Int.neg_mul,Int.one_mul]
       obtain⟨b0,b1,b2,b3⟩:=HS7.out.box.box
       obtain⟨d0,d1,d2,d3⟩:=HD7.out.box.box
       dsimp only at b0 b1 d0 d1
       go_wp2_with fail
       clear y0 y1 y2 y3
       generalize ((w7.setCell ⟨DB,0,none⟩ (.int .i64 ps)).setCell ⟨DB,1,none⟩ (.slice pO pL pC))=W7 at *
       refine(zbB W7 _ _ _ _ (a0+dD a0 n+1+c) (by exact HS7.out.num) (by exact HD7.out.num.mono (by omega)) (by have:=HDD.out;omega)).mono ?_
       rintro e w9 ⟨v9,rfl,hv9,hb9⟩
       rw [← HPT.out] at hv9
       obtain⟨qs,qO,qL,qC,rfl,-⟩:=hv9.form
       have HS9:=hide (HS7.out.later hb9);have HX9:=hide (HX7.out.later hb9 HX7.out.lt);have HB9:=hide (HB7.out.trans (hb9.mono HB7.out.size))
       have HSUM':Hid (∃ r:Rm,RVar ((w9.setCell ⟨w.heap.size+1,0,none⟩ (.int .i64 qs)).setCell ⟨w.heap.size+1,1,none⟩ (.slice qO qL qC)) (w.heap.size+1) r (dPart n ms (c+1)) (a0+dD a0 n+1+(c+1))):=⟨⟨qs,qO,qL,qC⟩,RVar.write (r:=⟨qs,qO,qL,qC⟩) HS9.out.box hv9⟩
       have HX':=hide (HX9.out.others (C:=w.heap.size+1) (by omega) (.int .i64 qs) (.slice qO qL qC))
       have HB':=hide (zB HB9.out (C:=w.heap.size+1) (by omega) (.int .i64 qs) (.slice qO qL qC))
       clear b0 b1 b2 b3 d0 d1 d2 d3
       obtain⟨b0,b1,b2,b3⟩:=HS9.out.box.box
       dsimp only at b0 b1
       clear hv9 hb9 HS7 HD7 HX7 HB7 HS9 HX9 HB9 HPT
       go_wp2
       go_roundw
       case rel=>exact⟨c+1,by omega,by go_num,HX',HSUM',HB'⟩
       case measure=>simp [intOf];omega
      ·have go:(((c:Int).tmod 2)==1)=false:=by rw [beq_eq_false_iff_ne,Int.tmod_eq_emod_of_nonneg (by omega)];omega
       have go2:¬((c:Int).tmod 2=1):=by rw [Int.tmod_eq_emod_of_nonneg (by omega)];omega
       have HSG:Hid (sgnN c=1):=by show _=_;unfold sgnN;rw [if_pos (by omega)]
       have HS7:=HS6;have HD7:=HD6;have HX7:=HX6;have HB7:=HB6
       clear HS6 HD6 HX6 HB6
       have HPT:Hid (dPart n ms (c+1)=dPart n ms c+z*det n (ent (restL ms c))):=by
        show dPart n ms c+sgnN c *(ent ms 0 c*_)=_
        rw [HZ.out,HSG.out]
        first | rw [Int.one_mul] | rw [Int.neg_mul,Int.one_mul]
       obtain⟨b0,b1,b2,b3⟩:=HS7.out.box.box
       obtain⟨d0,d1,d2,d3⟩:=HD7.out.box.box
       dsimp only at b0 b1 d0 d1
       go_wp2_with fail
       refine(zbB W6 _ _ _ _ (a0+dD a0 n+1+c) (by exact HS7.out.num) (by exact HD7.out.num.mono (by omega)) (by have:=HDD.out;omega)).mono ?_
       rintro e w9 ⟨v9,rfl,hv9,hb9⟩
       rw [← HPT.out] at hv9
       obtain⟨qs,qO,qL,qC,rfl,-⟩:=hv9.form
       have HS9:=hide (HS7.out.later hb9);have HX9:=hide (HX7.out.later hb9 HX7.out.lt);have HB9:=hide (HB7.out.trans (hb9.mono HB7.out.size))
       have HSUM':Hid (∃ r:Rm,RVar ((w9.setCell ⟨w.heap.size+1,0,none⟩ (.int .i64 qs)).setCell ⟨w.heap.size+1,1,none⟩ (.slice qO qL qC)) (w.heap.size+1) r (dPart n ms (c+1)) (a0+dD a0 n+1+(c+1))):=⟨⟨qs,qO,qL,qC⟩,RVar.write (r:=⟨qs,qO,qL,qC⟩) HS9.out.box hv9⟩
       have HX':=hide (HX9.out.others (C:=w.heap.size+1) (by omega) (.int .i64 qs) (.slice qO qL qC))
       have HB':=hide (zB HB9.out (C:=w.heap.size+1) (by omega) (.int .i64 qs) (.slice qO qL qC))
       clear b0 b1 b2 b3 d0 d1 d2 d3
       obtain⟨b0,b1,b2,b3⟩:=HS9.out.box.box
       dsimp only at b0 b1
       clear hv9 hb9 HS7 HD7 HX7 HB7 HS9 HX9 HB9 HPT
       go_wp2
       go_roundw
       case rel=>exact⟨c+1,by omega,by go_num,HX',HSUM',HB'⟩
       case measure=>simp [intOf];omega
  ·obtain rfl:c=ms.length:=by omega
   obtain⟨⟨ss,sO,sL,sC⟩,hsum⟩:=HSUM.out
   obtain⟨b0,b1,b2,b3⟩:=hsum.box.box
   dsimp only at b0 b1
   obtain⟨x0,x1,x2,x3⟩:=HX.out.box
   have HR1:=hide (RVar.write (r:=⟨ss,sO,sL,sC⟩) HX.out hsum.num)
   have HB1:=hide (zB HBW.out (C:=w.heap.size) zL (.int .i64 ss) (.slice sO sL sC))
   obtain⟨z0,z1,-,-⟩:=HR1.out.box.box
   dsimp only at z0 z1
   clear hsum
   go_wp2
   exact bodyPost_ret (v:=.agg #[.int .i64 ss,.slice sO sL sC]) (by simp [results,Tryz.results17,go_sem,z0,z1]) rfl ⟨_,rfl,by
    have h:=HR1.out.num
    rw [HM.out,zhI] at h
    exact h,HB1.out⟩
theorem zhL (a0:Nat)(ha5:5≤a0)(ha:a0≤1000000000):∀(n:Nat),n≤8→∀(w:World) (v:Value) (ms:List (List Int)),MatR w v ms a0→ms.length=n→(∀ u∈ms,u.length=n)→Calls Tryz.prog 17 #[v] w fun e w'=>DetRP w n ms a0 e w':=fun n=>by
 induction n with
 | zero=>exact fun _ w v ms hv hm _=>zhM w v ms a0 hv hm
 | succ n ih=>exact fun hn w v ms hv hm hr=>zhN n a0 (by omega) ha5 ha (ih (by omega)) w v ms hv hm hr
end Go.Proofs.YtdedolkgcdlmeaaGreatDoor
