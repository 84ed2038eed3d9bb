import Derived.Test.YtdedolkgcdlmeaaGreatDoorHermRB
set_option maxRecDepth 100000
set_option maxHeartbeats 6400000
set_option linter.unusedSimpArgs false
namespace Go.Proofs.YtdedolkgcdlmeaaGreatDoor
open Go.RowKit Limbs Digs
theorem ziR (w:World)(v:Value)(ms:List (List Int))(n a0:Nat)(hv:MatR w v ms a0)(hr:∀ us∈ms,us.length=n)(hn1:1≤n)(hn:n≤20)(hm:ms.length≤100)(hB:dT a0 (ms.length+min ms.length n+1)≤1000000000):
  Calls Tryz.prog 33 #[v,.int .i64 (n:Int)] w (fun e w'=>∃ u hs p,e=.returned u∧MatR w' u hs (eB (dT a0 (ms.length+min ms.length n)+7) n)∧hs.length≤n∧FormL n hs p∧Alikes n (InL hs) (InL ms)∧Below w.heap.size w w'):=by
 have HV:=hide hv;have HR:=hide hr;have HDB:=hide hB
 obtain⟨ao,cap,rfl,-,-⟩:=hv
 clear hr hB
 have hmk:=zkz n (by omega)
 have HO0:Hid (OutR w (w.alloc (.cells (madeCells #[.slice none 0 0] n) 106)) w.heap.size n a0 0 (fun _=>none) (InL (ms.take 0))):=hide
  ⟨StairR.made w n _,⟨fun i r e=>(by cases e),fun i r e=>(by cases e),fun i r e=>(by cases e)⟩,fun i r e=>(by cases e),.of (fun v hv _=>by obtain⟨i,e⟩:=hv;cases e) (fun v hv _=>by rw [List.take_zero] at hv;cases hv),Nat.le_of_eq (zhz n)⟩
 go_enter Tryz.func33,Tryz.ntmps33
 go_wp2
 clear hmk
 go_loopw [6] (fun i wr=>∃ k:Nat,k≤ms.length∧i=.int .i64 k∧∃ R,Hid (OutR w wr w.heap.size n a0 k R (InL (ms.take k)))) (fun i _=>ms.length-(intOf i).toNat)
 case atStart=>exact⟨0,Nat.zero_le _,rfl,_,HO0⟩
 case round=>
  clear HO0
  obtain⟨k,hk,rfl,rows,HO⟩:=hrel
  by_cases hkl:k<ms.length
  ·obtain⟨_,_,e,-,hc⟩:=HV.out
   simp only [Value.slice.injEq,true_and] at e
   obtain⟨rfl,rfl⟩:=e
   obtain⟨mb,rfl,hmlt,hc⟩:=hc (by omega)
   obtain⟨u,cu0,hu⟩:=hc k ms[k] (by simp [hkl])
   clear hc
   have cu:=(HO.out.st.below.cell (p:=⟨mb,k,none⟩) hmlt).trans cu0
   have hul:=HR.out _ (List.getElem_mem hkl)
   have HTK:Hid (ms.take (k+1)=ms.take k++[ms[k]]):=List.take_succ_eq_append_getElem hkl
   have HU:=hide (hu.below HO.out.st.below zL)
   obtain⟨ub,ucap,rfl⟩:=hu.form (by omega)
   have hmr:mb<wr.heap.size:=zT hmlt HO.out.st.below.size
   have HI0:Hid (InR w wr w.heap.size n a0 k 0 rows rows ms[k] ms[k] (.slice (some ⟨ub,0,none⟩) ms[k].length ucap)):=hide
    ⟨HO.out.st.mono fun i _=>by rw [if_neg (Nat.not_lt_zero i)];exact Nat.le_refl _,HO.out.ech,HO.out.nz,fun j hj=>absurd hj (Nat.not_lt_zero j),HU.out.mono (zan (Nat.zero_le _)),hul,fun _=>Iff.rfl,HO.out.cnt⟩
   have HGO:=hide HO.out.gen
   clear hu cu0 hul HU HO
   generalize ms[k]=us at *
   have HNEXT:Hid (∀ R w',OutR w w' w.heap.size n a0 (k+1) R (RowsOr rows us)→OutR w w' w.heap.size n a0 (k+1) R (InL (ms.take (k+1)))):=fun R w' h=>
    ⟨h.st,h.ech,h.nz,by rw [HTK.out];exact h.gen.trans (zeh HGO.out),h.cnt⟩
   clear HTK HGO
   go_wp2
   go_loopw [7,8] (fun v c wr=>∃ c':Nat,c'≤n∧c=.int .i64 c'∧∃ R zs,Hid (InR w wr w.heap.size n a0 k c' rows R us zs v)) (fun _ c _=>n-(intOf c).toNat)
   case atStart=>exact⟨0,Nat.zero_le _,rfl,_,_,HI0⟩
   case round=>
    clear HI0 cu hmr
    obtain⟨cc,hc,rfl,R,zs,HI⟩:=hrel
    by_cases hcl:cc<n
    ·obtain⟨vb,vcap,rfl⟩:=HI.out.vec.form (by have:=HI.out.len;omega)
     have hzl:cc<zs.length:=by have:=HI.out.len;omega
     obtain⟨_,_,e,lv,sv,vo,vl,vc,z0,z1,nz⟩:=HI.out.vec.at cc hzl
     simp only [Value.slice.injEq,Option.some.injEq,Addr.mk.injEq,and_true,true_and] at e
     obtain⟨rfl,rfl⟩:=e
     have hsv:=nz.sgn0.1
     by_cases hz0:sv=0
     ·subst hz0
      have HN:=hide (HI.out.next (hsv.1 rfl))
      clear HI nz
      go_wp2
      go_roundw
      case rel=>exact⟨cc+1,by omega,by go_num,_,_,HN⟩
      case measure=>simp [intOf];omega
     ·have hs0:(sv==0)=false:=by rw [beq_eq_false_iff_ne];exact hz0
      have hq0:zs.getD cc 0≠0:=fun h=>hz0 (hsv.2 h)
      clear hsv
      cases hRc:R cc with
      | none=>
       have hlt:=HI.out.st.lt
       have c0:=HI.out.st.nil cc hcl hRc
       have hbo:=zgh wr
       have hfz:=HI.out.st.thaw cc
       have HN:=hide (HNEXT.out _ _ (HI.out.lay hcl hRc hq0))
       clear HI nz hRc hq0 hz0
       go_wp2
       go_roundw
       case rel=>exact⟨k+1,by omega,by go_num,_,HN⟩
       case measure=>simp [intOf];omega
      | some r=>
       have hz0':=hz0
       clear hz0
       obtain⟨pb,pcap,pcell,hp⟩:=HI.out.st.row cc hcl r hRc
       rw [if_neg (Nat.lt_irrefl _)] at hp
       have hrl:r.length=n:=HI.out.ech.len cc r hRc
       have HPR:=hide hp
       obtain⟨_,_,e,lp,sp,po,pl,pc,p0,p1,np⟩:=hp.at cc (by omega)
       simp only [Value.slice.injEq,Option.some.injEq,Addr.mk.injEq,and_true,true_and] at e
       obtain⟨rfl,rfl⟩:=e
       have hp0:r.getD cc 0≠0:=HI.out.nz cc r hRc
       have hbo:=zgk wr ⟨pb,0,none⟩ r.length pcap
       have HRL:=hide hrl;have HRC:=hide hRc
       have hlt:=HI.out.st.lt
       have NP:=hide np;have NV:=hide nz
       have HVR:=hide HI.out.vec
       have HZL:=hide HI.out.len
       have hNB:dT a0 (k+cn R cc)≤1000000000:=Nat.le_trans (zan (by have:=zez R cc;have:=zdd R (Nat.le_of_lt hcl);have:=HI.out.cnt;omega)) HDB.out
       have HDS:=hide (show dT a0 (k+cn R cc+1)=2*dT a0 (k+cn R cc)+8 from rfl)
       generalize hNN:dT a0 (k+cn R cc)=N at *
       have HNN:=hide hNN
       clear np nz hp hrl hRc hNN HDB
       generalize hpp:r.getD cc 0=p at *
       generalize hqq:zs.getD cc 0=q at *
       have HPP:=hide hpp;have HQQ:=hide hqq
       clear hpp hqq
       have hrl2:cc<r.length:=by have:=HRL.out;omega
       have hst:=GcdGotR.moved (N+1) p q
       go_wp2_with fail
       refine zab (by kernel_rfl) (by kernel_rfl) (fun L a' w'=>∃(c:Nat→Value) (G:Nat→Nat),a'=(⟨#[.slice (some ⟨mb,0,none⟩) ms.length cap,.int .i64 (n:Int),undef,undef,.slice none 0 0,.slice (some ⟨w.heap.size,0,none⟩) n n,.int .i64 (k:Int),.slice (some ⟨vb,0,none⟩) zs.length vcap,.int .i64 (cc:Int),.slice (some ⟨pb,0,none⟩) r.length pcap,c 13,c 14,c 15,u13,u14,u15,u16,undef,undef,undef,undef,undef,undef,.int .i64 (n:Int),.slice (some ⟨w.heap.size,0,none⟩) n n,.int .i64 (k:Int),.slice (some ⟨mb,0,none⟩) ms.length cap,.int .i64 (ms.length:Int),.bool true,u29,u30,.slice (some ⟨mb,0,none⟩) ms.length cap,.int .i64 (k:Int),.pointer (some ⟨mb,k,none⟩),.slice (some ⟨ub,0,none⟩) us.length ucap,.int .i64 (cc:Int),.int .i64 (n:Int),.bool true,u38,u39,.slice (some ⟨vb,0,none⟩) zs.length vcap,.int .i64 (cc:Int),.pointer (some ⟨vb,cc*2,none⟩),.pointer (some ⟨vb,cc*2,none⟩),.int .i64 sv,.bool false,.slice (some ⟨w.heap.size,0,none⟩) n n,.int .i64 (cc:Int),.pointer (some ⟨w.heap.size,cc,none⟩),.slice (some ⟨pb,0,none⟩) r.length pcap,.bool false,u51,u52,u53,u54,.slice (some ⟨w.heap.size,0,none⟩) n n,.int .i64 (cc:Int),.pointer (some ⟨w.heap.size,cc,none⟩),.slice (some ⟨pb,0,none⟩) r.length pcap,c 9,c 0,c 1,c 2,c 3,c 4,c 5,c 6,c 7,c 8,c 10,c 11,c 12,u72,u73,u74,u75,u76,u77,u78,u79,u80,u81,u82,u83,u84,u85,u86,u87,u88,u89,u90,u91,u92,u93,u94,u95,u96,u97,u98,u99,u100,u101,u102,u103,undef,undef,undef,undef,undef,undef,undef,undef,undef,undef,undef,undef,undef,undef,undef,undef,undef,undef,undef,undef,undef,undef,undef,undef,undef,undef,undef,undef,undef,undef,undef,undef,undef,undef,undef,undef,undef,undef,undef,undef,undef,undef,undef,undef,undef,undef,undef,undef,undef,undef,undef,undef,undef,undef,undef,undef,undef,undef,undef,undef,undef,undef,undef],[]⟩:Act)∧TR.Tags (TR.D3 8) (TR.FA3 8 [.slice (some ⟨pb,0,none⟩) r.length pcap,.int .i64 (cc:Int),.pointer (some ⟨pb,cc*2,none⟩),.agg #[.int .i64 sp,.slice po pl pc],.slice (some ⟨vb,0,none⟩) zs.length vcap,.int .i64 (cc:Int),.pointer (some ⟨vb,cc*2,none⟩),.agg #[.int .i64 sv,.slice vo vl vc]] (GcdGotR (N+1) p q) (wr).heap.size) (wr) L c w' G) ⟨fun i=>([u60,u61,u62,u63,u64,u65,u66,u67,u68,u59,u69,u70,u71,u10,u11,u12,undef,undef,undef]:List Value).getD i undef,fun _=>0,rfl,TR.Tags.start _ _ _⟩ ?_ ?_
       ·rintro L a' w' i o ⟨c,G,rfl,R⟩ ho hn hdep K hK
        have hi:i<19:=(Array.getElem?_eq_some_iff.1 ho).1
        rcases(by omega:i=0∨i=1∨i=2∨i=3∨i=4∨i=5∨i=6∨i=7∨i=8∨i=9∨i=10∨i=11∨i=12∨i=13∨i=14∨i=15∨i=16∨i=17∨i=18) with rfl | rfl | rfl | rfl | rfl | rfl | rfl | rfl | rfl | rfl | rfl | rfl | rfl | rfl | rfl | rfl | rfl | rfl | rfl
        ·obtain rfl:=zI ho
         have R':=R.plain hn (zN rfl) (TR.FA3.keep hst) (v:=(.slice (some ⟨pb,0,none⟩) r.length pcap)) (zd _ _ _)
         clear R
         go_simp
         exact hK.out _ _ ⟨_,_,by simp [upd],R'⟩
        ·obtain rfl:=zI ho
         have R':=R.plain hn (zN rfl) (TR.FA3.keep hst) (v:=(.int .i64 (cc:Int))) (zd _ _ _)
         clear R
         go_simp
         exact hK.out _ _ ⟨_,_,by simp [upd],R'⟩
        ·obtain rfl:=zI ho
         have e0:c 0=(.slice (some ⟨pb,0,none⟩) r.length pcap):=R.facts 0 (hdep ⟨0,.data⟩ (by simp) rfl)
         have e1:c 1=(.int .i64 (cc:Int)):=R.facts 1 (hdep ⟨1,.data⟩ (by simp) rfl)
         have R':=R.plain hn (zN rfl) (TR.FA3.keep hst) (v:=(.pointer (some ⟨pb,cc*2,none⟩))) (zd _ _ _)
         clear R
         rw [e0,e1]
         go_simp
         exact hK.out _ _ ⟨_,_,by simp [upd,e0,e1],R'⟩
        ·obtain rfl:=zI ho
         have e2:c 2=(.pointer (some ⟨pb,cc*2,none⟩)):=R.facts 2 (hdep ⟨2,.data⟩ (by simp) rfl)
         have q0:=(R.below.cell (p:=⟨pb,cc*2,none⟩) lp).trans p0
         have q1:=(R.below.cell (p:=⟨pb,cc*2+1,none⟩) lp).trans p1
         have R':=R.plain hn (zN rfl) (TR.FA3.keep hst) (v:=(.agg #[.int .i64 sp,.slice po pl pc])) (zd _ _ _)
         clear R
         rw [e2]
         go_simp
         exact hK.out _ _ ⟨_,_,by simp [upd,e2],R'⟩
        ·obtain rfl:=zI ho
         have R':=R.plain hn (zN rfl) (TR.FA3.keep hst) (v:=(.slice (some ⟨vb,0,none⟩) zs.length vcap)) (zd _ _ _)
         clear R
         go_simp
         exact hK.out _ _ ⟨_,_,by simp [upd],R'⟩
        ·obtain rfl:=zI ho
         have R':=R.plain hn (zN rfl) (TR.FA3.keep hst) (v:=(.int .i64 (cc:Int))) (zd _ _ _)
         clear R
         go_simp
         exact hK.out _ _ ⟨_,_,by simp [upd],R'⟩
        ·obtain rfl:=zI ho
         have e4:c 4=(.slice (some ⟨vb,0,none⟩) zs.length vcap):=R.facts 4 (hdep ⟨4,.data⟩ (by simp) rfl)
         have e5:c 5=(.int .i64 (cc:Int)):=R.facts 5 (hdep ⟨5,.data⟩ (by simp) rfl)
         have R':=R.plain hn (zN rfl) (TR.FA3.keep hst) (v:=(.pointer (some ⟨vb,cc*2,none⟩))) (zd _ _ _)
         clear R
         rw [e4,e5]
         go_simp
         exact hK.out _ _ ⟨_,_,by simp [upd,e4,e5],R'⟩
        ·obtain rfl:=zI ho
         have e6:c 6=(.pointer (some ⟨vb,cc*2,none⟩)):=R.facts 6 (hdep ⟨6,.data⟩ (by simp) rfl)
         have q0:=(R.below.cell (p:=⟨vb,cc*2,none⟩) lv).trans z0
         have q1:=(R.below.cell (p:=⟨vb,cc*2+1,none⟩) lv).trans z1
         have R':=R.plain hn (zN rfl) (TR.FA3.keep hst) (v:=(.agg #[.int .i64 sv,.slice vo vl vc])) (zd _ _ _)
         clear R
         rw [e6]
         go_simp
         exact hK.out _ _ ⟨_,_,by simp [upd,e6],R'⟩
        ·obtain rfl:=zI ho
         have e3:c 3=(.agg #[.int .i64 sp,.slice po pl pc]):=R.facts 3 (hdep ⟨3,.data⟩ (by simp) rfl)
         have e7:c 7=(.agg #[.int .i64 sv,.slice vo vl vc]):=R.facts 7 (hdep ⟨7,.data⟩ (by simp) rfl)
         rw [e3,e7]
         go_simp
         refine(ze3 w' _ _ p q N (NP.out.below R.below zL) (NV.out.below R.below zL) (by omega)).mono ?_
         rintro e w1 ⟨vg,vx,vy,g,x,y,rfl,m1,m2,m3,m4,m5,m6,m7,hb⟩
         have R':=R.call hn (zN rfl) (TR.FA3.keep hst) hb (v:=.tuple #[vg,vx,vy]) (show GcdGotR (N+1) p q w1 (upd c 8 (.tuple #[vg,vx,vy]) 8) from by rw [zd];exact⟨vg,vx,vy,g,x,y,rfl,m1,m2,m3,m4,m5,m6,m7⟩)
         clear m1 m2 m3 m4 m5 m6 m7 hb
         clear R
         go_wp2_with fail
         exact hK.out _ _ ⟨_,_,by simp [upd,e3,e7],R'⟩
        ·obtain rfl:=zI ho
         have R':=R.plain hn (zO rfl (hdep ⟨_,.data⟩ (by simp) rfl)) (TR.FA3.keep hst) (v:=c 8) (show upd c 9 (c 8) 9=upd c 9 (c 8) 8 from by rw [zd,ze _ _ (by decide)])
         clear R
         go_simp
         exact hK.out _ _ ⟨_,_,by simp [upd],R'⟩
        ·obtain rfl:=zI ho
         have hm:=hdep ⟨9,.data⟩ (by simp) rfl
         have em:c 9=c 8:=R.facts 9 hm
         obtain⟨vg,vx,vy,g,x,y,ec,nm1,nm2,nm3,-⟩:(GcdGotR (N+1) p q) w' (c 8):=R.facts 8 (R.closed 9 hm 8 (by simp [TR.D3]))
         rw [ec] at em
         have R':=R.plain hn (zO rfl (hdep ⟨_,.data⟩ (by simp) rfl)) (TR.FA3.keep hst) (v:=vg) (show ∃ u1 u2 u3:Value,upd c 10 vg 9=.tuple #[u1,u2,u3]∧upd c 10 vg 10=u1 from⟨vg,vx,vy,by rw [ze _ _ (by decide)];exact em,zd _ _ _⟩)
         clear R ec
         rw [em]
         go_simp
         exact hK.out _ _ ⟨_,_,by simp [upd,em],R'⟩
        ·obtain rfl:=zI ho
         have hm:=hdep ⟨9,.data⟩ (by simp) rfl
         have em:c 9=c 8:=R.facts 9 hm
         obtain⟨vg,vx,vy,g,x,y,ec,nm1,nm2,nm3,-⟩:(GcdGotR (N+1) p q) w' (c 8):=R.facts 8 (R.closed 9 hm 8 (by simp [TR.D3]))
         rw [ec] at em
         have R':=R.plain hn (zO rfl (hdep ⟨_,.data⟩ (by simp) rfl)) (TR.FA3.keep hst) (v:=vx) (show ∃ u1 u2 u3:Value,upd c 11 vx 9=.tuple #[u1,u2,u3]∧upd c 11 vx 11=u2 from⟨vg,vx,vy,by rw [ze _ _ (by decide)];exact em,zd _ _ _⟩)
         clear R ec
         rw [em]
         go_simp
         exact hK.out _ _ ⟨_,_,by simp [upd,em],R'⟩
        ·obtain rfl:=zI ho
         have hm:=hdep ⟨9,.data⟩ (by simp) rfl
         have em:c 9=c 8:=R.facts 9 hm
         obtain⟨vg,vx,vy,g,x,y,ec,nm1,nm2,nm3,-⟩:(GcdGotR (N+1) p q) w' (c 8):=R.facts 8 (R.closed 9 hm 8 (by simp [TR.D3]))
         rw [ec] at em
         have R':=R.plain hn (zO rfl (hdep ⟨_,.data⟩ (by simp) rfl)) (TR.FA3.keep hst) (v:=vy) (show ∃ u1 u2 u3:Value,upd c 12 vy 9=.tuple #[u1,u2,u3]∧upd c 12 vy 12=u3 from⟨vg,vx,vy,by rw [ze _ _ (by decide)];exact em,zd _ _ _⟩)
         clear R ec
         rw [em]
         go_simp
         exact hK.out _ _ ⟨_,_,by simp [upd,em],R'⟩
        ·obtain rfl:=zI ho
         obtain⟨G',R'⟩:=R.alloc hn (zN rfl) (TR.FA3.keep hst) 16 (fun W' G' h=>show TR.Made W' G' _ 16 (upd c 13 (ptr w'.heap.size) 13) from by rw [zd];exact h)
         clear R
         go_simp
         exact hK.out _ _ ⟨_,G',by simp [upd],R'⟩
        ·obtain rfl:=zI ho
         obtain⟨G',R'⟩:=R.alloc hn (zN rfl) (TR.FA3.keep hst) 17 (fun W' G' h=>show TR.Made W' G' _ 17 (upd c 14 (ptr w'.heap.size) 14) from by rw [zd];exact h)
         clear R
         go_simp
         exact hK.out _ _ ⟨_,G',by simp [upd],R'⟩
        ·obtain rfl:=zI ho
         obtain⟨G',R'⟩:=R.alloc hn (zN rfl) (TR.FA3.keep hst) 18 (fun W' G' h=>show TR.Made W' G' _ 18 (upd c 15 (ptr w'.heap.size) 15) from by rw [zd];exact h)
         clear R
         go_simp
         exact hK.out _ _ ⟨_,G',by simp [upd],R'⟩
        ·obtain rfl:=zI ho
         have hx:=hdep ⟨10,.data⟩ (by simp) rfl
         have hm:=R.closed 10 hx 9 (by simp [TR.D3])
         have em:c 9=c 8:=R.facts 9 hm
         obtain⟨vg,vx,vy,g,x,y,ec,nm1,nm2,nm3,-⟩:(GcdGotR (N+1) p q) w' (c 8):=R.facts 8 (R.closed 9 hm 8 (by simp [TR.D3]))
         obtain⟨u1,u2,u3,em',ex⟩:∃ u1 u2 u3:Value,c 9=.tuple #[u1,u2,u3]∧c 10=u1:=R.facts 10 hx
         rw [em,ec] at em'
         simp only [Value.tuple.injEq,Array.mk.injEq,List.cons.injEq,and_true] at em'
         obtain⟨rfl,rfl,rfl⟩:=em'
         obtain⟨s,hs⟩:=TR.rm_of nm1
         rw [hs] at ex
         obtain⟨B,ea,hC,hB,hG,r,hb⟩:TR.Made w' G _ 16 (c 13):=R.facts 13 (hdep ⟨13,.data⟩ (by simp) rfl)
         have R':=R.store hn (fun j hj=>by simp [TR.D3] at hj;rcases hj with rfl | rfl <;> exact hdep ⟨_,.data⟩ (by simp) rfl) (TR.FA3.keep hst) s hC hB hG hb (fun W' G' h=>show ∃ r:Rm,upd c 16 undef 10=r.v∧TR.Stored W' G' _ 16 (upd c 16 undef 13) r from⟨s,by rw [ze _ _ (by decide)];exact ex,by rw [ze _ _ (by decide),ea];exact h⟩)
         obtain⟨b0,b1,b2,b3⟩:=hb.box
         obtain⟨sn,so,sl,sc⟩:=s
         dsimp only at *
         clear R em ec
         rw [ea,ex]
         go_simp
         exact hK.out _ _ ⟨_,_,by simp [upd,ea,ex],R'⟩
        ·obtain rfl:=zI ho
         have hx:=hdep ⟨11,.data⟩ (by simp) rfl
         have hm:=R.closed 11 hx 9 (by simp [TR.D3])
         have em:c 9=c 8:=R.facts 9 hm
         obtain⟨vg,vx,vy,g,x,y,ec,nm1,nm2,nm3,-⟩:(GcdGotR (N+1) p q) w' (c 8):=R.facts 8 (R.closed 9 hm 8 (by simp [TR.D3]))
         obtain⟨u1,u2,u3,em',ex⟩:∃ u1 u2 u3:Value,c 9=.tuple #[u1,u2,u3]∧c 11=u2:=R.facts 11 hx
         rw [em,ec] at em'
         simp only [Value.tuple.injEq,Array.mk.injEq,List.cons.injEq,and_true] at em'
         obtain⟨rfl,rfl,rfl⟩:=em'
         obtain⟨s,hs⟩:=TR.rm_of nm2
         rw [hs] at ex
         obtain⟨B,ea,hC,hB,hG,r,hb⟩:TR.Made w' G _ 17 (c 14):=R.facts 14 (hdep ⟨14,.data⟩ (by simp) rfl)
         have R':=R.store hn (fun j hj=>by simp [TR.D3] at hj;rcases hj with rfl | rfl <;> exact hdep ⟨_,.data⟩ (by simp) rfl) (TR.FA3.keep hst) s hC hB hG hb (fun W' G' h=>show ∃ r:Rm,upd c 17 undef 11=r.v∧TR.Stored W' G' _ 17 (upd c 17 undef 14) r from⟨s,by rw [ze _ _ (by decide)];exact ex,by rw [ze _ _ (by decide),ea];exact h⟩)
         obtain⟨b0,b1,b2,b3⟩:=hb.box
         obtain⟨sn,so,sl,sc⟩:=s
         dsimp only at *
         clear R em ec
         rw [ea,ex]
         go_simp
         exact hK.out _ _ ⟨_,_,by simp [upd,ea,ex],R'⟩
        ·obtain rfl:=zI ho
         have hx:=hdep ⟨12,.data⟩ (by simp) rfl
         have hm:=R.closed 12 hx 9 (by simp [TR.D3])
         have em:c 9=c 8:=R.facts 9 hm
         obtain⟨vg,vx,vy,g,x,y,ec,nm1,nm2,nm3,-⟩:(GcdGotR (N+1) p q) w' (c 8):=R.facts 8 (R.closed 9 hm 8 (by simp [TR.D3]))
         obtain⟨u1,u2,u3,em',ex⟩:∃ u1 u2 u3:Value,c 9=.tuple #[u1,u2,u3]∧c 12=u3:=R.facts 12 hx
         rw [em,ec] at em'
         simp only [Value.tuple.injEq,Array.mk.injEq,List.cons.injEq,and_true] at em'
         obtain⟨rfl,rfl,rfl⟩:=em'
         obtain⟨s,hs⟩:=TR.rm_of nm3
         rw [hs] at ex
         obtain⟨B,ea,hC,hB,hG,r,hb⟩:TR.Made w' G _ 18 (c 15):=R.facts 15 (hdep ⟨15,.data⟩ (by simp) rfl)
         have R':=R.store hn (fun j hj=>by simp [TR.D3] at hj;rcases hj with rfl | rfl <;> exact hdep ⟨_,.data⟩ (by simp) rfl) (TR.FA3.keep hst) s hC hB hG hb (fun W' G' h=>show ∃ r:Rm,upd c 18 undef 12=r.v∧TR.Stored W' G' _ 18 (upd c 18 undef 15) r from⟨s,by rw [ze _ _ (by decide)];exact ex,by rw [ze _ _ (by decide),ea];exact h⟩)
         obtain⟨b0,b1,b2,b3⟩:=hb.box
         obtain⟨sn,so,sl,sc⟩:=s
         dsimp only at *
         clear R em ec
         rw [ea,ex]
         go_simp
         exact hK.out _ _ ⟨_,_,by simp [upd,ea,ex],R'⟩
       ·rintro L a' w1 ⟨c1,G,rfl,R⟩ hall
        obtain⟨⟨sg,go,gl,gc⟩,⟨sx,xo,xl,xc⟩,⟨sy,yo,yl,yc⟩,B1,B2,B3,⟨vg,vx,vy,g,x,y,ec,N1,N2,N3,hgx,hgp,⟨p',hp⟩,⟨q',hq⟩⟩,e13,e14,e15,l1,l2,l3,s1,s2,s3,d12,d13,d23,x1,x2,x3,hb1⟩:=R.fin3 (fun i hi=>hall i hi)
        simp only [Value.tuple.injEq,Array.mk.injEq,List.cons.injEq,and_true] at ec
        obtain⟨rfl,rfl,rfl⟩:=ec
        have hg0:g≠0:=fun e=>hp0 (by rw [hp,e,Int.mul_zero])
        have HGG:=hide (show 0<g∧g=x*p+y*q∧p=p'*g∧q=q'*g from⟨by omega,hgx,hp,hq⟩)
        have NG1:=hide N1;have NX1:=hide N2;have NY1:=hide N3
        have NP1:=hide (NP.out.below hb1 zL);have NV1:=hide (NV.out.below hb1 zL)
        have u2:=(hb1.cell (p:=⟨pb,cc*2,none⟩) lp).trans p0
        have u3:=(hb1.cell (p:=⟨pb,cc*2+1,none⟩) lp).trans p1
        have u6:=(hb1.cell (p:=⟨vb,cc*2,none⟩) lv).trans z0
        have u7:=(hb1.cell (p:=⟨vb,cc*2+1,none⟩) lv).trans z1
        have lp1:=zT lp hb1.size
        have lv1:=zT lv hb1.size
        obtain⟨x10,x11,-,-⟩:=x1.box
        obtain⟨x20,x21,-,-⟩:=x2.box
        obtain⟨x30,x31,-,-⟩:=x3.box
        have HW1:=hide hb1
        have hL2:wr.heap.size≤B2:=l2
        have hL3:wr.heap.size≤B3:=l3
        clear R hall hst N1 N2 N3 hgx hgp hp hq l1 l2 l3 d12 d13 d23 hb1 p0 p1 z0 z1 NP NV lp lv hp0 x1 x2 x3
        dsimp only at *
        rw [e13,e14,e15]
        clear e13 e14 e15
        have hst:=QuoGotR.moved N (N+1) p g
        go_wp2_with fail
        refine zab (by kernel_rfl) (by kernel_rfl) (fun L a' w'=>∃(c:Nat→Value) (G:Nat→Nat),a'=(⟨#[.slice (some ⟨mb,0,none⟩) ms.length cap,.int .i64 (n:Int),undef,undef,.slice none 0 0,.slice (some ⟨w.heap.size,0,none⟩) n n,.int .i64 (k:Int),.slice (some ⟨vb,0,none⟩) zs.length vcap,.int .i64 (cc:Int),.slice (some ⟨pb,0,none⟩) r.length pcap,ptr B1,ptr B2,ptr B3,c 9,c 10,u15,u16,undef,undef,undef,undef,undef,undef,.int .i64 (n:Int),.slice (some ⟨w.heap.size,0,none⟩) n n,.int .i64 (k:Int),.slice (some ⟨mb,0,none⟩) ms.length cap,.int .i64 (ms.length:Int),.bool true,u29,u30,.slice (some ⟨mb,0,none⟩) ms.length cap,.int .i64 (k:Int),.pointer (some ⟨mb,k,none⟩),.slice (some ⟨ub,0,none⟩) us.length ucap,.int .i64 (cc:Int),.int .i64 (n:Int),.bool true,u38,u39,.slice (some ⟨vb,0,none⟩) zs.length vcap,.int .i64 (cc:Int),.pointer (some ⟨vb,cc*2,none⟩),.pointer (some ⟨vb,cc*2,none⟩),.int .i64 sv,.bool false,.slice (some ⟨w.heap.size,0,none⟩) n n,.int .i64 (cc:Int),.pointer (some ⟨w.heap.size,cc,none⟩),.slice (some ⟨pb,0,none⟩) r.length pcap,.bool false,u51,u52,u53,u54,.slice (some ⟨w.heap.size,0,none⟩) n n,.int .i64 (cc:Int),.pointer (some ⟨w.heap.size,cc,none⟩),.slice (some ⟨pb,0,none⟩) r.length pcap,c1 9,c1 0,c1 1,c1 2,c1 3,c1 4,c1 5,c1 6,c1 7,c1 8,c1 10,c1 11,c1 12,c 6,c 0,c 1,c 2,c 3,c 4,c 5,c 7,c 8,u81,u82,u83,u84,u85,u86,u87,u88,u89,u90,u91,u92,u93,u94,u95,u96,u97,u98,u99,u100,u101,u102,u103,undef,undef,undef,undef,undef,undef,undef,undef,undef,undef,undef,undef,undef,undef,undef,undef,undef,undef,undef,undef,undef,undef,undef,undef,undef,undef,undef,undef,undef,undef,undef,undef,undef,undef,undef,undef,undef,undef,undef,undef,undef,undef,undef,undef,undef,undef,undef,undef,undef,undef,undef,undef,undef,undef,undef,undef,undef,undef,undef,undef,undef,undef,undef],[]⟩:Act)∧TR.Tags (TR.D22 5) (TR.FA22 5 [.slice (some ⟨pb,0,none⟩) r.length pcap,.int .i64 (cc:Int),.pointer (some ⟨pb,cc*2,none⟩),.agg #[.int .i64 sp,.slice po pl pc],.agg #[.int .i64 sg,.slice go gl gc]] (QuoGotR N (N+1) p g) (w1).heap.size) (w1) L c w' G) ⟨fun i=>([u73,u74,u75,u76,u77,u78,u72,u79,u80,u13,u14,undef,undef]:List Value).getD i undef,fun _=>0,rfl,TR.Tags.start _ _ _⟩ ?_ ?_
        ·rintro L a' w' i o ⟨c,G,rfl,R⟩ ho hn hdep K hK
         have hi:i<13:=(Array.getElem?_eq_some_iff.1 ho).1
         rcases(by omega:i=0∨i=1∨i=2∨i=3∨i=4∨i=5∨i=6∨i=7∨i=8∨i=9∨i=10∨i=11∨i=12) with rfl | rfl | rfl | rfl | rfl | rfl | rfl | rfl | rfl | rfl | rfl | rfl | rfl
         ·obtain rfl:=zI ho
          have R':=R.plain hn (zN rfl) (TR.FA22.keep hst) (v:=(.slice (some ⟨pb,0,none⟩) r.length pcap)) (zd _ _ _)
          clear R
          go_simp
          exact hK.out _ _ ⟨_,_,by simp [upd],R'⟩
         ·obtain rfl:=zI ho
          have R':=R.plain hn (zN rfl) (TR.FA22.keep hst) (v:=(.int .i64 (cc:Int))) (zd _ _ _)
          clear R
          go_simp
          exact hK.out _ _ ⟨_,_,by simp [upd],R'⟩
         ·obtain rfl:=zI ho
          have e0:c 0=(.slice (some ⟨pb,0,none⟩) r.length pcap):=R.facts 0 (hdep ⟨0,.data⟩ (by simp) rfl)
          have e1:c 1=(.int .i64 (cc:Int)):=R.facts 1 (hdep ⟨1,.data⟩ (by simp) rfl)
          have R':=R.plain hn (zN rfl) (TR.FA22.keep hst) (v:=(.pointer (some ⟨pb,cc*2,none⟩))) (zd _ _ _)
          clear R
          rw [e0,e1]
          go_simp
          exact hK.out _ _ ⟨_,_,by simp [upd,e0,e1],R'⟩
         ·obtain rfl:=zI ho
          have e2:c 2=(.pointer (some ⟨pb,cc*2,none⟩)):=R.facts 2 (hdep ⟨2,.data⟩ (by simp) rfl)
          have q0:=(R.below.cell (p:=⟨pb,cc*2,none⟩) lp1).trans u2
          have q1:=(R.below.cell (p:=⟨pb,cc*2+1,none⟩) lp1).trans u3
          have R':=R.plain hn (zN rfl) (TR.FA22.keep hst) (v:=(.agg #[.int .i64 sp,.slice po pl pc])) (zd _ _ _)
          clear R
          rw [e2]
          go_simp
          exact hK.out _ _ ⟨_,_,by simp [upd,e2],R'⟩
         ·obtain rfl:=zI ho
          have q0:=(R.below.cell (p:=⟨B1,0,none⟩) s1).trans x10
          have q1:=(R.below.cell (p:=⟨B1,1,none⟩) s1).trans x11
          have R':=R.plain hn (zN rfl) (TR.FA22.keep hst) (v:=(.agg #[.int .i64 sg,.slice go gl gc])) (zd _ _ _)
          clear R
          go_simp
          exact hK.out _ _ ⟨_,_,by simp [upd],R'⟩
         ·obtain rfl:=zI ho
          have e3:c 3=(.agg #[.int .i64 sp,.slice po pl pc]):=R.facts 3 (hdep ⟨3,.data⟩ (by simp) rfl)
          have e4:c 4=(.agg #[.int .i64 sg,.slice go gl gc]):=R.facts 4 (hdep ⟨4,.data⟩ (by simp) rfl)
          rw [e3,e4]
          go_simp
          refine(zaP w' _ _ p g N (N+1) (NP1.out.below R.below zL) (NG1.out.below R.below zL) hg0 (by omega) (by omega)).mono ?_
          rintro e wq ⟨vq,vr,s,r',rfl,m1,m2,m3,m4,hb⟩
          have R':=R.call hn (zN rfl) (TR.FA22.keep hst) hb (v:=.tuple #[vq,vr]) (show QuoGotR N (N+1) p g wq (upd c 5 (.tuple #[vq,vr]) 5) from by rw [zd];exact⟨vq,vr,s,r',rfl,m1,m2,m3,m4⟩)
          clear m1 m2 m3 m4 hb
          clear R
          go_wp2_with fail
          exact hK.out _ _ ⟨_,_,by simp [upd,e3,e4],R'⟩
         ·obtain rfl:=zI ho
          have R':=R.plain hn (zO rfl (hdep ⟨_,.data⟩ (by simp) rfl)) (TR.FA22.keep hst) (v:=c 5) (show upd c 6 (c 5) 6=upd c 6 (c 5) 5 from by rw [zd,ze _ _ (by decide)])
          clear R
          go_simp
          exact hK.out _ _ ⟨_,_,by simp [upd],R'⟩
         ·obtain rfl:=zI ho
          have hm:=hdep ⟨6,.data⟩ (by simp) rfl
          have em:c 6=c 5:=R.facts 6 hm
          obtain⟨vq,vr,s,r',ec,nm1,nm2,-⟩:(QuoGotR N (N+1) p g) w' (c 5):=R.facts 5 (R.closed 6 hm 5 (by simp [TR.D22]))
          rw [ec] at em
          have R':=R.plain hn (zO rfl (hdep ⟨_,.data⟩ (by simp) rfl)) (TR.FA22.keep hst) (v:=vq) (show ∃ u1 u2:Value,upd c 7 vq 6=.tuple #[u1,u2]∧upd c 7 vq 7=u1 from⟨vq,vr,by rw [ze _ _ (by decide)];exact em,zd _ _ _⟩)
          clear R ec
          rw [em]
          go_simp
          exact hK.out _ _ ⟨_,_,by simp [upd,em],R'⟩
         ·obtain rfl:=zI ho
          have hm:=hdep ⟨6,.data⟩ (by simp) rfl
          have em:c 6=c 5:=R.facts 6 hm
          obtain⟨vq,vr,s,r',ec,nm1,nm2,-⟩:(QuoGotR N (N+1) p g) w' (c 5):=R.facts 5 (R.closed 6 hm 5 (by simp [TR.D22]))
          rw [ec] at em
          have R':=R.plain hn (zO rfl (hdep ⟨_,.data⟩ (by simp) rfl)) (TR.FA22.keep hst) (v:=vr) (show ∃ u1 u2:Value,upd c 8 vr 6=.tuple #[u1,u2]∧upd c 8 vr 8=u2 from⟨vq,vr,by rw [ze _ _ (by decide)];exact em,zd _ _ _⟩)
          clear R ec
          rw [em]
          go_simp
          exact hK.out _ _ ⟨_,_,by simp [upd,em],R'⟩
         ·obtain rfl:=zI ho
          obtain⟨G',R'⟩:=R.alloc hn (zN rfl) (TR.FA22.keep hst) 11 (fun W' G' h=>show TR.Made W' G' _ 11 (upd c 9 (ptr w'.heap.size) 9) from by rw [zd];exact h)
          clear R
          go_simp
          exact hK.out _ _ ⟨_,G',by simp [upd],R'⟩
         ·obtain rfl:=zI ho
          obtain⟨G',R'⟩:=R.alloc hn (zN rfl) (TR.FA22.keep hst) 12 (fun W' G' h=>show TR.Made W' G' _ 12 (upd c 10 (ptr w'.heap.size) 10) from by rw [zd];exact h)
          clear R
          go_simp
          exact hK.out _ _ ⟨_,G',by simp [upd],R'⟩
         ·obtain rfl:=zI ho
          have hx:=hdep ⟨7,.data⟩ (by simp) rfl
          have hm:=R.closed 7 hx 6 (by simp [TR.D22])
          have em:c 6=c 5:=R.facts 6 hm
          obtain⟨vq,vr,s,r',ec,nm1,nm2,-⟩:(QuoGotR N (N+1) p g) w' (c 5):=R.facts 5 (R.closed 6 hm 5 (by simp [TR.D22]))
          obtain⟨u1,u2,em',ex⟩:∃ u1 u2:Value,c 6=.tuple #[u1,u2]∧c 7=u1:=R.facts 7 hx
          rw [em,ec] at em'
          simp only [Value.tuple.injEq,Array.mk.injEq,List.cons.injEq,and_true] at em'
          obtain⟨rfl,rfl⟩:=em'
          obtain⟨s,hs⟩:=TR.rm_of nm1
          rw [hs] at ex
          obtain⟨B,ea,hC,hB,hG,r,hb⟩:TR.Made w' G _ 11 (c 9):=R.facts 9 (hdep ⟨9,.data⟩ (by simp) rfl)
          have R':=R.store hn (fun j hj=>by simp [TR.D22] at hj;rcases hj with rfl | rfl <;> exact hdep ⟨_,.data⟩ (by simp) rfl) (TR.FA22.keep hst) s hC hB hG hb (fun W' G' h=>show ∃ r:Rm,upd c 11 undef 7=r.v∧TR.Stored W' G' _ 11 (upd c 11 undef 9) r from⟨s,by rw [ze _ _ (by decide)];exact ex,by rw [ze _ _ (by decide),ea];exact h⟩)
          obtain⟨b0,b1,b2,b3⟩:=hb.box
          obtain⟨sn,so,sl,sc⟩:=s
          dsimp only at *
          clear R em ec
          rw [ea,ex]
          go_simp
          exact hK.out _ _ ⟨_,_,by simp [upd,ea,ex],R'⟩
         ·obtain rfl:=zI ho
          have hx:=hdep ⟨8,.data⟩ (by simp) rfl
          have hm:=R.closed 8 hx 6 (by simp [TR.D22])
          have em:c 6=c 5:=R.facts 6 hm
          obtain⟨vq,vr,s,r',ec,nm1,nm2,-⟩:(QuoGotR N (N+1) p g) w' (c 5):=R.facts 5 (R.closed 6 hm 5 (by simp [TR.D22]))
          obtain⟨u1,u2,em',ex⟩:∃ u1 u2:Value,c 6=.tuple #[u1,u2]∧c 8=u2:=R.facts 8 hx
          rw [em,ec] at em'
          simp only [Value.tuple.injEq,Array.mk.injEq,List.cons.injEq,and_true] at em'
          obtain⟨rfl,rfl⟩:=em'
          obtain⟨s,hs⟩:=TR.rm_of nm2
          rw [hs] at ex
          obtain⟨B,ea,hC,hB,hG,r,hb⟩:TR.Made w' G _ 12 (c 10):=R.facts 10 (hdep ⟨10,.data⟩ (by simp) rfl)
          have R':=R.store hn (fun j hj=>by simp [TR.D22] at hj;rcases hj with rfl | rfl <;> exact hdep ⟨_,.data⟩ (by simp) rfl) (TR.FA22.keep hst) s hC hB hG hb (fun W' G' h=>show ∃ r:Rm,upd c 12 undef 8=r.v∧TR.Stored W' G' _ 12 (upd c 12 undef 10) r from⟨s,by rw [ze _ _ (by decide)];exact ex,by rw [ze _ _ (by decide),ea];exact h⟩)
          obtain⟨b0,b1,b2,b3⟩:=hb.box
          obtain⟨sn,so,sl,sc⟩:=s
          dsimp only at *
          clear R em ec
          rw [ea,ex]
          go_simp
          exact hK.out _ _ ⟨_,_,by simp [upd,ea,ex],R'⟩
        ·rintro L a' w2 ⟨c2,G,rfl,R⟩ hall
         obtain⟨⟨sn,so,sl,sc⟩,r2',B4,B5,⟨vq,vr,s,r',ec,N1,-,hps,hleft⟩,e13,e14,l1,l2,s4,s5,d12,x4,-,hb2⟩:=R.fin22 (fun i hi=>hall i hi)
         simp only [Value.tuple.injEq,Array.mk.injEq,List.cons.injEq,and_true] at ec
         obtain⟨rfl,-⟩:=ec
         have HS:=hide (Left.exact HGG.out.1 HGG.out.2.2.1 hps hleft)
         have NV2:=hide (NV1.out.below hb2 zL);have NG2:=hide (NG1.out.below hb2 zL);have NX2:=hide (NX1.out.below hb2 zL);have NY2:=hide (NY1.out.below hb2 zL)
         have NS2:=hide N1
         have t6:=(hb2.cell (p:=⟨vb,cc*2,none⟩) lv1).trans u6
         have t7:=(hb2.cell (p:=⟨vb,cc*2+1,none⟩) lv1).trans u7
         have lv2:=zT lv1 hb2.size
         have y10:=(hb2.cell (p:=⟨B1,0,none⟩) s1).trans x10
         have y11:=(hb2.cell (p:=⟨B1,1,none⟩) s1).trans x11
         have y20:=(hb2.cell (p:=⟨B2,0,none⟩) s2).trans x20
         have y21:=(hb2.cell (p:=⟨B2,1,none⟩) s2).trans x21
         have y30:=(hb2.cell (p:=⟨B3,0,none⟩) s3).trans x30
         have y31:=(hb2.cell (p:=⟨B3,1,none⟩) s3).trans x31
         have t1:=zT s1 hb2.size
         have t2:=zT s2 hb2.size
         have t3:=zT s3 hb2.size
         have hL4:w1.heap.size≤B4:=l1
         obtain⟨x40,x41,-,-⟩:=x4.box
         have HW2:=hide (HW1.out.trans (hb2.mono HW1.out.size))
         have hS1:=HW1.out.size
         clear R hall hst N1 hps hleft l1 l2 d12 hb2 NP1 NV1 NG1 NX1 NY1 HW1 lp1 lv1 u2 u3 u6 u7 x10 x11 x20 x21 x30 x31 s1 s2 s3 x4
         dsimp only at *
         rw [e13,e14]
         clear e13 e14
         have u6:=t6
         have u7:=t7
         clear t6 t7
         have hst:=QuoGotR.moved N (N+1) q g
         go_wp2_with fail
         refine zab (by kernel_rfl) (by kernel_rfl) (fun L a' w'=>∃(c:Nat→Value) (G:Nat→Nat),a'=(⟨#[.slice (some ⟨mb,0,none⟩) ms.length cap,.int .i64 (n:Int),undef,undef,.slice none 0 0,.slice (some ⟨w.heap.size,0,none⟩) n n,.int .i64 (k:Int),.slice (some ⟨vb,0,none⟩) zs.length vcap,.int .i64 (cc:Int),.slice (some ⟨pb,0,none⟩) r.length pcap,ptr B1,ptr B2,ptr B3,ptr B4,ptr B5,c 9,c 10,undef,undef,undef,undef,undef,undef,.int .i64 (n:Int),.slice (some ⟨w.heap.size,0,none⟩) n n,.int .i64 (k:Int),.slice (some ⟨mb,0,none⟩) ms.length cap,.int .i64 (ms.length:Int),.bool true,u29,u30,.slice (some ⟨mb,0,none⟩) ms.length cap,.int .i64 (k:Int),.pointer (some ⟨mb,k,none⟩),.slice (some ⟨ub,0,none⟩) us.length ucap,.int .i64 (cc:Int),.int .i64 (n:Int),.bool true,u38,u39,.slice (some ⟨vb,0,none⟩) zs.length vcap,.int .i64 (cc:Int),.pointer (some ⟨vb,cc*2,none⟩),.pointer (some ⟨vb,cc*2,none⟩),.int .i64 sv,.bool false,.slice (some ⟨w.heap.size,0,none⟩) n n,.int .i64 (cc:Int),.pointer (some ⟨w.heap.size,cc,none⟩),.slice (some ⟨pb,0,none⟩) r.length pcap,.bool false,u51,u52,u53,u54,.slice (some ⟨w.heap.size,0,none⟩) n n,.int .i64 (cc:Int),.pointer (some ⟨w.heap.size,cc,none⟩),.slice (some ⟨pb,0,none⟩) r.length pcap,c1 9,c1 0,c1 1,c1 2,c1 3,c1 4,c1 5,c1 6,c1 7,c1 8,c1 10,c1 11,c1 12,c2 6,c2 0,c2 1,c2 2,c2 3,c2 4,c2 5,c2 7,c2 8,c 6,c 0,c 1,c 2,c 3,c 4,c 5,c 7,c 8,u90,u91,u92,u93,u94,u95,u96,u97,u98,u99,u100,u101,u102,u103,undef,undef,undef,undef,undef,undef,undef,undef,undef,undef,undef,undef,undef,undef,undef,undef,undef,undef,undef,undef,undef,undef,undef,undef,undef,undef,undef,undef,undef,undef,undef,undef,undef,undef,undef,undef,undef,undef,undef,undef,undef,undef,undef,undef,undef,undef,undef,undef,undef,undef,undef,undef,undef,undef,undef,undef,undef,undef,undef,undef,undef,undef,undef],[]⟩:Act)∧TR.Tags (TR.D22 5) (TR.FA22 5 [.slice (some ⟨vb,0,none⟩) zs.length vcap,.int .i64 (cc:Int),.pointer (some ⟨vb,cc*2,none⟩),.agg #[.int .i64 sv,.slice vo vl vc],.agg #[.int .i64 sg,.slice go gl gc]] (QuoGotR N (N+1) q g) (w2).heap.size) (w2) L c w' G) ⟨fun i=>([u82,u83,u84,u85,u86,u87,u81,u88,u89,u15,u16,undef,undef]:List Value).getD i undef,fun _=>0,rfl,TR.Tags.start _ _ _⟩ ?_ ?_
         ·rintro L a' w' i o ⟨c,G,rfl,R⟩ ho hn hdep K hK
          have hi:i<13:=(Array.getElem?_eq_some_iff.1 ho).1
          rcases(by omega:i=0∨i=1∨i=2∨i=3∨i=4∨i=5∨i=6∨i=7∨i=8∨i=9∨i=10∨i=11∨i=12) with rfl | rfl | rfl | rfl | rfl | rfl | rfl | rfl | rfl | rfl | rfl | rfl | rfl
          ·obtain rfl:=zI ho
           have R':=R.plain hn (zN rfl) (TR.FA22.keep hst) (v:=(.slice (some ⟨vb,0,none⟩) zs.length vcap)) (zd _ _ _)
           clear R
           go_simp
           exact hK.out _ _ ⟨_,_,by simp [upd],R'⟩
          ·obtain rfl:=zI ho
           have R':=R.plain hn (zN rfl) (TR.FA22.keep hst) (v:=(.int .i64 (cc:Int))) (zd _ _ _)
           clear R
           go_simp
           exact hK.out _ _ ⟨_,_,by simp [upd],R'⟩
          ·obtain rfl:=zI ho
           have e0:c 0=(.slice (some ⟨vb,0,none⟩) zs.length vcap):=R.facts 0 (hdep ⟨0,.data⟩ (by simp) rfl)
           have e1:c 1=(.int .i64 (cc:Int)):=R.facts 1 (hdep ⟨1,.data⟩ (by simp) rfl)
           have R':=R.plain hn (zN rfl) (TR.FA22.keep hst) (v:=(.pointer (some ⟨vb,cc*2,none⟩))) (zd _ _ _)
           clear R
           rw [e0,e1]
           go_simp
           exact hK.out _ _ ⟨_,_,by simp [upd,e0,e1],R'⟩
          ·obtain rfl:=zI ho
           have e2:c 2=(.pointer (some ⟨vb,cc*2,none⟩)):=R.facts 2 (hdep ⟨2,.data⟩ (by simp) rfl)
           have q0:=(R.below.cell (p:=⟨vb,cc*2,none⟩) lv2).trans u6
           have q1:=(R.below.cell (p:=⟨vb,cc*2+1,none⟩) lv2).trans u7
           have R':=R.plain hn (zN rfl) (TR.FA22.keep hst) (v:=(.agg #[.int .i64 sv,.slice vo vl vc])) (zd _ _ _)
           clear R
           rw [e2]
           go_simp
           exact hK.out _ _ ⟨_,_,by simp [upd,e2],R'⟩
          ·obtain rfl:=zI ho
           have q0:=(R.below.cell (p:=⟨B1,0,none⟩) t1).trans y10
           have q1:=(R.below.cell (p:=⟨B1,1,none⟩) t1).trans y11
           have R':=R.plain hn (zN rfl) (TR.FA22.keep hst) (v:=(.agg #[.int .i64 sg,.slice go gl gc])) (zd _ _ _)
           clear R
           go_simp
           exact hK.out _ _ ⟨_,_,by simp [upd],R'⟩
          ·obtain rfl:=zI ho
           have e3:c 3=(.agg #[.int .i64 sv,.slice vo vl vc]):=R.facts 3 (hdep ⟨3,.data⟩ (by simp) rfl)
           have e4:c 4=(.agg #[.int .i64 sg,.slice go gl gc]):=R.facts 4 (hdep ⟨4,.data⟩ (by simp) rfl)
           rw [e3,e4]
           go_simp
           refine(zaP w' _ _ q g N (N+1) (NV2.out.below R.below zL) (NG2.out.below R.below zL) hg0 (by omega) (by omega)).mono ?_
           rintro e wq ⟨vq,vr,s,r',rfl,m1,m2,m3,m4,hb⟩
           have R':=R.call hn (zN rfl) (TR.FA22.keep hst) hb (v:=.tuple #[vq,vr]) (show QuoGotR N (N+1) q g wq (upd c 5 (.tuple #[vq,vr]) 5) from by rw [zd];exact⟨vq,vr,s,r',rfl,m1,m2,m3,m4⟩)
           clear m1 m2 m3 m4 hb
           clear R
           go_wp2_with fail
           exact hK.out _ _ ⟨_,_,by simp [upd,e3,e4],R'⟩
          ·obtain rfl:=zI ho
           have R':=R.plain hn (zO rfl (hdep ⟨_,.data⟩ (by simp) rfl)) (TR.FA22.keep hst) (v:=c 5) (show upd c 6 (c 5) 6=upd c 6 (c 5) 5 from by rw [zd,ze _ _ (by decide)])
           clear R
           go_simp
           exact hK.out _ _ ⟨_,_,by simp [upd],R'⟩
          ·obtain rfl:=zI ho
           have hm:=hdep ⟨6,.data⟩ (by simp) rfl
           have em:c 6=c 5:=R.facts 6 hm
           obtain⟨vq,vr,s,r',ec,nm1,nm2,-⟩:(QuoGotR N (N+1) q g) w' (c 5):=R.facts 5 (R.closed 6 hm 5 (by simp [TR.D22]))
           rw [ec] at em
           have R':=R.plain hn (zO rfl (hdep ⟨_,.data⟩ (by simp) rfl)) (TR.FA22.keep hst) (v:=vq) (show ∃ u1 u2:Value,upd c 7 vq 6=.tuple #[u1,u2]∧upd c 7 vq 7=u1 from⟨vq,vr,by rw [ze _ _ (by decide)];exact em,zd _ _ _⟩)
           clear R ec
           rw [em]
           go_simp
           exact hK.out _ _ ⟨_,_,by simp [upd,em],R'⟩
          ·obtain rfl:=zI ho
           have hm:=hdep ⟨6,.data⟩ (by simp) rfl
           have em:c 6=c 5:=R.facts 6 hm
           obtain⟨vq,vr,s,r',ec,nm1,nm2,-⟩:(QuoGotR N (N+1) q g) w' (c 5):=R.facts 5 (R.closed 6 hm 5 (by simp [TR.D22]))
           rw [ec] at em
           have R':=R.plain hn (zO rfl (hdep ⟨_,.data⟩ (by simp) rfl)) (TR.FA22.keep hst) (v:=vr) (show ∃ u1 u2:Value,upd c 8 vr 6=.tuple #[u1,u2]∧upd c 8 vr 8=u2 from⟨vq,vr,by rw [ze _ _ (by decide)];exact em,zd _ _ _⟩)
           clear R ec
           rw [em]
           go_simp
           exact hK.out _ _ ⟨_,_,by simp [upd,em],R'⟩
          ·obtain rfl:=zI ho
           obtain⟨G',R'⟩:=R.alloc hn (zN rfl) (TR.FA22.keep hst) 11 (fun W' G' h=>show TR.Made W' G' _ 11 (upd c 9 (ptr w'.heap.size) 9) from by rw [zd];exact h)
           clear R
           go_simp
           exact hK.out _ _ ⟨_,G',by simp [upd],R'⟩
          ·obtain rfl:=zI ho
           obtain⟨G',R'⟩:=R.alloc hn (zN rfl) (TR.FA22.keep hst) 12 (fun W' G' h=>show TR.Made W' G' _ 12 (upd c 10 (ptr w'.heap.size) 10) from by rw [zd];exact h)
           clear R
           go_simp
           exact hK.out _ _ ⟨_,G',by simp [upd],R'⟩
          ·obtain rfl:=zI ho
           have hx:=hdep ⟨7,.data⟩ (by simp) rfl
           have hm:=R.closed 7 hx 6 (by simp [TR.D22])
           have em:c 6=c 5:=R.facts 6 hm
           obtain⟨vq,vr,s,r',ec,nm1,nm2,-⟩:(QuoGotR N (N+1) q g) w' (c 5):=R.facts 5 (R.closed 6 hm 5 (by simp [TR.D22]))
           obtain⟨u1,u2,em',ex⟩:∃ u1 u2:Value,c 6=.tuple #[u1,u2]∧c 7=u1:=R.facts 7 hx
           rw [em,ec] at em'
           simp only [Value.tuple.injEq,Array.mk.injEq,List.cons.injEq,and_true] at em'
           obtain⟨rfl,rfl⟩:=em'
           obtain⟨s,hs⟩:=TR.rm_of nm1
           rw [hs] at ex
           obtain⟨B,ea,hC,hB,hG,r,hb⟩:TR.Made w' G _ 11 (c 9):=R.facts 9 (hdep ⟨9,.data⟩ (by simp) rfl)
           have R':=R.store hn (fun j hj=>by simp [TR.D22] at hj;rcases hj with rfl | rfl <;> exact hdep ⟨_,.data⟩ (by simp) rfl) (TR.FA22.keep hst) s hC hB hG hb (fun W' G' h=>show ∃ r:Rm,upd c 11 undef 7=r.v∧TR.Stored W' G' _ 11 (upd c 11 undef 9) r from⟨s,by rw [ze _ _ (by decide)];exact ex,by rw [ze _ _ (by decide),ea];exact h⟩)
           obtain⟨b0,b1,b2,b3⟩:=hb.box
           obtain⟨sn,so,sl,sc⟩:=s
           dsimp only at *
           clear R em ec
           rw [ea,ex]
           go_simp
           exact hK.out _ _ ⟨_,_,by simp [upd,ea,ex],R'⟩
          ·obtain rfl:=zI ho
           have hx:=hdep ⟨8,.data⟩ (by simp) rfl
           have hm:=R.closed 8 hx 6 (by simp [TR.D22])
           have em:c 6=c 5:=R.facts 6 hm
           obtain⟨vq,vr,s,r',ec,nm1,nm2,-⟩:(QuoGotR N (N+1) q g) w' (c 5):=R.facts 5 (R.closed 6 hm 5 (by simp [TR.D22]))
           obtain⟨u1,u2,em',ex⟩:∃ u1 u2:Value,c 6=.tuple #[u1,u2]∧c 8=u2:=R.facts 8 hx
           rw [em,ec] at em'
           simp only [Value.tuple.injEq,Array.mk.injEq,List.cons.injEq,and_true] at em'
           obtain⟨rfl,rfl⟩:=em'
           obtain⟨s,hs⟩:=TR.rm_of nm2
           rw [hs] at ex
           obtain⟨B,ea,hC,hB,hG,r,hb⟩:TR.Made w' G _ 12 (c 10):=R.facts 10 (hdep ⟨10,.data⟩ (by simp) rfl)
           have R':=R.store hn (fun j hj=>by simp [TR.D22] at hj;rcases hj with rfl | rfl <;> exact hdep ⟨_,.data⟩ (by simp) rfl) (TR.FA22.keep hst) s hC hB hG hb (fun W' G' h=>show ∃ r:Rm,upd c 12 undef 8=r.v∧TR.Stored W' G' _ 12 (upd c 12 undef 10) r from⟨s,by rw [ze _ _ (by decide)];exact ex,by rw [ze _ _ (by decide),ea];exact h⟩)
           obtain⟨b0,b1,b2,b3⟩:=hb.box
           obtain⟨sn,so,sl,sc⟩:=s
           dsimp only at *
           clear R em ec
           rw [ea,ex]
           go_simp
           exact hK.out _ _ ⟨_,_,by simp [upd,ea,ex],R'⟩
         ·rintro L a' w3 ⟨c3,G,rfl,R⟩ hall
          obtain⟨⟨tn,to,tl,tc⟩,r2'',B6,B7,⟨vq,vr,t,r',ec,N1,-,hps,hleft⟩,e13,e14,l1,l2,s6,s7,d12,x6,-,hb3⟩:=R.fin22 (fun i hi=>hall i hi)
          simp only [Value.tuple.injEq,Array.mk.injEq,List.cons.injEq,and_true] at ec
          obtain⟨rfl,-⟩:=ec
          have HT:=hide (Left.exact HGG.out.1 HGG.out.2.2.2 hps hleft)
          have NX3:=hide (NX2.out.below hb3 zL);have NY3:=hide (NY2.out.below hb3 zL);have NS3:=hide (NS2.out.below hb3 zL)
          have NT3:=hide N1
          have z0:=(hb3.cell (p:=⟨B2,0,none⟩) t2).trans y20
          have z1:=(hb3.cell (p:=⟨B2,1,none⟩) t2).trans y21
          have z2:=(hb3.cell (p:=⟨B3,0,none⟩) t3).trans y30
          have z3:=(hb3.cell (p:=⟨B3,1,none⟩) t3).trans y31
          have z4:=(hb3.cell (p:=⟨B4,0,none⟩) s4).trans x40
          have z5:=(hb3.cell (p:=⟨B4,1,none⟩) s4).trans x41
          obtain⟨z6,z7,-,-⟩:=x6.box
          have kB4:=zT s4 hb3.size
          have hL6:w2.heap.size≤B6:=l1
          have HW3:=hide (HW2.out.trans (hb3.mono HW2.out.size))
          have hS2:=HW2.out.size
          have hsb4:B4≠w.heap.size:=by omega
          have hsb6:B6≠w.heap.size:=by omega
          clear R hall hst N1 hps hleft l1 l2 d12 hb3 NV2 NG2 NX2 NY2 NS2 HW2 lv2 u6 u7 y10 y11 y20 y21 y30 y31 x40 x41 t1 t2 t3 s4 s5 s7 x6
          dsimp only at *
          rw [e13,e14]
          clear e13 e14
          have HL:Hid (r.length=zs.length):=HRL.out.trans HZL.out.symm
          go_wp2_with fail
          refine(zbM w3 _ _ _ _ x y r zs (N+1) N (N+1) N (2*N+2) (by exact NX3.out) (by exact HPR.out.below HW3.out zL) (by exact NY3.out) (by exact HVR.out.below HW3.out zL) HL.out (by have:=HRL.out;omega) (by omega) (by omega) (by omega)).mono ?_
          rintro e w4 ⟨v4,rfl,hr4,hb4⟩
          have hln:(List.zipWith (fun p q=>x*p+y*q) r zs).length=r.length:=zF _ _ _ HL.out
          obtain⟨b4,cap4,rfl⟩:=hr4.form (by rw [hln];have:=HRL.out;omega)
          have HW4:=hide (HW3.out.trans (hb4.mono HW3.out.size))
          have HI4:=hide (HI.out.st.later HW4.out)
          have hset:=HI4.out.set hcl (hr4.mono (show 2*N+2+1≤2*N+8 by omega))
          have c4:=(HW4.out.cell (p:=⟨w.heap.size,cc,none⟩) hlt).trans pcell
          have hfz:=HI4.out.thaw cc
          obtain⟨cs4,hcs4⟩:=HI4.out.blk
          have k4:=(hb4.cell (p:=⟨B4,0,none⟩) kB4).trans z4
          have k5:=(hb4.cell (p:=⟨B4,1,none⟩) kB4).trans z5
          have k6:=(hb4.cell (p:=⟨B6,0,none⟩) s6).trans z6
          have k7:=(hb4.cell (p:=⟨B6,1,none⟩) s6).trans z7
          have NS4:=hide ((NS3.out.below hb4 zL).setTyped hcs4 (by decide) cc (.slice (some ⟨b4,0,none⟩) (List.zipWith (fun p q=>x*p+y*q) r zs).length cap4))
          have NT4:=hide ((NT3.out.below hb4 zL).setTyped hcs4 (by decide) cc (.slice (some ⟨b4,0,none⟩) (List.zipWith (fun p q=>x*p+y*q) r zs).length cap4))
          have HP4:=hide ((HPR.out.below HW4.out zL).setTyped hcs4 (by decide) (by decide) cc (.slice (some ⟨b4,0,none⟩) (List.zipWith (fun p q=>x*p+y*q) r zs).length cap4))
          have HV4:=hide ((HVR.out.below HW4.out zL).setTyped hcs4 (by decide) (by decide) cc (.slice (some ⟨b4,0,none⟩) (List.zipWith (fun p q=>x*p+y*q) r zs).length cap4))
          have HSET:=hide hset
          have hks4:B4<w4.heap.size:=zT kB4 hb4.size
          have hks6:B6<w4.heap.size:=zT s6 hb4.size
          have HLN:=hide hln
          generalize hts:List.zipWith (fun p q=>x*p+y*q) r zs=ts at *
          have HTS:=hide hts
          clear hr4 hb4 hset hcs4 z0 z1 z2 z3 z4 z5 z6 z7 NX3 NY3 NS3 NT3 HPR HVR HI4 hln hts
          go_wp2_with fail
          generalize hW5:w4.setCell ⟨w.heap.size,cc,none⟩ (.slice (some ⟨b4,0,none⟩) ts.length cap4)=w5 at *
          have hs5:w5.heap.size=w4.heap.size:=by rw [← hW5];simp
          have m4:w5.cell? ⟨B4,0,none⟩=some (.int .i64 sn):=by rw [← hW5];exact(World.cell?_setCell_other (h:=fun e=>by simp at e <;> omega) ..).trans k4
          have m5:w5.cell? ⟨B4,1,none⟩=some (.slice so sl sc):=by rw [← hW5];exact(World.cell?_setCell_other (h:=fun e=>by simp at e <;> omega) ..).trans k5
          have m6:w5.cell? ⟨B6,0,none⟩=some (.int .i64 tn):=by rw [← hW5];exact(World.cell?_setCell_other (h:=fun e=>by simp at e <;> omega) ..).trans k6
          have m7:w5.cell? ⟨B6,1,none⟩=some (.slice to tl tc):=by rw [← hW5];exact(World.cell?_setCell_other (h:=fun e=>by simp at e <;> omega) ..).trans k7
          have j4:B4<w5.heap.size:=by omega
          have j6:B6<w5.heap.size:=by omega
          clear hW5 k4 k5 k6 k7 c4 hfz hs5
          go_region_held3 (fun w'=>w'.cell? ⟨B4,0,none⟩=some (.int .i64 sn)∧w'.cell? ⟨B4,1,none⟩=some (.slice so sl sc)∧w'.cell? ⟨B6,0,none⟩=some (.int .i64 tn)∧w'.cell? ⟨B6,1,none⟩=some (.slice to tl tc)) (go_keep)
           (first
            |(go_at_call 60;refine(zaC _ _ t (N+6) (by exact NT4.out)).mono ?_;rintro e w6 ⟨r6,rfl,hr6,hb6⟩;have hb6':Below w5.heap.size w5 w6:=((Below.refl w5.heap.size w5).drew).trans hb6;have o4:=(hb6'.cell (p:=⟨B4,0,none⟩) j4).trans m4;have o5:=(hb6'.cell (p:=⟨B4,1,none⟩) j4).trans m5;have o6:=(hb6'.cell (p:=⟨B6,0,none⟩) j6).trans m6;have o7:=(hb6'.cell (p:=⟨B6,1,none⟩) j6).trans m7;have NM6:=hide hr6;have HW6:=hide hb6';have i4:B4<w6.heap.size:=zT j4 hb6'.size;have i6:B6<w6.heap.size:=zT j6 hb6'.size;clear hb6 hb6' hr6)
            |(go_at_call 85;refine(zbM w6 _ _ _ _ s (-t) zs r (N+6) N (N+6) N (2*N+7) (by exact NS4.out.below HW6.out zL) (by exact HV4.out.below HW6.out zL) (by exact NM6.out) (by exact HP4.out.below HW6.out zL) HL.out.symm (by have:=HZL.out;omega) (by omega) (by omega) (by omega)).mono ?_;rintro e w7 ⟨v7,rfl,hr7,hb7⟩;have n4:=(hb7.cell (p:=⟨B4,0,none⟩) i4).trans o4;have n5:=(hb7.cell (p:=⟨B4,1,none⟩) i4).trans o5;have n6:=(hb7.cell (p:=⟨B6,0,none⟩) i6).trans o6;have n7:=(hb7.cell (p:=⟨B6,1,none⟩) i6).trans o7;have HR7:=hide hr7;have HW7:=hide (HW6.out.trans (hb7.mono HW6.out.size));clear hb7 hr7))
          have HN:Hid (InR w w7 w.heap.size n a0 k (cc+1) rows (putRow R cc ts) us (List.zipWith (fun p q=>s*p+-t*q) zs r) v7):=by
           have hI:=HI.out
           obtain⟨hgp,hge,-,-⟩:=HGG.out
           have hza:∀ j,j<cc→ts.getD j 0=0:=fun j hj=>by
            rw [← HTS.out,zy _ _ _ HL.out j (by have:=HRL.out;omega),hI.ech.zero cc r HRC.out j hj,hI.zero j hj];omega
           have hzb:∀ j,j<cc+1→(List.zipWith (fun p q=>s*p+-t*q) zs r).getD j 0=0:=fun j hj=>by
            rw [zy _ _ _ HL.out.symm j (by have:=HZL.out;omega)]
            by_cases h5:j<cc
            ·rw [hI.ech.zero cc r HRC.out j h5,hI.zero j h5];omega
            ·obtain rfl:j=cc:=by omega
             rw [HPP.out,HQQ.out]
             have:s*q=t*p:=by rw [HS.out,HT.out,← Int.mul_assoc,← Int.mul_assoc,Int.mul_comm s t]
             rw [this,Int.neg_mul];omega
           have hpk:ts.getD cc 0=g:=by
            rw [← HTS.out,zy _ _ _ HL.out cc (by have:=HRL.out;omega),HPP.out,HQQ.out];exact hge.symm
           have hst:=(HSET.out.later HW7.out).mono (D':=fun a=>if a<cc+1 then dT a0 (k+1+cn (putRow R cc ts) a) else dT a0 (k+cn (putRow R cc ts) a)) fun i _=>by
            rw [zdc HRC.out]
            by_cases h5:i=cc
            ·rw [if_pos h5,if_pos (by omega),h5,show k+1+cn R cc=k+cn R cc+1 by omega,HDS.out];exact Nat.le_refl _
            ·rw [if_neg h5]
             by_cases h6:i<cc
             ·rw [if_pos h6,if_pos (by omega)];exact Nat.le_refl _
             ·rw [if_neg h6,if_neg (by omega)];exact Nat.le_refl _
           have hal:=zef (R:=R) HRC.out HRL.out HZL.out hgp hge HS.out HT.out
           rw [HTS.out] at hal
           refine hide ⟨hst,hI.ech.set (HLN.out.trans HRL.out) hza hcl,hI.nz.set (by rw [hpk];omega),hzb,?_,(zF _ _ _ HL.out.symm).trans HZL.out,hal.trans hI.gen,by rw [zdc HRC.out];exact hI.cnt⟩
           rw [zdc HRC.out,zhA HRC.out,show k+(cn R cc+1)=k+cn R cc+1 by omega,HDS.out]
           exact HR7.out.mono (by omega)
          clear n4 n5 n6 n7 o4 o5 o6 o7 m4 m5 m6 m7 HI HSET HR7 NM6 NS4 NT4 HP4 HV4 HGG HS HT
          go_wp2
          go_roundw
          case rel=>exact⟨cc+1,by omega,by go_num,_,_,HN⟩
          case measure=>simp [intOf];omega
    ·obtain rfl:cc=n:=by omega
     have HN:=hide (HNEXT.out _ _ HI.out.last)
     clear HI
     go_wp2
     go_roundw
     case rel=>exact⟨k+1,by omega,by go_num,_,HN⟩
     case measure=>simp [intOf];omega
  ·obtain rfl:k=ms.length:=by omega
   have HO':Hid (OutR w wr w.heap.size n a0 ms.length rows (InL ms)):=by
    have:=HO.out
    rwa [List.take_length] at this
   have HDD:=hide (Nat.le_trans (zan (a:=a0) (show ms.length+min ms.length n≤ms.length+min ms.length n+1 by omega)) HDB.out)
   clear HO HDB
   go_upto_region 18 with fail
   go_cut [17] from 23 (fun v wc=>v=.slice none 0 0∧wc=wr)
   case first=>
    go_wp2
    go_meet
    case rel=>exact⟨rfl,rfl⟩
   case rest=>
   obtain⟨rfl,rfl⟩:=hcut
   apply_assumption
   exact ziP w _ n a0 ms.length _ rows (InL ms) HO'.out hn1 hn rfl HDD.out _ _ _ _ _ _ _ _ _ _ _ _ _ _ _ _ _ _ _ _ _ _ _ _ _ _ _ _ _ _ _ _ _ _ _ _ _ _ _ _ _ _ _ _ _ _ _ _ _ _ _ _ _ _ _ _ _ _ _ _ _ _ _ _ _ _ _ _ _ _ _ _ _ _ _ _ _ _ _ _ _ _ _ _ _ _ _ _ _ _ _ _ _ _ _ _ _ _ _ _ _ _ _ _ _ _ _ _ _ _ _ _ _ _ _ _ _ _ _ _ _ _ _ _ _ _ _ _ _ _ _ _ _ _ _ _ _ _ _ _ _ _ _ _ _ _ _ _ _ _ _ _ _ _ _ _ _ _ _ _ _ _ _ _
theorem MatR.mono {w:World}{v:Value}{zss:List (List Int)}{n m:Nat}(h:MatR w v zss n)(hm:n≤m):MatR w v zss m:=by
 obtain⟨ao,cap,hv,h3,h4⟩:=h
 refine⟨ao,cap,hv,h3,fun h0=>?_⟩
 obtain⟨b,e,hlt,hc⟩:=h4 h0
 refine⟨b,e,hlt,fun i zs hi=>?_⟩
 obtain⟨u,h5,h6⟩:=hc i zs hi
 exact⟨u,h5,h6.mono hm⟩
theorem zif {P Q c:Nat}(h:P≤Q):eB P c≤eB Q c:=by unfold eB;exact Nat.add_le_add h (Nat.mul_le_mul_left _ (by omega))
theorem ziQ (w:World)(v:Value)(ms:List (List Int))(n a0:Nat)(hv:MatR w v ms a0)(hr:∀ us∈ms,us.length=n)(hn1:1≤n)(hn:n≤16)(hm:ms.length≤100)(hB:dT a0 (ms.length+n+1)≤1000000000):
  Calls Tryz.prog 33 #[v,.int .i64 (n:Int)] w (fun e w'=>∃ u hs p,e=.returned u∧MatR w' u hs (eB (dT a0 (ms.length+n)+7) n)∧hs.length≤n∧FormL n hs p∧Alikes n (InL hs) (InL ms)∧Below w.heap.size w w'):=
 (ziR w v ms n a0 hv hr hn1 (by omega) hm (Nat.le_trans (zan (by omega)) hB)).mono fun _ _ ⟨u,hs,p,h1,h2,h3⟩=>⟨u,hs,p,h1,h2.mono (zif (Nat.add_le_add_right (zan (by omega)) 7)),h3⟩
end Go.Proofs.YtdedolkgcdlmeaaGreatDoor
