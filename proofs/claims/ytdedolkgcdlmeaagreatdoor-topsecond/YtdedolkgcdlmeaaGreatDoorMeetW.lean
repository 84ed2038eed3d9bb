import Derived.Test.YtdedolkgcdlmeaaGreatDoorModL
import Derived.Test.YtdedolkgcdlmeaaGreatDoorDigs
namespace Go.Proofs.YtdedolkgcdlmeaaGreatDoor
open Go.RowKit Limbs
def meetD:Nat→List Nat
 | 1=>[0]
 | 2=>[1]
 | 4=>[3]
 | 6=>[5]
 | 7=>[4,6]
 | 9=>[8]
 | 11=>[10]
 | 12=>[11]
 | 13=>[12]
 | 14=>[9,13]
 | 15=>[7,14]
 | 16=>[2,15]
 | 18=>[16,17]
 | _=>[]
def meetK (A B n:Nat)(u v:Value)(l:Nat):Nat→Option Value
 | 0=>some (.pointer (some ⟨A,0,none⟩))
 | 1=>some (.int .i64 (n:Int))
 | 2=>some (.int .i64 (2 *(n:Int)))
 | 3=>some (.pointer (some ⟨A,1,none⟩))
 | 4=>some u
 | 5=>some (.pointer (some ⟨A,1,none⟩))
 | 6=>some u
 | 8=>some (.pointer (some ⟨B,1,none⟩))
 | 9=>some v
 | 10=>some (.pointer (some ⟨B,1,none⟩))
 | 11=>some v
 | 12=>some (.int .i64 (l:Int))
 | _=>none
def meetS (n nv:Nat)(hs ks:List (List Int))(C:Nat)(i:Nat)(c:Nat→Value)(W:World):Prop:=
 match i with
 | 7=>MatN W (c 7) (besL n hs hs) nv
 | 13=>MatN W (c 13) (List.replicate ks.length []) nv
 | 14=>MatN W (c 14) (besL n ks (List.replicate ks.length [])) nv
 | 15=>∃ rb,c 15=.slice (some ⟨rb,0,none⟩) 2 2∧TwoM W rb (c 7) (c 14) (besL n hs hs) (besL n ks (List.replicate ks.length [])) nv
 | 16=>∃ u ts p,c 16=.agg #[.int .i64 ((n+n:Nat):Int),u]∧MatN W u ts ((n+n) * nv+2)∧FormL (n+n) ts p∧Alikes (n+n) (InL ts) (InL (wideL n hs ks))
 | 17=>∃ B,c 17=.pointer (some ⟨B,0,none⟩)∧C≤B∧B < W.heap.size∧Box W B (.int .i64 0) (.slice none 0 0)
 | _=>True
theorem meetStays (n nv:Nat)(hs ks:List (List Int))(C:Nat):Stays meetD (meetS n nv hs ks C) where
 later:=fun i c W W' hb h=>by
  unfold meetS at h ⊢
  split at h
  ·exact h.below hb zL
  ·exact h.below hb zL
  ·exact h.below hb zL
  ·obtain⟨rb,e,h⟩:=h
   exact⟨rb,e,h.below hb⟩
  ·obtain⟨u,ts,p,e,h,r⟩:=h
   exact⟨u,ts,p,e,h.below hb zL,r⟩
  ·obtain⟨B,e,h1,h2,h3⟩:=h
   exact⟨B,e,h1,zT h2 hb.size,h3.later hb h2⟩
  ·trivial
 other:=fun i j c v W hne hm h=>by
  unfold meetS at h ⊢
  split at h
  ·rw [zc _ _ hne];exact h
  ·rw [zc _ _ hne];exact h
  ·rw [zc _ _ hne];exact h
  ·simp [meetD] at hm
   rw [zc _ _ hne,zc _ _ (fun e=>hm.1 e.symm),zc _ _ (fun e=>hm.2 e.symm)];exact h
  ·rw [zc _ _ hne];exact h
  ·rw [zc _ _ hne];exact h
  ·trivial
def meetFin (n nv:Nat)(hs ks:List (List Int))(w:World)(c:Nat→Value)(W:World):Prop:=
 ∃ B u ts p,c 17=.pointer (some ⟨B,0,none⟩)∧BoxL W B (.int .i64 ((n+n:Nat):Int)) u∧w.heap.size≤B∧MatN W u ts ((n+n) * nv+2)∧FormL (n+n) ts p∧Alikes (n+n) (InL ts) (InL (wideL n hs ks))∧Below w.heap.size w W
theorem ziT (w:World)(rb:Nat)(va vb:Value)(xs ys:List (List Int))(n nv:Nat)(i:Int)(hi:i=(n:Int))(h:TwoM w rb va vb xs ys nv)(hl:xs.length+ys.length≤12)(hn1:1≤n)(hn:n≤8)(hr:∀ us∈xs ++ ys,us.length=n)(hN:nbK n (n * nv+2) nv n≤100000):
  Calls Tryz.prog 81 #[.int .i64 i,.slice (some ⟨rb,0,none⟩) 2 2] w fun e w'=>GenPost w n nv (xs ++ ys) e w':=by
 subst hi
 exact zds w rb va vb xs ys n nv h hl hn1 hn hr hN
theorem zlL (n:Nat)(h:n≤4):IntKind.i64.wrap (2 *(n:Int))=2 *(n:Int):=(by decide:∀ n:Nat,n < 5→IntKind.i64.wrap (2 *(n:Int))=2 *(n:Int)) n (by omega)
def MeetPost (w:World)(n nv:Nat)(hs ks:List (List Int))(e:Ending)(w':World):Prop:=
 ∃ v ms,e=.returned (.tuple #[v,.nilIface])∧LatN w' v n ms ((n+n) * nv+2)∧Below w.heap.size w w'∧Both n ms hs ks
set_option linter.unusedSimpArgs false in
set_option maxRecDepth 100000 in
set_option maxHeartbeats 6400000 in
theorem zjN (w:World)(va vb:Value)(n nv:Nat)(hs ks:List (List Int))(ha:LatN w va n hs nv)(hb:LatN w vb n ks nv)(h1:1≤n)(h4:n≤4)(hN:nbK (n+n) ((n+n) * nv+2) nv (n+n)≤100000):
  Calls Tryz.prog 31 #[va,vb] w fun e w'=>MeetPost w n nv hs ks e w':=by
 have HA:=hide ha;have HB:=hide hb;have HN:=hide hN
 obtain⟨⟨u,rfl,hu⟩,p,hF⟩:=ha
 obtain⟨⟨v,rfl,hv⟩,p',hF'⟩:=hb
 have HU0:=hide hu;have HV0:=hide hv
 have hl1:=hF.short
 have hl2:=hF'.short
 have HLH:=hide hF.len;have HLK:=hide hF'.len
 have HWR:Hid (∀ us∈besL n hs hs ++ besL n ks (List.replicate ks.length []),us.length=n+n):=fun us hus=>by
  rcases List.mem_append.1 hus with hh | hh
  ·exact zey hF.len (fun r hr=>Nat.le_of_eq (hF.len r hr)) us hh
  ·exact zey hF'.len (fun r hr=>by rw [(List.mem_replicate.1 hr).2];exact Nat.zero_le _) us hh
 obtain⟨uo,ucap,rfl,-,-⟩:=hu
 obtain⟨vo,vcap,rfl,-,-⟩:=hv
 clear hF hF' hN
 have HX:=hide (zaH w (.int .i64 (n:Int)) (.slice uo hs.length ucap) (.int .i64 (n:Int)) (.slice vo ks.length vcap) 55 55)
 have HY:=hide (zj ((w.alloc (.cells #[.int .i64 (n:Int),.slice uo hs.length ucap] 55)).alloc (.cells #[.int .i64 (n:Int),.slice vo ks.length vcap] 55)) (.int .i64 0) (.slice none 0 0) 55 (w.heap.size+1+1) (by simp))
 have HZ:=hide ((Below.refl (w.heap.size+2) ((w.alloc (.cells #[.int .i64 (n:Int),.slice uo hs.length ucap] 55)).alloc (.cells #[.int .i64 (n:Int),.slice vo ks.length vcap] 55))).alloc (by simp) (.cells #[.int .i64 0,.slice none 0 0] 55))
 have HC:=hide (HX.out.1.later HZ.out (by omega))
 have HD:=hide (HX.out.2.1.later HZ.out (by omega))
 have HB0:=hide (HX.out.2.2.1.trans (HZ.out.mono (by omega)))
 have HSZ:Hid (w.heap.size+1+1 < (((w.alloc (.cells #[.int .i64 (n:Int),.slice uo hs.length ucap] 55)).alloc (.cells #[.int .i64 (n:Int),.slice vo ks.length vcap] 55)).alloc (.cells #[.int .i64 0,.slice none 0 0] 55)).heap.size):=by show _ < _;simp
 obtain⟨c0,c1,z0,z1⟩:=HC.out
 obtain⟨d0,d1,y0,y1⟩:=HD.out
 go_enter Tryz.func31,Tryz.ntmps31
 go_wp2_with fail
 clear c0 c1 z0 z1 d0 d1 y0 y1 HX HZ
 generalize (((w.alloc (.cells #[.int .i64 (n:Int),.slice uo hs.length ucap] 55)).alloc (.cells #[.int .i64 (n:Int),.slice vo ks.length vcap] 55)).alloc (.cells #[.int .i64 0,.slice none 0 0] 55))=W0 at *
 refine(zcX W0 _ _ n nv nv hs ks (by exact HA.out.below HB0.out) (by exact HB.out.below HB0.out) h1 h4).mono ?_
 rintro e w1 ⟨rfl,hb1⟩
 have HB1:=hide (HB0.out.trans (hb1.mono HB0.out.size))
 have X2:=hide (HC.out.later hb1 (by have:=HSZ.out;omega))
 have X3:=hide (HD.out.later hb1 (by have:=HSZ.out;omega))
 have HE:=hide (HY.out.later hb1 HSZ.out)
 have HS1:=hide (zT HSZ.out hb1.size)
 have HU:=hide (HU0.out.below HB1.out zL);have HV:=hide (HV0.out.below HB1.out zL)
 have HL2:Hid (w.heap.size < w1.heap.size):=by have:=HS1.out;show _ < _;omega
 have HL3:Hid (w.heap.size+1 < w1.heap.size):=by have:=HS1.out;show _ < _;omega
 clear hb1 HC HD HY HSZ HB0 HU0 HV0 HA HB
 go_wp2_with fail
 refine zag (by kernel_rfl) (by kernel_rfl) (fun L a' w'=>∃ c:Nat→Value,a'=(⟨#[.agg #[.int .i64 (n:Int),.slice uo hs.length ucap],.agg #[.int .i64 (n:Int),.slice vo ks.length vcap],.pointer (some ⟨w.heap.size,0,none⟩),.pointer (some ⟨w.heap.size+1,0,none⟩),.pointer (some ⟨w.heap.size+1+1,0,none⟩),.nilIface,.nilIface,c 17,.agg #[.int .i64 (n:Int),.slice uo hs.length ucap],.agg #[.int .i64 (n:Int),.slice vo ks.length vcap],.nilIface,.nilIface,.bool false,undef,undef,c 0,c 1,c 2,c 3,c 4,c 5,c 6,c 7,c 8,c 9,c 10,c 11,c 12,c 13,c 14,c 15,c 16,undef,undef,undef,undef,undef,undef,undef,undef],[]⟩:Act)∧FSx meetD (meetK (w.heap.size) (w.heap.size+1) n (.slice uo hs.length ucap) (.slice vo ks.length vcap) ks.length) (meetS n nv hs ks w1.heap.size) (meetFin n nv hs ks w1) (w1) 18 L c w') ⟨fun _=>undef,rfl,FSx.start _ _ _ _⟩ ?_ ?_
 ·rintro L a' w' i o ⟨c,rfl,R0⟩ ho hn hdep K hK
  have hi:i < 19:=(Array.getElem?_eq_some_iff.1 ho).1
  obtain⟨hm,R⟩:=R0.pre (by omega) hn
  clear R0
  rcases(by omega:i=0∨i=1∨i=2∨i=3∨i=4∨i=5∨i=6∨i=7∨i=8∨i=9∨i=10∨i=11∨i=12∨i=13∨i=14∨i=15∨i=16∨i=17∨i=18) with rfl | rfl | rfl | rfl | rfl | rfl | rfl | rfl | rfl | rfl | rfl | rfl | rfl | rfl | rfl | rfl | rfl | rfl | rfl
  ·obtain rfl:=Option.some.inj ho
   have R':=R.made (meetStays n nv hs ks _) hn (fun j hj=>absurd hj (by simp [meetD])) (Below.refl _ _) (v:=(.pointer (some ⟨w.heap.size,0,none⟩))) (fun u h=>Option.some.inj h) (by simp only [meetS])
   clear R
   go_simp
   exact hK.out _ _ ⟨_,by simp [upd],R'.next (by decide) hm⟩
  ·obtain rfl:=Option.some.inj ho
   have e0:c 0=(.pointer (some ⟨w.heap.size,0,none⟩)):=R.plain 0 _ (hdep ⟨0,.data⟩ (by simp) rfl) rfl
   obtain⟨p0,p1,-,-⟩:=X2.out.later R.below HL2.out
   have R':=R.made (meetStays n nv hs ks _) hn (fun j hj=>by simp [meetD] at hj;subst hj;exact hdep ⟨_,.data⟩ (by simp) rfl) (Below.refl _ _) (v:=(.int .i64 (n:Int))) (fun u h=>Option.some.inj h) (by simp only [meetS])
   clear R
   rw [e0]
   go_simp
   exact hK.out _ _ ⟨_,by simp [upd,e0],R'.next (by decide) hm⟩
  ·obtain rfl:=Option.some.inj ho
   have e1:c 1=(.int .i64 (n:Int)):=R.plain 1 _ (hdep ⟨1,.data⟩ (by simp) rfl) rfl
   have R':=R.made (meetStays n nv hs ks _) hn (fun j hj=>by simp [meetD] at hj;subst hj;exact hdep ⟨_,.data⟩ (by simp) rfl) (Below.refl _ _) (v:=(.int .i64 (2 *(n:Int)))) (fun u h=>Option.some.inj h) (by simp only [meetS])
   clear R
   rw [e1]
   go_simp
   exact hK.out _ _ ⟨_,by simp [upd,e1,zlL n h4],R'.next (by decide) hm⟩
  ·obtain rfl:=Option.some.inj ho
   have R':=R.made (meetStays n nv hs ks _) hn (fun j hj=>absurd hj (by simp [meetD])) (Below.refl _ _) (v:=(.pointer (some ⟨w.heap.size,1,none⟩))) (fun u h=>Option.some.inj h) (by simp only [meetS])
   clear R
   go_simp
   exact hK.out _ _ ⟨_,by simp [upd],R'.next (by decide) hm⟩
  ·obtain rfl:=Option.some.inj ho
   have e3:c 3=(.pointer (some ⟨w.heap.size,1,none⟩)):=R.plain 3 _ (hdep ⟨3,.data⟩ (by simp) rfl) rfl
   obtain⟨p0,p1,-,-⟩:=X2.out.later R.below HL2.out
   have R':=R.made (meetStays n nv hs ks _) hn (fun j hj=>by simp [meetD] at hj;subst hj;exact hdep ⟨_,.data⟩ (by simp) rfl) (Below.refl _ _) (v:=(.slice uo hs.length ucap)) (fun u h=>Option.some.inj h) (by simp only [meetS])
   clear R
   rw [e3]
   go_simp
   exact hK.out _ _ ⟨_,by simp [upd,e3],R'.next (by decide) hm⟩
  ·obtain rfl:=Option.some.inj ho
   have R':=R.made (meetStays n nv hs ks _) hn (fun j hj=>absurd hj (by simp [meetD])) (Below.refl _ _) (v:=(.pointer (some ⟨w.heap.size,1,none⟩))) (fun u h=>Option.some.inj h) (by simp only [meetS])
   clear R
   go_simp
   exact hK.out _ _ ⟨_,by simp [upd],R'.next (by decide) hm⟩
  ·obtain rfl:=Option.some.inj ho
   have e5:c 5=(.pointer (some ⟨w.heap.size,1,none⟩)):=R.plain 5 _ (hdep ⟨5,.data⟩ (by simp) rfl) rfl
   obtain⟨p0,p1,-,-⟩:=X2.out.later R.below HL2.out
   have R':=R.made (meetStays n nv hs ks _) hn (fun j hj=>by simp [meetD] at hj;subst hj;exact hdep ⟨_,.data⟩ (by simp) rfl) (Below.refl _ _) (v:=(.slice uo hs.length ucap)) (fun u h=>Option.some.inj h) (by simp only [meetS])
   clear R
   rw [e5]
   go_simp
   exact hK.out _ _ ⟨_,by simp [upd,e5],R'.next (by decide) hm⟩
  ·obtain rfl:=Option.some.inj ho
   have e4:c 4=(.slice uo hs.length ucap):=R.plain 4 _ (hdep ⟨4,.data⟩ (by simp) rfl) rfl
   have e6:c 6=(.slice uo hs.length ucap):=R.plain 6 _ (hdep ⟨6,.data⟩ (by simp) rfl) rfl
   rw [e4,e6]
   go_simp
   refine(zez w' _ _ n nv hs hs (HU.out.below R.below zL) (HU.out.below R.below zL) HLH.out (fun r hr=>Nat.le_of_eq (HLH.out r hr)) rfl h1 h4 (by omega)).mono ?_
   rintro e w2 ⟨u7,rfl,m7,hb⟩
   have R':=R.made (meetStays n nv hs ks _) hn (fun j hj=>by simp [meetD] at hj;rcases hj with rfl | rfl <;> exact hdep ⟨_,.data⟩ (by simp) rfl) hb (v:=u7) (fun u h=>by cases h) (by show meetS n nv hs ks w1.heap.size 7 _ _;simp only [meetS,zd];exact m7)
   clear R
   clear m7 hb
   go_wp2_with fail
   exact hK.out _ _ ⟨_,by simp [upd,e4,e6],R'.next (by decide) hm⟩
  ·obtain rfl:=Option.some.inj ho
   have R':=R.made (meetStays n nv hs ks _) hn (fun j hj=>absurd hj (by simp [meetD])) (Below.refl _ _) (v:=(.pointer (some ⟨w.heap.size+1,1,none⟩))) (fun u h=>Option.some.inj h) (by simp only [meetS])
   clear R
   go_simp
   exact hK.out _ _ ⟨_,by simp [upd],R'.next (by decide) hm⟩
  ·obtain rfl:=Option.some.inj ho
   have e8:c 8=(.pointer (some ⟨w.heap.size+1,1,none⟩)):=R.plain 8 _ (hdep ⟨8,.data⟩ (by simp) rfl) rfl
   obtain⟨p0,p1,-,-⟩:=X3.out.later R.below HL3.out
   have R':=R.made (meetStays n nv hs ks _) hn (fun j hj=>by simp [meetD] at hj;subst hj;exact hdep ⟨_,.data⟩ (by simp) rfl) (Below.refl _ _) (v:=(.slice vo ks.length vcap)) (fun u h=>Option.some.inj h) (by simp only [meetS])
   clear R
   rw [e8]
   go_simp
   exact hK.out _ _ ⟨_,by simp [upd,e8],R'.next (by decide) hm⟩
  ·obtain rfl:=Option.some.inj ho
   have R':=R.made (meetStays n nv hs ks _) hn (fun j hj=>absurd hj (by simp [meetD])) (Below.refl _ _) (v:=(.pointer (some ⟨w.heap.size+1,1,none⟩))) (fun u h=>Option.some.inj h) (by simp only [meetS])
   clear R
   go_simp
   exact hK.out _ _ ⟨_,by simp [upd],R'.next (by decide) hm⟩
  ·obtain rfl:=Option.some.inj ho
   have e10:c 10=(.pointer (some ⟨w.heap.size+1,1,none⟩)):=R.plain 10 _ (hdep ⟨10,.data⟩ (by simp) rfl) rfl
   obtain⟨p0,p1,-,-⟩:=X3.out.later R.below HL3.out
   have R':=R.made (meetStays n nv hs ks _) hn (fun j hj=>by simp [meetD] at hj;subst hj;exact hdep ⟨_,.data⟩ (by simp) rfl) (Below.refl _ _) (v:=(.slice vo ks.length vcap)) (fun u h=>Option.some.inj h) (by simp only [meetS])
   clear R
   rw [e10]
   go_simp
   exact hK.out _ _ ⟨_,by simp [upd,e10],R'.next (by decide) hm⟩
  ·obtain rfl:=Option.some.inj ho
   have e11:c 11=(.slice vo ks.length vcap):=R.plain 11 _ (hdep ⟨11,.data⟩ (by simp) rfl) rfl
   have R':=R.made (meetStays n nv hs ks _) hn (fun j hj=>by simp [meetD] at hj;subst hj;exact hdep ⟨_,.data⟩ (by simp) rfl) (Below.refl _ _) (v:=(.int .i64 (ks.length:Int))) (fun u h=>Option.some.inj h) (by simp only [meetS])
   clear R
   rw [e11]
   go_simp
   exact hK.out _ _ ⟨_,by simp [upd,e11],R'.next (by decide) hm⟩
  ·obtain rfl:=Option.some.inj ho
   have e12:c 12=(.int .i64 (ks.length:Int)):=R.plain 12 _ (hdep ⟨12,.data⟩ (by simp) rfl) rfl
   have hmk:=zdV ks.length (by omega) w'
   have hb:=(Below.refl w'.heap.size w').alloc zL (.cells (madeCells #[.slice none 0 0] ks.length) 72)
   have m7:=zjM w' ks.length nv
   have R':=R.made (meetStays n nv hs ks _) hn (fun j hj=>by simp [meetD] at hj;subst hj;exact hdep ⟨_,.data⟩ (by simp) rfl) hb (v:=.slice (some ⟨w'.heap.size,0,none⟩) ks.length ks.length) (fun u h=>by cases h) (by show meetS n nv hs ks w1.heap.size 13 _ _;simp only [meetS,zd];exact m7)
   clear R m7 hb
   rw [e12]
   go_simp
   exact hK.out _ _ ⟨_,by simp [upd,e12],R'.next (by decide) hm⟩
  ·obtain rfl:=Option.some.inj ho
   have e9:c 9=(.slice vo ks.length vcap):=R.plain 9 _ (hdep ⟨9,.data⟩ (by simp) rfl) rfl
   have m13:MatN w' (c 13) (List.replicate ks.length []) nv:=R.spec 13 (hdep ⟨13,.data⟩ (by simp) rfl)
   rw [e9]
   go_simp
   refine(zez w' _ _ n nv ks (List.replicate ks.length []) (HV.out.below R.below zL) m13 HLK.out (fun r hr=>by rw [(List.mem_replicate.1 hr).2];exact Nat.zero_le _) (by rw [List.length_replicate]) h1 h4 (by omega)).mono ?_
   clear m13
   rintro e w2 ⟨u7,rfl,m7,hb⟩
   have R':=R.made (meetStays n nv hs ks _) hn (fun j hj=>by simp [meetD] at hj;rcases hj with rfl | rfl <;> exact hdep ⟨_,.data⟩ (by simp) rfl) hb (v:=u7) (fun u h=>by cases h) (by show meetS n nv hs ks w1.heap.size 14 _ _;simp only [meetS,zd];exact m7)
   clear R
   clear m7 hb
   go_wp2_with fail
   exact hK.out _ _ ⟨_,by simp [upd,e9],R'.next (by decide) hm⟩
  ·obtain rfl:=Option.some.inj ho
   have m7:MatN w' (c 7) (besL n hs hs) nv:=R.spec 7 (hdep ⟨7,.data⟩ (by simp) rfl)
   have m14:MatN w' (c 14) (besL n ks (List.replicate ks.length [])) nv:=R.spec 14 (hdep ⟨14,.data⟩ (by simp) rfl)
   obtain⟨o7,k7,e7,-,-⟩:=id m7
   obtain⟨o14,k14,e14,-,-⟩:=id m14
   rw [e7] at m7
   rw [e14] at m14
   generalize (besL n hs hs).length=l7 at *
   generalize (besL n ks (List.replicate ks.length [])).length=l14 at *
   have hb:=(Below.refl w'.heap.size w').alloc zL (.cells #[.slice o7 l7 k7,.slice o14 l14 k14] 23)
   have HT:TwoM (w'.alloc (.cells #[.slice o7 l7 k7,.slice o14 l14 k14] 23)) w'.heap.size (.slice o7 l7 k7) (.slice o14 l14 k14) (besL n hs hs) (besL n ks (List.replicate ks.length [])) nv:=⟨by simp,by rw [World.cell?_alloc_new];rfl,by rw [World.cell?_alloc_new];rfl,m7.below hb zL,m14.below hb zL⟩
   have R':=R.made (meetStays n nv hs ks _) hn (fun j hj=>by simp [meetD] at hj;rcases hj with rfl | rfl <;> exact hdep ⟨_,.data⟩ (by simp) rfl) hb (v:=.slice (some ⟨w'.heap.size,0,none⟩) 2 2) (fun u h=>by cases h) (by show meetS n nv hs ks w1.heap.size 15 _ _;simp only [meetS];rw [zd,zc _ _ (by decide),zc _ _ (by decide),e7,e14];exact⟨_,rfl,HT⟩)
   clear R m7 m14 hb HT
   rw [e7,e14]
   go_simp
   exact hK.out _ _ ⟨_,by simp [upd,e7,e14],R'.next (by decide) hm⟩
  ·obtain rfl:=Option.some.inj ho
   have e2:c 2=(.int .i64 (2 *(n:Int))):=R.plain 2 _ (hdep ⟨2,.data⟩ (by simp) rfl) rfl
   obtain⟨rb,e15,HT⟩:∃ rb,c 15=.slice (some ⟨rb,0,none⟩) 2 2∧TwoM w' rb (c 7) (c 14) (besL n hs hs) (besL n ks (List.replicate ks.length [])) nv:=R.spec 15 (hdep ⟨15,.data⟩ (by simp) rfl)
   rw [e2,e15]
   go_simp
   refine(ziT w' rb _ _ (besL n hs hs) (besL n ks (List.replicate ks.length [])) (n+n) nv (2 *(n:Int)) (by omega) HT (by rw [zcV _ _ _ rfl,zcV _ _ _ (by rw [List.length_replicate])];omega) (by omega) (by omega) HWR.out HN.out).mono ?_
   clear HT
   rintro e w2 ⟨u7,ts,p7,rfl,m7,hb,f7,a7,-⟩
   rw [zhy HLH.out] at a7
   have R':=R.made (meetStays n nv hs ks _) hn (fun j hj=>by simp [meetD] at hj;rcases hj with rfl | rfl <;> exact hdep ⟨_,.data⟩ (by simp) rfl) hb (v:=.agg #[.int .i64 ((n+n:Nat):Int),u7]) (fun u h=>by cases h) (by show meetS n nv hs ks w1.heap.size 16 _ _;simp only [meetS];rw [zd];exact⟨u7,ts,p7,rfl,m7,f7,a7⟩)
   clear R
   clear m7 hb f7 a7
   go_wp2_with fail
   exact hK.out _ _ ⟨_,by simp [upd,e2,e15],R'.next (by decide) hm⟩
  ·obtain rfl:=Option.some.inj ho
   have hb:=(Below.refl w'.heap.size w').alloc zL (.cells #[.int .i64 0,.slice none 0 0] 55)
   have m7:=zj w' (.int .i64 0) (.slice none 0 0) 55 _ rfl
   have R':=R.made (meetStays n nv hs ks _) hn (fun j hj=>absurd hj (by simp [meetD])) hb (v:=.pointer (some ⟨w'.heap.size,0,none⟩)) (fun u h=>by cases h) (by show meetS n nv hs ks w1.heap.size 17 _ _;simp only [meetS];rw [zd];exact⟨_,rfl,R.below.size,by simp,m7⟩)
   clear R m7 hb
   go_simp
   exact hK.out _ _ ⟨_,by simp [upd],R'.next (by decide) hm⟩
  ·obtain rfl:=Option.some.inj ho
   have t16:=hdep ⟨16,.data⟩ (by simp) rfl
   have t17:=hdep ⟨17,.data⟩ (by simp) rfl
   have t2:=R.closed 16 t16 2 (by simp [meetD])
   have t15:=R.closed 16 t16 15 (by simp [meetD])
   have t7:=R.closed 15 t15 7 (by simp [meetD])
   have t14:=R.closed 15 t15 14 (by simp [meetD])
   have t9:=R.closed 14 t14 9 (by simp [meetD])
   have t13:=R.closed 14 t14 13 (by simp [meetD])
   have t12:=R.closed 13 t13 12 (by simp [meetD])
   have t11:=R.closed 12 t12 11 (by simp [meetD])
   have t10:=R.closed 11 t11 10 (by simp [meetD])
   have t8:=R.closed 9 t9 8 (by simp [meetD])
   have t4:=R.closed 7 t7 4 (by simp [meetD])
   have t6:=R.closed 7 t7 6 (by simp [meetD])
   have t5:=R.closed 6 t6 5 (by simp [meetD])
   have t3:=R.closed 4 t4 3 (by simp [meetD])
   have t1:=R.closed 2 t2 1 (by simp [meetD])
   have t0:=R.closed 1 t1 0 (by simp [meetD])
   have hall:∀ j,j < 18→L.getD j false=true:=fun j hj=>by
    rcases(by omega:j=0∨j=1∨j=2∨j=3∨j=4∨j=5∨j=6∨j=7∨j=8∨j=9∨j=10∨j=11∨j=12∨j=13∨j=14∨j=15∨j=16∨j=17) with rfl | rfl | rfl | rfl | rfl | rfl | rfl | rfl | rfl | rfl | rfl | rfl | rfl | rfl | rfl | rfl | rfl | rfl <;> assumption
   obtain⟨u7,ts,p7,e16,m7,f7,a7⟩:∃ u ts p,c 16=.agg #[.int .i64 ((n+n:Nat):Int),u]∧MatN w' u ts ((n+n) * nv+2)∧FormL (n+n) ts p∧Alikes (n+n) (InL ts) (InL (wideL n hs ks)):=R.spec 16 t16
   obtain⟨B,e17,hCB,hBl,hbx⟩:∃ B,c 17=.pointer (some ⟨B,0,none⟩)∧w1.heap.size≤B∧B < w'.heap.size∧Box w' B (.int .i64 0) (.slice none 0 0):=R.spec 17 t17
   have hbl:=R.below
   clear t0 t1 t2 t3 t4 t5 t6 t7 t8 t9 t10 t11 t12 t13 t14 t15 t16 t17
   have hpos:∀ us∈ts,0 < us.length:=fun us hz=>by rw [f7.len us hz];omega
   obtain⟨o7,k7,e7,-,-⟩:=id m7
   have hfin:meetFin n nv hs ks w1 (upd c 18 undef) ((w'.setCell ⟨B,0,none⟩ (.int .i64 ((n+n:Nat):Int))).setCell ⟨B,1,none⟩ u7):=⟨B,u7,ts,p7,by rw [zc _ _ (by decide)];exact e17,⟨hbx.write _ _,by simpa using hBl⟩,hCB,m7.setBasis _ _ hpos hbx.1 hbx.2.1,f7,a7,(hbl.setCell (p:=⟨B,0,none⟩) hCB _).setCell (p:=⟨B,1,none⟩) hCB _⟩
   have R':=FSx.last (deps:=meetD) (kv:=(meetK (w.heap.size) (w.heap.size+1) n (.slice uo hs.length ucap) (.slice vo ks.length vcap) ks.length)) (Sp:=meetS n nv hs ks w1.heap.size) (w:=w1) hall hn hfin
   obtain⟨b0,b1,b2,b3⟩:=hbx
   clear R hfin f7 a7 hbl m7 hall
   subst e7
   rw [e16,e17]
   go_simp
   exact hK.out _ _ ⟨_,by simp [upd,e16,e17],R'⟩
 rintro L a' w2 ⟨c,rfl,R0⟩ hall
 obtain⟨B,u,ts,q,ec,XB,hCB,hm,hf,hal,hb2⟩:=R0.fin (hall 18 (by decide))
 clear hall R0
 have HB2:=hide (HB1.out.trans (hb2.mono HB1.out.size))
 have HE2:Hid (BoxL w2 (w.heap.size+1+1) (.int .i64 0) (.slice none 0 0)):=hide ⟨HE.out.later hb2 HS1.out,zT HS1.out hb2.size⟩
 have HL22:Hid (w.heap.size < w2.heap.size):=zT HL2.out hb2.size
 have HNE:Hid (w.heap.size+1+1 < B):=zT HS1.out hCB
 obtain⟨p0,p1,-,-⟩:=X2.out.later hb2 HL2.out
 have HM:=hide hm;have HFT:=hide hf;have HAL:=hide hal
 obtain⟨to,tcap,rfl,-,-⟩:=hm
 have XB:=hide XB
 obtain⟨q0,q1,-,-⟩:=XB.out.1
 have HBO:Hid (Both n (behindL n ts) hs ks):=fun v hv=>zjO HLH.out HLK.out HFT.out HAL.out hv
 obtain⟨r,hr⟩:=zhs HFT.out
 have HFR:=hide hr
 clear hf hal hb2 X2 X3 HE HS1 HL2 HL3 HU HV HN HWR HLH HLK hr
 rw [ec]
 go_wp2_with fail
 refine zt (S:=(fun w'=>w'.cell? ⟨w.heap.size,0,none⟩=some (.int .i64 (n:Int))∧w'.cell? ⟨B,1,none⟩=some (.slice to ts.length tcap))) (k:=10) (by kernel_rfl) (by(try dsimp only);go_keep) (fun hHeld=>?_)
 refine ze 0 32 [] ?_
 try simp only [zA]
 refine ze 1 33 [] ?_
 try simp only [zA]
 refine ze 2 34 [] ?_
 try simp only [zA]
 refine ze 3 35 [] ?_
 try simp only [zA]
 refine ze 4 36 [] ?_
 try simp only [zA]
 refine ze 5 37 [] ?_
 try simp only [zA]
 refine zf 6 (by kernel_rfl) rfl (fun K hK=>?_)
 go_simp
 refine(zhr _ _ n ((n+n) * nv+2) ts (by exact HM.out.below (Below.refl _ _).drew zL) HFT.out.len h1 h4 (by have:=HFT.out.short;omega)).mono ?_
 rintro e w3 ⟨u8,rfl,m8,hb8⟩
 have hb3:Below w2.heap.size w2 w3:=(Below.refl _ _).drew.trans (hb8.mono (by simp))
 obtain⟨o8,c8,rfl,-,-⟩:=id m8
 have HM8:=hide m8;have HB3:=hide (HB2.out.trans (hb3.mono HB2.out.size))
 have HE3:=hide (HE2.out.later hb3)
 have s0:=(hb3.cell (p:=⟨w.heap.size,0,none⟩) HL22.out).trans p0
 have s1:=(hb3.cell (p:=⟨B,1,none⟩) XB.out.2).trans q1
 clear m8 hb8 hb3
 go_wp2_with fail
 refine hK.out _ _ (fun _=>⟨s0,s1⟩) ?_
 clear hK K
 try simp only [zA]
 have hHeld2:(fun w'=>w'.cell? ⟨w.heap.size,0,none⟩=some (.int .i64 (n:Int))∧w'.cell? ⟨B,1,none⟩=some (.slice to ts.length tcap)) w3:=⟨s0,s1⟩
 refine ze 7 39 [] ?_
 try simp only [zA]
 obtain⟨f0,f1,f2,f3⟩:=HE3.out.1
 have t0:((w3.setCell ⟨w.heap.size+1+1,0,none⟩ (.int .i64 (n:Int))).setCell ⟨w.heap.size+1+1,1,none⟩ (.slice o8 (behindL n ts).length c8)).cell? ⟨w.heap.size,0,none⟩=some (.int .i64 (n:Int)):=(World.cell?_setCell_other (h:=fun e=>by simp at e <;> omega) ..).trans ((World.cell?_setCell_other (h:=fun e=>by simp at e <;> omega) ..).trans s0)
 have t1:((w3.setCell ⟨w.heap.size+1+1,0,none⟩ (.int .i64 (n:Int))).setCell ⟨w.heap.size+1+1,1,none⟩ (.slice o8 (behindL n ts).length c8)).cell? ⟨B,1,none⟩=some (.slice to ts.length tcap):=(World.cell?_setCell_other (h:=fun e=>by simp at e <;>(have:=HNE.out;omega)) ..).trans ((World.cell?_setCell_other (h:=fun e=>by simp at e <;>(have:=HNE.out;omega)) ..).trans s1)
 refine zf 8 (by kernel_rfl) rfl (fun K hK=>?_)
 go_simp
 refine hK.out _ _ (fun _=>⟨t0,t1⟩) ?_
 clear hK K
 try simp only [zA]
 refine zf 9 (by kernel_rfl) rfl (fun K hK=>?_)
 go_simp
 refine hK.out _ _ (fun _=>⟨t0,t1⟩) ?_
 clear hK K
 try simp only [zA]
 refine zq (by kernel_rfl) ?_
 have HP:Hid (MeetPost w n nv hs ks (.returned (.tuple #[.agg #[.int .i64 (n:Int),.slice o8 (behindL n ts).length c8],.nilIface])) ((w3.setCell ⟨w.heap.size+1+1,0,none⟩ (.int .i64 (n:Int))).setCell ⟨w.heap.size+1+1,1,none⟩ (.slice o8 (behindL n ts).length c8))):=⟨_,_,rfl,⟨⟨_,rfl,HM8.out.setBasis _ _ (fun us hz=>by rw [HFR.out.len us hz];omega) f0 f1⟩,r,HFR.out⟩,(HB3.out.setCell (by simp;omega) _).setCell (by simp;omega) _,HBO.out⟩
 clear t0 t1 s0 s1 p0 p1 q0 q1 HM8 HFR HBO HB3 HE3 HM HFT HAL XB HB2 HE2
 go_wp2
 exact bodyPost_ret (v:=.tuple #[.agg #[.int .i64 (n:Int),.slice o8 (behindL n ts).length c8],.nilIface]) (by simp [results,Tryz.results31,go_sem,f0,f1]) rfl HP.out
end Go.Proofs.YtdedolkgcdlmeaaGreatDoor
