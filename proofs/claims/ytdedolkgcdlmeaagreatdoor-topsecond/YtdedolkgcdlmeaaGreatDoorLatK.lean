import Derived.Test.YtdedolkgcdlmeaaGreatDoorLatI
import Derived.Test.YtdedolkgcdlmeaaGreatDoorHermR
import Derived.Test.YtdedolkgcdlmeaaGreatDoorRowO
import Derived.Test.YtdedolkgcdlmeaaGreatDoorLatQ
namespace Go.Proofs.YtdedolkgcdlmeaaGreatDoor
open Go.RowKit Limbs Digs
def RowsS (w:World)(v:Value)(rs:List (List Int)):Prop:=
 ∃ ao cap,v=.slice ao rs.length cap∧rs.length≤cap∧(0 < rs.length→∃ b off,ao=some ⟨b,off,none⟩∧b < w.heap.size∧∀ i r,rs[i]?=some r→∃ u,w.cell? ⟨b,off+i,none⟩=some u∧RowS w u r)
theorem RowsS.below {w w':World}{v:Value}{rs:List (List Int)}(h:RowsS w v rs)(hb:Below w.heap.size w w'):RowsS w' v rs:=by
 obtain⟨ao,cap,hv,h1,h2⟩:=h
 refine⟨ao,cap,hv,h1,fun h0=>?_⟩
 obtain⟨b,off,e,hlt,hc⟩:=h2 h0
 refine⟨b,off,e,zT hlt hb.size,fun i r hi=>?_⟩
 obtain⟨u,h3,h4⟩:=hc i r hi
 exact⟨u,(hb.cell (p:=⟨b,off+i,none⟩) hlt).trans h3,h4.below hb zL⟩
theorem RowsS.at {w:World}{v:Value}{rs:List (List Int)}(h:RowsS w v rs)(i:Nat)(hi:i < rs.length):∃ b off cap,v=.slice (some ⟨b,off,none⟩) rs.length cap∧b < w.heap.size∧∃ u,w.cell? ⟨b,off+i,none⟩=some u∧RowS w u rs[i]:=by
 obtain⟨ao,cap,hv,h1,h2⟩:=h
 obtain⟨b,off,e,hlt,hc⟩:=h2 (by omega)
 subst e
 exact⟨b,off,cap,hv,hlt,hc i rs[i] (by simp [hi])⟩
def small (z:Int):Bool:=decide (-1000000≤z∧z≤1000000)
def goodRow (n:Int)(r:List Int):Bool:=decide ((r.length:Int)=n) && r.all small
def goodG (n:Int)(rs:List (List Int)):Bool:=decide (1≤n∧n≤4∧rs.length≤8) && rs.all (goodRow n)
theorem zbW {n:Int}{r:List Int}:goodRow n r=true↔(r.length:Int)=n∧∀ z∈r,-1000000≤z∧z≤1000000:=by
 simp [goodRow,small]
theorem zdw {n:Int}{rs:List (List Int)}{r:List Int}(hr:r∈rs)(h:goodRow n r=false):goodG n rs=false:=by
 unfold goodG
 rw [Bool.and_eq_false_iff]
 right
 rw [List.all_eq_false]
 exact⟨r,hr,by rw [h];decide⟩
theorem zfi {n:Int}{r:List Int}{z:Int}(hz:z∈r)(h:z < -1000000∨1000000 < z):goodRow n r=false:=by
 cases e:goodRow n r with
 | false=>rfl
 | true=>have:=(zbW.1 e).2 z hz;omega
def MadePost (w:World)(n:Int)(rs:List (List Int))(e:Ending)(w':World):Prop:=
 Below w.heap.size w w'∧((goodG n rs=false∧e=(.returned (.tuple #[.agg #[.int .i64 0,.slice none 0 0],.slice none 0 0,.bool false]))) ∨
  (goodG n rs=true∧∃ u m hs,e=.returned (.tuple #[.agg #[.int .i64 n,u],m,.bool true])∧LatN w' (.agg #[.int .i64 n,u]) n.toNat hs 6∧Alikes n.toNat (InL hs) (InL rs)))
structure MadeI (W0 wr:World)(n:Nat)(rs:List (List Int))(km k:Nat)(m:Value)(qs:List (Value × List Int))(u:Value)(hs:List (List Int)):Prop where
 grow:GrowM wr (W0.heap.size+1) m qs 5
 all:AllSl wr m.ownBlock
 rows:qs.map (·.2)=rs.take km
 var:BVar wr W0.heap.size n u
 mat:MatN wr u hs 6
 form:∃ p,FormL n hs p
 alike:Alikes n (InL hs) (InL (rs.take k))
 sep:0 < hs.length→Sep u m.ownBlock
 below:Below W0.heap.size W0 wr
 good:∀ r∈rs.take km,goodRow n r=true
theorem MadeI.later {W0 wr w':World}{n:Nat}{rs:List (List Int)}{km k:Nat}{m:Value}{qs:List (Value × List Int)}{u:Value}{hs:List (List Int)}(h:MadeI W0 wr n rs km k m qs u hs)(hb:Below wr.heap.size wr w'):MadeI W0 w' n rs km k m qs u hs:=
 ⟨h.grow.later hb,h.all.later hb,h.rows,h.var.later hb h.var.lt,h.mat.below hb zL,h.form,h.alike,h.sep,h.below.trans (hb.mono h.below.size),h.good⟩
theorem MadeI.len {W0 wr:World}{n:Nat}{rs:List (List Int)}{km k:Nat}{m:Value}{qs:List (Value × List Int)}{u:Value}{hs:List (List Int)}(h:MadeI W0 wr n rs km k m qs u hs)(hk:km≤rs.length):qs.length=km:=by
 have:=congrArg List.length h.rows
 rw [List.length_map,List.length_take] at this
 omega
theorem MadeI.start {W0:World}(n:Nat)(rs:List (List Int)):MadeI W0 (W0.alloc (.cells #[.int .i64 (n:Int),.slice none 0 0] 55)) n rs 0 0 (.slice none 0 0) [] (.slice none 0 0) [] where
 grow:=⟨World.ownsRow_nil _ _ _ _,fun _ h=>by cases h⟩
 all:=zev _
 rows:=by simp
 var:=⟨zj W0 _ _ _ _ rfl,_,heap_alloc_new W0 _⟩
 mat:=zdG _ _
 form:=⟨_,zdr n⟩
 alike:=fun v=>by rw [List.take_zero]
 sep:=fun _ a l c e=>by cases e
 below:=(Below.refl _ _).alloc zL _
 good:=fun r h=>by rw [List.take_zero] at h;cases h
theorem zhg {n:Nat}{l l':List (List Int)}{us:List Int}(h:Alikes n (InL l) (InL l')):Alikes n (InL (l ++ [us])) (InL (l' ++ [us])):=by
 refine .of (fun v hv hvl=>?_) (fun v hv hvl=>?_)
 ·rcases List.mem_append.1 hv with hv | hv
  ·exact((h v).1 (.base hv hvl)).trans (fun x hx hxl=>.base (List.mem_append_left _ hx) hxl)
  ·exact .base (List.mem_append_right _ hv) hvl
 ·rcases List.mem_append.1 hv with hv | hv
  ·exact((h v).2 (.base hv hvl)).trans (fun x hx hxl=>.base (List.mem_append_left _ hx) hxl)
  ·exact .base (List.mem_append_right _ hv) hvl
theorem zd4 {rs:List (List Int)}{k:Nat}{rk:List Int}(h:rs[k]?=some rk):rs.take (k+1)=rs.take k ++ [rk]:=by
 rw [List.take_add_one,h];rfl
theorem MadeI.grew {W0 wr w5:World}{n:Nat}{rs:List (List Int)}{k:Nat}{m:Value}{qs:List (Value × List Int)}{u:Value}{hs:List (List Int)}{ob:Obj}{x:Value}{g cap:Nat}{rk:List Int}(h:MadeI W0 wr n rs k k m qs u hs)(hk:rs[k]?=some rk)
  (hz:RowR wr x rk 5) (hg:goodRow n rk=true)
  (hown:w5.ownsRow (W0.heap.size+1) 106 1 (.slice (some ⟨g,0,none⟩) (qs.length+1) cap) (qs.length+1) (qs.map (·.1) ++ [x]))
  (hgr:(wr.alloc ob).grownBy w5 m.ownBlock) (hall:AllSl w5 (some g)) (hat:m.ownBlock=some g∨g=wr.heap.size+1):
  MadeI W0 w5 n rs (k+1) k (.slice (some ⟨g,0,none⟩) (qs.length+1) cap) (qs ++ [(x,rk)]) u hs where
 grow:=zi0 h.grow hz hown hgr
 all:=hall
 rows:=by rw [List.map_append,h.rows,zd4 hk];rfl
 var:=(h.var.later ((Below.refl _ _).alloc zL ob) h.var.lt).grown hgr (h.all.later ((Below.refl _ _).alloc zL ob))
 mat:=(h.mat.below ((Below.refl _ _).alloc zL ob) zL).grownH hgr (h.all.later ((Below.refl _ _).alloc zL ob)) h.sep
 form:=h.form
 alike:=h.alike
 sep:=fun h0=>by
  rcases hat with e | e
  ·have:=h.sep h0
   rw [e] at this
   exact this
  ·intro a l c ea e'
   obtain⟨ao,cap',e1,-,h2⟩:=h.mat
   obtain⟨b,off,e2,hlt,-⟩:=h2 h0
   rw [e1,e2] at ea
   simp only [Value.slice.injEq,Option.some.injEq] at ea
   obtain⟨rfl,-⟩:=ea
   simp only [Value.ownBlock,Option.some.injEq] at e'
   rw [e] at e'
   omega
 below:=h.below.trans ((zbw h.grow.1 h.var.lt hgr).mono (by omega))
 good:=fun r hr=>by
  rw [zd4 hk] at hr
  rcases List.mem_append.1 hr with hr | hr
  ·exact h.good r hr
  ·rw [List.mem_singleton] at hr;rw [hr];exact hg
theorem zkU {z:Int}(h:-1000000≤z∧z≤1000000):ab z < bp 1:=by
 have e:bp 1=4294967296:=by decide
 rw [e]
 unfold ab
 split <;> omega
theorem MadeI.put {W0 w3:World}{n:Nat}{rs:List (List Int)}{k:Nat}{m:Value}{qs:List (Value × List Int)}{u:Value}{hs:List (List Int)}{u':Value}{hs':List (List Int)}{nv base:Nat}{rk:List Int}(h:MadeI W0 w3 n rs (k+1) k m qs u hs)(hk:rs[k]?=some rk)(hn:n≤4)
  (hu:MatN w3 u' hs' nv) (hF:∃ p,FormL n hs' p) (hA:Alikes n (InL hs') (InL (hs ++ [rk]))) (hfr:Fresh base u') (hb1:W0.heap.size < base) (hb2:∀ g,m.ownBlock=some g→g < base) (hsl:∃ o l c,u=.slice o l c):
  MadeI W0 ((w3.setCell ⟨W0.heap.size,0,none⟩ (.int .i64 (n:Int))).setCell ⟨W0.heap.size,1,none⟩ u') n rs (k+1) (k+1) m qs u' hs':=by
 have hA':Alikes n (InL hs') (InL (rs.take (k+1))):=fun v=>(hA v).trans (by
  rw [zd4 hk]
  exact zhg h.alike v)
 obtain⟨p,hF⟩:=hF
 have hl:∀ us∈rs.take (k+1),us.length=n:=fun us hus=>by have:=(zbW.1 (h.good us hus)).1;omega
 have ht:MatN w3 u' hs' 6:=by
  refine hu.tight fun zs hz j hj=>?_
  have h1:=ziN (nv:=1) hF hA' hl (fun us hus j hj=>zkU ((zbW.1 (h.good us hus)).2 _ (by
   have hj':j < us.length:=by rw [hl us hus];exact hj
   rw [List.getD_eq_getElem?_getD,List.getElem?_eq_getElem hj',Option.getD_some]
   exact List.getElem_mem hj'))) (by omega) zs hz j hj
  exact Int.lt_of_lt_of_le h1 (zY (by omega))
 obtain⟨o,l,c,rfl⟩:=hsl
 exact
  {grow:=h.grow.setVar h.var _ _
   all:=(h.all.setCell (h.var.apart h.all) _ _).setCell (h.var.apart h.all) _ _
   rows:=h.rows
   var:=h.var.write _ _
   mat:=ht.setVar _ _ (fun _=>hfr.sep hb1) h.var.1.1 h.var.1.2.1
   form:=⟨p,hF⟩
   alike:=hA'
   sep:=fun _ a l c e e'=>by
    have h1:=hfr a l c e
    have h2:=hb2 a.block e'.symm
    omega
   below:=(h.below.setCell (by exact Nat.le_refl _) _).setCell (by exact Nat.le_refl _) _
   good:=h.good }
theorem zcS {P:Program}{ops:Array Oper}{Q:Exit→Act→World→Prop}{md:Region.Mode}{S:World→Prop}{k:Nat}(i j:Nat){oi oj:Oper}{fuel:Nat}{listed:Array Bool}{a:Act}{w:World}(hr:Region.ready md ops listed=[i,j])(hoi:ops[i]?=some oi)(hoj:ops[j]?=some oj)
  (h1:∀ K':Act→World→Prop,Shut (∀ a w,(i < k→S w)→wpUpto P md ops Q S k fuel (listed.setIfInBounds i true) a w→K' a w)→if Region.wanted oi (yielded ops a.tmps)=true then Oper.wp P oi a w K' Q else K' (a.put oi.dst undef) w)
  (h2:∀ K':Act→World→Prop,Shut (∀ a w,(j < k→S w)→wpUpto P md ops Q S k fuel (listed.setIfInBounds j true) a w→K' a w)→if Region.wanted oj (yielded ops a.tmps)=true then Oper.wp P oj a w K' Q else K' (a.put oj.dst undef) w):
  wpUpto P md ops Q S k (fuel+1) listed a w:=by
 refine⟨fun h0=>absurd (hr.symm.trans h0) (by simp),fun x hx=>?_⟩
 rw [hr] at hx
 have hx':x=i∨x=j:=by simpa using hx
 rcases hx' with rfl | rfl
 ·exact wpOp_step hoi (fun K' hK=>h1 K' (fun a w hS hW=>hK a w ⟨hS,hW⟩))
 ·exact wpOp_step hoj (fun K' hK=>h2 K' (fun a w hS hW=>hK a w ⟨hS,hW⟩))
set_option maxRecDepth 100000 in
set_option maxHeartbeats 1600000 in
theorem zjJ (w:World)(nI:Int)(go:Option Addr)(gcap:Nat)(rs:List (List Int))(h:¬(1≤nI∧nI≤4∧rs.length≤8)):
  Calls Tryz.prog 22 #[.agg #[.int .i64 nI,.slice go rs.length gcap]] w fun e w'=>MadePost w nI rs e w':=by
 have HE:Hid (goodG nI rs=false):=by show _=_;unfold goodG;rw [decide_eq_false h,Bool.false_and]
 have HX:=hide (zaH w (.int .i64 nI) (.slice go rs.length gcap) (.int .i64 0) (.slice none 0 0) 53 55)
 obtain⟨⟨c0,c1,z0,z1⟩,⟨d0,d1,y0,y1⟩,-,-⟩:=HX.out
 have HB:=hide HX.out.2.2.1
 by_cases h1:nI < 1
 ·clear h
  have g1:decide (nI < 1)=true:=decide_eq_true h1
  clear HX
  go_enter Tryz.func22,Tryz.ntmps22
  go_wp2
  exact bodyPost_ret (v:=.tuple #[.agg #[.int .i64 0,.slice none 0 0],.slice none 0 0,.bool false]) (by simp [results,Tryz.results22,go_sem,d0,d1]) rfl ⟨HB.out,.inl ⟨HE.out,rfl⟩⟩
 ·by_cases h2:4 < nI
  ·clear h
   have g1:decide (nI < 1)=false:=decide_eq_false h1;have g2:decide (4 < nI)=true:=decide_eq_true h2
   clear HX
   go_enter Tryz.func22,Tryz.ntmps22
   go_wp2
   exact bodyPost_ret (v:=.tuple #[.agg #[.int .i64 0,.slice none 0 0],.slice none 0 0,.bool false]) (by simp [results,Tryz.results22,go_sem,d0,d1]) rfl ⟨HB.out,.inl ⟨HE.out,rfl⟩⟩
  ·have h3:8 < (rs.length:Int):=by omega
   clear h
   have g1:decide (nI < 1)=false:=decide_eq_false h1;have g2:decide (4 < nI)=false:=decide_eq_false h2;have g3:decide (8 < (rs.length:Int))=true:=decide_eq_true h3
   clear HX
   go_enter Tryz.func22,Tryz.ntmps22
   go_wp2
   exact bodyPost_ret (v:=.tuple #[.agg #[.int .i64 0,.slice none 0 0],.slice none 0 0,.bool false]) (by simp [results,Tryz.results22,go_sem,d0,d1]) rfl ⟨HB.out,.inl ⟨HE.out,rfl⟩⟩
end Go.Proofs.YtdedolkgcdlmeaaGreatDoor
