import Derived.Test.YtnhbfehfipafoaaGreatDoorShelf
import Derived.Test.YtnhbfehfipafoaaGreatDoorBgT
import Derived.Test.YtnhbfehfipafoaaGreatDoorTl2
import Derived.Deep.Cut
import Derived.Deep.CutRange
import Derived.Deep.CutBlock
namespace Go.Proofs.YtnhbfehfipafoaaGreatDoor
open Go.RowKit
theorem zbm (W:World)(base:Nat)(hbase:base≤W.heap.size)(v:Value)(n:Nat)(xs:List Value)(hown:W.ownsRow base 41 1 v n xs)(o:Option Addr)(l c:Nat)(hn:n≤1000):
  ∃ o' c' W',(Builtin.append_ #[105,105] 105 #[v,.slice (some ⟨W.heap.size,0,none⟩) 1 1]).run Tryz.prog (W.alloc (.cells #[.slice o l c] 41))=.ok (.slice o' (n+1) c') W'∧W'.ownsRow base 41 1 (.slice o' (n+1) c') (n+1) (xs ++ [.slice o l c])∧Below base W W':=by
 obtain⟨j0,hj,hy0,hy1,hy2⟩:=zl Tryz.infoIntsB
 exact zbC W base hbase _ _ _ j0 _ 1 24 (by kernel_rfl) hj hy0 hy1 hy2 rfl (by decide) v n xs hown #[.slice o l c] _ rfl (fun y hy=>by
  rw [List.mem_singleton] at hy
  rw [hy];rfl) (by unfold maxLen;omega) (by omega)
theorem BoxT.laterC {W W':World}{B C:Nat}{u0 u1 u2:Value}(h:BoxT W B u0 u1 u2)(hb:Below C W W')(hC:B < C):BoxT W' B u0 u1 u2:=
 ⟨⟨(hb.cell (p:=⟨B,0,none⟩) hC).trans h.1.1,(hb.cell (p:=⟨B,1,none⟩) hC).trans h.1.2.1,(hb.cell (p:=⟨B,2,none⟩) hC).trans h.1.2.2.1,Nat.lt_of_lt_of_le h.1.2.2.2 hb.size⟩,fun k=>(hb.frozen (p:=⟨B,k,none⟩) hC).trans (h.2 k)⟩
structure BackI (W8 wr:World)(ps:List Gc)(m:Nat)(nm:ByteArray)(N:Int)(vo:Option Addr)(vc:Nat):Prop where
 box:BoxT wr W8.heap.size (.string nm) (.int .i64 N) (.slice vo m vc)
 own:wr.ownsRow (W8.heap.size+1) 41 1 (.slice vo m vc) m ((ps.reverse.take m).map (·.1))
 below:Below W8.heap.size W8 wr
theorem BackI.start (W8:World)(ps:List Gc)(nm:ByteArray)(N:Int)(t:TypeId):BackI W8 (W8.alloc (.cells #[.string nm,.int .i64 N,.slice none 0 0] t)) ps 0 nm N none 0:=
 ⟨BoxT.new _ _ _ _ _,by rw [List.take_zero];exact World.ownsRow_nil _ _ _ _,zc _ _⟩
theorem BackI.step {W8 wr W':World}{ps:List Gc}{u':Gc}{m:Nat}{nm:ByteArray}{N:Int}{vo:Option Addr}{vc:Nat}(h:BackI W8 wr ps m nm N vo vc)(hm:m < ps.length){o':Option Addr}{c':Nat}{u:Value}(hu:ps.reverse[m]?=some u')(hu1:u'.1=u)
  (hown:W'.ownsRow (W8.heap.size+1) 41 1 (.slice o' (m+1) c') (m+1) ((ps.reverse.take m).map (·.1) ++ [u])) (hb:Below (W8.heap.size+1) wr W'):BackI W8 (W'.setCell ⟨W8.heap.size,2,none⟩ (.slice o' (m+1) c')) ps (m+1) nm N o' c' where
 box:=(h.box.laterC hb (Nat.lt_succ_self _)).set2 _
 own:=by
  have hl:m < ps.reverse.length:=by rw [List.length_reverse];exact hm
  have e:ps.reverse[m]=u':=by rw [List.getElem?_eq_getElem hl] at hu;exact Option.some.inj hu
  rw [List.take_succ_eq_append_getElem hl,List.map_append,e]
  show World.ownsRow _ _ _ _ _ _ (_ ++ [u'.1])
  rw [hu1]
  exact ownsRow_setCell_below hown (a:=⟨W8.heap.size,2,none⟩) (Nat.lt_succ_self W8.heap.size) _
 below:=(h.below.trans (hb.mono (Nat.le_succ _))).setCell (p:=⟨W8.heap.size,2,none⟩) (Nat.le_refl _) _
theorem BackI.rows {W8 wr:World}{ps:List Gc}{nm:ByteArray}{N:Int}{vo:Option Addr}{vc:Nat}(h:BackI W8 wr ps ps.length nm N vo vc)(hin:∀ g∈ps,GcIn W8 g){gs:List (List Int)}(hps:ps.map (·.2)=gs):NcIn wr ⟨⟨nm,N,gs.reverse⟩,vo,ps.length,vc⟩:=by
 have ho:=zB h.own
 have hl:ps.reverse.take ps.length=ps.reverse:=List.take_of_length_le (by rw [List.length_reverse];exact Nat.le_refl _)
 rw [hl] at ho
 have h2:=zX (ps:=ps.reverse) (v:=.slice vo ps.length vc) (W:=wr) (by rw [List.length_reverse];exact ho) (fun g hg=>(hin g (List.mem_reverse.1 hg)).below h.below (Nat.le_refl _))
 rw [List.map_reverse,hps] at h2
 exact h2 (zF h.own zW)
theorem BackI.rows' {W8 wr:World}{ps:List Gc}{m:Nat}{nm:ByteArray}{N:Int}{vo:Option Addr}{vc:Nat}(h:BackI W8 wr ps m nm N vo vc)(hm:ps.length=m)(hin:∀ g∈ps,GcIn W8 g){gs:List (List Int)}(hps:ps.map (·.2)=gs):NcIn wr ⟨⟨nm,N,gs.reverse⟩,vo,m,vc⟩:=by
 subst hm
 exact h.rows hin hps
end Go.Proofs.YtnhbfehfipafoaaGreatDoor
/- The reference's Apply: lists that grow by one; what it answers. -/
namespace Go.Proofs.YtnhbfehfipafoaaGreatDoor
open Go.RowKit
theorem zaK (W:World)(base:Nat)(hbase:base≤W.heap.size)(v:Value)(n:Nat)(xs:List Value)(hown:W.ownsRow base 107 3 v n xs)(q:Nc)(hn:n≤1000):
  ∃ o c W',(Builtin.append_ #[37,37] 37 #[v,.slice (some ⟨W.heap.size,0,none⟩) 1 1]).run Tryz.prog (W.alloc (.cells #[.string q.x.name,.int .i64 q.x.n,.slice q.o q.l q.c] 107))=.ok (.slice o (n+1) c) W'∧W'.ownsRow base 107 3 (.slice o (n+1) c) (n+1) (xs ++ q.cells)∧Below base W W':=by
 obtain⟨j0,hj,hy0,hy1,hy2⟩:=zl Tryz.infoNamed
 exact zbC W base hbase _ _ _ j0 _ 3 48 (by kernel_rfl) hj hy0 hy1 hy2 rfl (by decide) v n xs hown #[.string q.x.name,.int .i64 q.x.n,.slice q.o q.l q.c] _ rfl (fun y hy=>by
  simp only [List.mem_cons,List.not_mem_nil,or_false] at hy
  rcases hy with rfl | rfl | rfl <;> rfl) (by unfold maxLen;omega) (by omega)
def RefRes (w:World)(r:Nat × List Nmd)(e:Ending)(w':World):Prop:=
 ((r.1≠0∧e=.returned (.tuple #[.slice none 0 0,.int .i64 (r.1:Int)]))∨(r.1=0∧∃ u qs,e=.returned (.tuple #[u,.int .i64 0])∧qs.map (·.x)=r.2∧CatN w' u qs))∧Below w.heap.size w w'
theorem zt {w w':World}{r:Nat × List Nmd}(c:Nat)(l:List Nmd)(hr:r=(c,l))(hc:c≠0)(hb:Below w.heap.size w w'):RefRes w r (.returned (.tuple #[.slice none 0 0,.int .i64 (c:Int)])) w':=by
 subst hr
 exact⟨.inl ⟨hc,rfl⟩,hb⟩
theorem zdy {cs:List Nmd}(hc:cs.Pairwise (fun x y=>nlt x.name y.name=true)){s:ByteArray}(h:hasL cs s=true):atL cs s=(placeL cs s:Int):=by
 unfold atL
 rw [if_pos h]
 obtain⟨h1,h2⟩:=(zaq hc).1 h
 congr 1
 apply Nat.le_antisymm
 ·rcases Nat.lt_or_ge (placeL cs s) (cs.findIdx (fun x=>decide (x.name=s))) with h3 | h3
  ·have:=List.not_of_lt_findIdx h3
   simp [h2] at this
  ·exact h3
 ·rcases Nat.lt_or_ge (cs.findIdx (fun x=>decide (x.name=s))) (placeL cs s) with h3 | h3
  ·obtain⟨h4,h5⟩:=zaV h3
   have h6:=List.findIdx_getElem (p:=fun x:Nmd=>decide (x.name=s)) (w:=h4)
   rw [of_decide_eq_true h6,zaS] at h5
   cases h5
  ·exact h3
theorem zdx {cs:List Nmd}{s:ByteArray}(h:hasL cs s=false):atL cs s=-1:=by
 unfold atL;rw [if_neg (by rw [h];decide)]
theorem zc8 (k n:Int)(l:Nat):useOk k n l=true↔¬(k < 1)∧¬(4 < k)∧¬(k≠1∧n≠0)∧¬(k < 3∧0 < l):=by
 unfold useOk
 simp only [Bool.or_eq_true,decide_eq_true_eq]
 omega
end Go.Proofs.YtnhbfehfipafoaaGreatDoor
/- The reference's Apply, at its end: the lattice has these generators. -/
namespace Go.Proofs.YtnhbfehfipafoaaGreatDoor
open Go.RowKit
theorem List.set_same {α:Type}{l:List α}{i:Nat}{x:α}(h:l[i]?=some x):l.set i x=l:=by
 obtain⟨hi,e⟩:=List.getElem?_eq_some_iff.1 h
 rw [← e];exact List.set_getElem_self hi
set_option linter.unusedSimpArgs false in
set_option maxRecDepth 100000 in
set_option maxHeartbeats 3200000 in
theorem zdv (w W:World)(ao:Option Addr)(cap:Nat)(qs:List Nc)(r:Nat × List Nmd)(hbe:Below w.heap.size w W)(hcat:CatN w (.slice ao qs.length cap) qs)(P X:Nat)(go:Option Addr)(gl gc:Nat)(gs:List (List Int))(nm:ByteArray)(nn:Int)(xo:Option Addr)(xl xc:Nat)(hP:P < qs.length)(hq8:qs.length≤100)(hnm:qs[P].x.name=nm)(hnn:qs[P].x.n=nn)(hX:w.heap.size≤X)(hb:BoxT W X (.string nm) (.int .i64 nn) (.slice xo xl xc))(hG:GensIn (W.setCell ⟨X,2,none⟩ (.slice go gl gc)) (.slice go gl gc) gs)(hr:r=(0,(qs.map (·.x)).set P ⟨nm,nn,gs⟩)){sl1 sl2 sl3 sl4 sl5 sl6 sl8 sl9 sl10 sl13 sl15 sl16 sl17 sl18 sl19 sl20 sl21 sl22 sl23 sl24 sl25 sl26 sl27 sl28 sl29 sl30 sl31 sl32 sl33 sl34 sl35 sl36 sl37 sl38 sl39 sl40 sl41 sl42 sl43 sl44 sl45 sl46 sl47 sl48 sl49 sl50 sl51 sl52 sl53 sl54 sl55 sl56 sl57 sl58 sl59 sl60 sl61 sl62 sl63 sl64 sl65 sl66 sl67 sl68 sl69 sl70 sl71 sl72 sl73 sl74 sl75 sl76 sl77 sl78 sl79 sl80 sl81 sl82 sl83 sl84 sl85 sl86 sl87 sl88 sl89 sl90 sl91 sl92 sl93 sl94 sl95 sl96 sl97 sl98 sl99 sl100 sl101 sl102 sl103 sl104 sl105 sl106 sl107 sl108 sl109 sl110 sl111 sl112 sl113 sl114 sl115 sl116 sl117 sl118 sl119 sl120 sl121 sl122 sl123 sl124 sl125 sl126 sl127 sl128 sl129 sl130 sl131 sl132 sl133 sl134 sl135 sl136 sl137 sl138 sl139 sl140 sl141 sl142 sl143 sl144 sl145 sl146 sl147 sl148 sl149 sl150 sl151 sl152 sl153 sl154 sl155 sl156 sl157 sl158 sl159 sl160 sl161 sl162 sl163 sl164 sl165 sl166 sl167 sl168 sl169 sl170 sl171 sl172 sl173 sl174 sl175 sl176 sl177 sl178 sl179 sl180 sl181 sl182 sl183 sl184 sl185 sl186 sl187 sl188 sl189 sl190 sl191 sl192 sl193 sl194 sl195 sl196 sl197 sl198 sl199 sl200 sl201 sl202 sl203 sl204 sl205 sl206 sl207:Value}:
  (Code.tail (Code.tail (Code.tail (Code.tail (Code.tail (Code.tail (Code.tail (Code.tail (Code.tail (Code.tail (Code.tail (Code.tail (Code.tail (Code.tail (Code.tail ((Tryz.f58.body).getD .skip)))))))))))))))).wp Tryz.prog (bodyPost Tryz.prog Tryz.f58 (fun e w'=>RefRes w r e w')) ⟨#[(.slice ao qs.length cap),sl1,sl2,sl3,sl4,sl5,sl6,(.int .i64 (P:Int)),sl8,sl9,sl10,(.slice none 0 0),(.pointer (some ⟨X,0,none⟩)),sl13,(.slice go gl gc),sl15,sl16,sl17,sl18,sl19,sl20,sl21,sl22,sl23,sl24,sl25,sl26,sl27,sl28,sl29,sl30,sl31,sl32,sl33,sl34,sl35,sl36,sl37,sl38,sl39,sl40,sl41,sl42,sl43,sl44,sl45,sl46,sl47,sl48,sl49,sl50,sl51,sl52,sl53,sl54,sl55,sl56,sl57,sl58,sl59,sl60,sl61,sl62,sl63,sl64,sl65,sl66,sl67,sl68,sl69,sl70,sl71,sl72,sl73,sl74,sl75,sl76,sl77,sl78,sl79,sl80,sl81,sl82,sl83,sl84,sl85,sl86,sl87,sl88,sl89,sl90,sl91,sl92,sl93,sl94,sl95,sl96,sl97,sl98,sl99,sl100,sl101,sl102,sl103,sl104,sl105,sl106,sl107,sl108,sl109,sl110,sl111,sl112,sl113,sl114,sl115,sl116,sl117,sl118,sl119,sl120,sl121,sl122,sl123,sl124,sl125,sl126,sl127,sl128,sl129,sl130,sl131,sl132,sl133,sl134,sl135,sl136,sl137,sl138,sl139,sl140,sl141,sl142,sl143,sl144,sl145,sl146,sl147,sl148,sl149,sl150,sl151,sl152,sl153,sl154,sl155,sl156,sl157,sl158,sl159,sl160,sl161,sl162,sl163,sl164,sl165,sl166,sl167,sl168,sl169,sl170,sl171,sl172,sl173,sl174,sl175,sl176,sl177,sl178,sl179,sl180,sl181,sl182,sl183,sl184,sl185,sl186,sl187,sl188,sl189,sl190,sl191,sl192,sl193,sl194,sl195,sl196,sl197,sl198,sl199,sl200,sl201,sl202,sl203,sl204,sl205,sl206,sl207],[]⟩ W:=by
 simp only [Code.tail,Tryz.f58,Option.getD_some]
 have hba:Below w.heap.size w (W.setCell ⟨X,2,none⟩ (.slice go gl gc)):=hbe.setCell (p:=⟨X,2,none⟩) hX _
 have HBXa:=hide (hb.set2 (.slice go gl gc))
 obtain⟨⟨b0,b1,b2,-⟩,b3⟩:=hb
 have f2:=b3 2
 have HCS:=hide ((zaI hcat).below hba (Nat.le_refl _));have HCI:=hide hcat.ins;have HG:=hide hG;have HR:=hide hr;have HBa:=hide hba
 obtain⟨j0,hj,hy0,hy1,hy2⟩:=zl Tryz.infoNamed
 obtain⟨go1,gc1,W1,hrun,hown,hb1⟩:=z8 (P:=Tryz.prog) (W.setCell ⟨X,2,none⟩ (.slice go gl gc)) (W.setCell ⟨X,2,none⟩ (.slice go gl gc)) (W.setCell ⟨X,2,none⟩ (.slice go gl gc)).heap.size (Nat.le_refl _) (Below.refl _ _) (Nat.le_refl _) 37 37 107 j0 (.agg #[.string ⟨#[]⟩,.int .i64 0,.slice none 0 0]) 3 48 (by kernel_rfl) hj hy0 hy1 hy2 rfl (by decide) (.slice none 0 0) 0 [] (World.ownsRow_nil _ _ _ _) (.slice ao qs.length cap) qs.length (qs.flatMap Nc.cells) (zG qs) HCS.out (zac qs) (by unfold maxLen;omega) (by omega)
 rw [Nat.zero_add] at hrun hown
 rw [List.nil_append] at hown
 obtain⟨g,cp,e,hge,hcell⟩:=zay hown (by omega)
 simp only [Value.slice.injEq,true_and] at e
 obtain⟨rfl,rfl⟩:=e
 have k0:=hcell (P * 3) _ ((by have:=zy qs P hP 0 (by omega);rwa [Nat.add_zero] at this:(qs.flatMap Nc.cells)[P * 3]?=qs[P].cells[0]?).trans rfl)
 have k1:=hcell (P * 3+1) _ ((zy qs P hP 1 (by omega)).trans rfl)
 have k2:=hcell (P * 3+2) _ ((zy qs P hP 2 (by omega)).trans rfl)
 have z0:=zae hown (P * 3);have z1:=zae hown (P * 3+1);have z2:=zae hown (P * 3+2)
 obtain⟨⟨x0,x1,x2,-⟩,-⟩:=HBXa.out.later hb1
 have hne:g≠X:=by
  have h1:=HBXa.out.1.2.2.2
  omega
 have ho3:=zP (zP (zP hown (P * 3) (.string nm)) (P * 3+1) (.int .i64 nn)) (P * 3+2) (.slice go gl gc)
 have e0:((qs.flatMap Nc.cells).set (P * 3) (.string nm))=qs.flatMap Nc.cells:=List.set_same (by rw [(by have:=zy qs P hP 0 (by omega);rwa [Nat.add_zero] at this:(qs.flatMap Nc.cells)[P * 3]?=qs[P].cells[0]?),← hnm];rfl)
 have e1:((qs.flatMap Nc.cells).set (P * 3+1) (.int .i64 nn))=qs.flatMap Nc.cells:=List.set_same (by rw [zy qs P hP 1 (by omega),← hnn];rfl)
 rw [e0,e1,← zeG qs P hP (⟨⟨nm,nn,gs⟩,go,gl,gc⟩:Nc) hnm.symm hnn.symm] at ho3
 have HRUN:=hide hrun
 have hbf:=((hb1.setCell (p:=⟨g,P * 3,none⟩) hge (.string nm)).setCell (p:=⟨g,P * 3+1,none⟩) hge (.int .i64 nn)).setCell (p:=⟨g,P * 3+2,none⟩) hge (.slice go gl gc)
 have HBF:=hide (HBa.out.trans (hbf.mono HBa.out.size))
 have hl:(qs.set P (⟨⟨nm,nn,gs⟩,go,gl,gc⟩:Nc)).length=qs.length:=List.length_set
 have HCAT:=hide (zdE (v:=.slice (some ⟨g,0,none⟩) qs.length gc1) (qs:=qs.set P (⟨⟨nm,nn,gs⟩,go,gl,gc⟩:Nc)) (by rw [hl];exact zB ho3) (fun q hq=>by
  rcases List.mem_or_eq_of_mem_set hq with h | rfl
  ·exact(HCI.out q h).below HBF.out
  ·exact HG.out.below hbf) (zF ho3 zcp))
 have HQ:Hid ((qs.set P (⟨⟨nm,nn,gs⟩,go,gl,gc⟩:Nc)).map (·.x)=(qs.map (·.x)).set P ⟨nm,nn,gs⟩):=List.map_set
 clear hrun hown hcell ho3 e0 e1 hb1 hbf hj hy0 hy1 hy2 HCS HCI HG HBa hr hba hG b3 HBXa hnm hnn hl hcat
 go_wp2_with (at_builtin;refine Lib.wpList_append_run _ rfl _ _ _ _ rfl _ _ rfl rfl _ _ HRUN.out ?_)
 go_wp2
 go_ret2
 exact⟨.inr ⟨by rw [HR.out],_,_,rfl,by rw [HR.out];exact HQ.out,HCAT.out⟩,HBF.out⟩
end Go.Proofs.YtnhbfehfipafoaaGreatDoor
/- The reference's Apply: behind the generators' loop. -/
namespace Go.Proofs.YtnhbfehfipafoaaGreatDoor
open Go.RowKit
theorem RowS.grownNe {W W':World}{row:Option Nat}{v:Value}{ks:List Int}(h:RowS W v ks)(hg:W.grownBy W' row)(hne:∀ a l c,v=.slice (some a) l c→row≠some a.block):RowS W' v ks:=by
 obtain⟨ao,cap,e,hn,h6,hh⟩:=h
 refine⟨ao,cap,e,hn,h6,fun h0=>?_⟩
 obtain⟨b,off,e',hlt,hc⟩:=hh h0
 subst e'
 exact⟨b,off,rfl,Nat.lt_of_lt_of_le hlt hg.size,fun i hi=>hg.cell (hc i hi) (fun e2=>hne _ _ _ e e2.symm)⟩
theorem KinH.grownNe {W W':World}{row:Option Nat}{v:Value}(h:KinH W v)(hg:W.grownBy W' row)(hne:∀ a l c,v=.slice (some a) l c→row≠some a.block):KinH W' v:=fun p n c e h0=>by
 obtain⟨cs,t,fz,hk,ht⟩:=h p n c e h0
 exact⟨cs,t,fz,(hg.block _ (zd hk) (fun e2=>hne _ _ _ e e2.symm)).trans hk,ht⟩
theorem zg0 (W:World)(base:Nat)(hbase:base≤W.heap.size)(v:Value)(n:Nat)(xs:List Value)(hown:W.ownsRow base 41 1 v n xs)(o:Option Addr)(l c:Nat)(hn:n≤1000):
  ∃ o' c' W',(Builtin.append_ #[105,105] 105 #[v,.slice (some ⟨W.heap.size,0,none⟩) 1 1]).run Tryz.prog (W.alloc (.cells #[.slice o l c] 41))=.ok (.slice o' (n+1) c') W'∧W'.ownsRow base 41 1 (.slice o' (n+1) c') (n+1) (xs ++ [.slice o l c])∧Below base W W'∧(W.alloc (.cells #[.slice o l c] 41)).grownBy W' v.ownBlock:=by
 obtain⟨j0,hj,hy0,hy1,hy2⟩:=zl Tryz.infoIntsB
 obtain⟨v',W',hr,hown',hg,-⟩:=run_append_own (P:=Tryz.prog) (W.alloc (.cells #[.slice o l c] 41)) base 105 105 41 j0 (.slice none 0 0) 1 24 (by kernel_rfl) hj hy0 hy1 hy2 rfl (by decide) v n xs (hown.alloc _) ⟨W.heap.size,0,none⟩ 1 1 [.slice o l c] rfl (World.news_of_block (heap_alloc_new W _)) (fun y hy=>by rw [List.mem_singleton] at hy;rw [hy];rfl) (by unfold maxLen;omega) (by omega) (by simp;omega)
 obtain⟨o',c',rfl,-⟩:=zj hown'
 exact⟨o',c',W',hr,hown',zbD hown hbase hg,hg⟩
set_option linter.unusedSimpArgs false in
set_option maxRecDepth 100000 in
set_option maxHeartbeats 3200000 in
theorem zgd (w W:World)(ao vo:Option Addr)(cap vc B:Nat)(qs:List Nc)(o:OpV)(r:Nat × List Nmd)(hbe:Below w.heap.size w W)(hcat:CatN w (.slice ao qs.length cap) qs)(hx:FourV W B (.int .i64 o.kind) (.string o.name) (.int .i64 o.n) (.slice vo o.v.length vc))(hv:RowS w (.slice vo o.v.length vc) o.v)(hv1:o.v.length≤100000)(P X base:Nat)(go:Option Addr)(gl gc:Nat)(f:Bool)(gs:List (List Int))(ps:List Gc)(nm:ByteArray)(nn:Int)(xo:Option Addr)(xl xc:Nat)(hP:P < qs.length)(hq8:qs.length≤100)(hnm:qs[P].x.name=nm)(hnn:qs[P].x.n=nn)(hX:w.heap.size≤X)(hXb:X < base)(hbs:base≤W.heap.size)(hb:BoxT W X (.string nm) (.int .i64 nn) (.slice xo xl xc))(hown:W.ownsRow base 41 1 (.slice go gl gc) gl (ps.map (·.1)))(hps:ps.map (·.2)=gs)(hpi:∀ g∈ps,GcIn w g)(hg10:gl≤10)(hk34:o.kind=3∨o.kind=4)(hr:r=if o.kind=4∧f=false then (7,[]) else if o.kind=3∧gl=10 then (2,[]) else (0,(qs.map (·.x)).set P ⟨nm,nn,if o.kind=3 then gs ++ [o.v] else gs⟩)){sl1 sl2 sl4 sl5 sl6 sl8 sl9 sl10 sl13 sl16 sl17 sl18 sl19 sl20 sl21 sl22 sl23 sl24 sl25 sl26 sl27 sl28 sl29 sl30 sl31 sl32 sl33 sl34 sl35 sl36 sl37 sl38 sl39 sl40 sl41 sl42 sl43 sl44 sl45 sl46 sl47 sl48 sl49 sl50 sl51 sl52 sl53 sl54 sl55 sl56 sl57 sl58 sl59 sl60 sl61 sl62 sl63 sl64 sl65 sl66 sl67 sl68 sl69 sl70 sl71 sl72 sl73 sl74 sl75 sl76 sl77 sl78 sl79 sl80 sl81 sl82 sl83 sl84 sl85 sl86 sl87 sl88 sl89 sl90 sl91 sl92 sl93 sl94 sl95 sl96 sl97 sl98 sl99 sl100 sl101 sl102 sl103 sl104 sl105 sl106 sl107 sl108 sl109 sl110 sl111 sl112 sl113 sl114 sl115 sl116 sl117 sl118 sl119 sl120 sl121 sl122 sl123 sl124 sl125 sl126 sl127 sl128 sl129 sl130 sl131 sl132 sl133 sl134 sl135 sl136 sl137 sl138 sl139 sl140 sl141 sl142 sl143 sl144 sl145 sl146 sl147 sl148 sl149 sl150 sl151 sl152 sl153 sl154 sl155 sl156 sl157 sl158 sl159 sl160 sl161 sl162 sl163 sl164 sl165 sl166 sl167 sl168 sl169 sl170 sl171 sl172 sl173 sl174 sl175 sl176 sl177 sl178 sl179 sl180 sl181 sl182 sl183 sl184 sl185 sl186 sl187 sl188 sl189 sl190 sl191 sl192 sl193 sl194 sl195 sl196 sl197 sl198 sl199 sl200 sl201 sl202 sl203 sl204 sl205 sl206 sl207:Value}:
  (Code.tail (Code.tail (Code.tail (Code.tail (Code.tail (Code.tail (Code.tail (Code.tail (Code.tail (Code.tail (Code.tail (Code.tail (Code.tail ((Tryz.f58.body).getD .skip)))))))))))))).wp Tryz.prog (bodyPost Tryz.prog Tryz.f58 (fun e w'=>RefRes w r e w')) ⟨#[(.slice ao qs.length cap),sl1,sl2,(.pointer (some ⟨B,0,none⟩)),sl4,sl5,sl6,(.int .i64 (P:Int)),sl8,sl9,sl10,(.slice none 0 0),(.pointer (some ⟨X,0,none⟩)),sl13,(.slice go gl gc),(.bool f),sl16,sl17,sl18,sl19,sl20,sl21,sl22,sl23,sl24,sl25,sl26,sl27,sl28,sl29,sl30,sl31,sl32,sl33,sl34,sl35,sl36,sl37,sl38,sl39,sl40,sl41,sl42,sl43,sl44,sl45,sl46,sl47,sl48,sl49,sl50,sl51,sl52,sl53,sl54,sl55,sl56,sl57,sl58,sl59,sl60,sl61,sl62,sl63,sl64,sl65,sl66,sl67,sl68,sl69,sl70,sl71,sl72,sl73,sl74,sl75,sl76,sl77,sl78,sl79,sl80,sl81,sl82,sl83,sl84,sl85,sl86,sl87,sl88,sl89,sl90,sl91,sl92,sl93,sl94,sl95,sl96,sl97,sl98,sl99,sl100,sl101,sl102,sl103,sl104,sl105,sl106,sl107,sl108,sl109,sl110,sl111,sl112,sl113,sl114,sl115,sl116,sl117,sl118,sl119,sl120,sl121,sl122,sl123,sl124,sl125,sl126,sl127,sl128,sl129,sl130,sl131,sl132,sl133,sl134,sl135,sl136,sl137,sl138,sl139,sl140,sl141,sl142,sl143,sl144,sl145,sl146,sl147,sl148,sl149,sl150,sl151,sl152,sl153,sl154,sl155,sl156,sl157,sl158,sl159,sl160,sl161,sl162,sl163,sl164,sl165,sl166,sl167,sl168,sl169,sl170,sl171,sl172,sl173,sl174,sl175,sl176,sl177,sl178,sl179,sl180,sl181,sl182,sl183,sl184,sl185,sl186,sl187,sl188,sl189,sl190,sl191,sl192,sl193,sl194,sl195,sl196,sl197,sl198,sl199,sl200,sl201,sl202,sl203,sl204,sl205,sl206,sl207],[]⟩ W:=by
 simp only [Code.tail,Tryz.f58,Option.getD_some]
 have HC:=hide hcat;have HBE:=hide hbe;have HV:=hide hv;have HBX:=hide hb;have HOW:=hide hown;have HPI:=hide hpi;have HPS:=hide hps;have HXX:=hide hx
 have hpl:ps.length=gl:=by have:=hown.1;rwa [List.length_map,Nat.mul_one] at this
 have HPL:=hide hpl
 obtain⟨o0,o1,o2,o3,hBl⟩:=hx
 clear hcat hbe hv hb hown hpi hps hpl
 by_cases h4:o.kind=4∧f=false
 ·rw [if_pos h4] at hr
  have HR:=hide hr
  obtain⟨h4,rfl⟩:=h4
  have g1:(o.kind == 4)=true:=by rw [beq_iff_eq];exact h4
  clear hr h4 hk34
  go_wp2
  go_ret2
  exact zt 7 [] HR.out (by decide) HBE.out
 rw [if_neg h4] at hr
 by_cases h3:o.kind=3∧gl=10
 ·rw [if_pos h3] at hr
  have HR:=hide hr
  obtain⟨h3,rfl⟩:=h3
  have g1:(o.kind == 4)=false:=beq_eq_false_iff_ne.2 (by omega)
  have g2:(o.kind == 3)=true:=by rw [beq_iff_eq];exact h3
  clear hr h4 h3 hk34
  go_wp2
  go_ret2
  exact zt 2 [] HR.out (by decide) HBE.out
 rw [if_neg h3] at hr
 by_cases hk3:o.kind=3
 ·rw [if_pos hk3] at hr
  have HR:=hide hr
  have g1:(o.kind == 4)=false:=beq_eq_false_iff_ne.2 (by omega)
  have g2:(o.kind == 3)=true:=by rw [beq_iff_eq];exact hk3
  have g3:((gl:Int) == 10)=false:=beq_eq_false_iff_ne.2 (fun h=>h3 ⟨hk3,by omega⟩)
  clear h4 h3 hk34 hk3 hr
  go_upto_if 188 with fail
  go_cut [14] from 18 (fun v wc=>∃ go' gl' gc',v=.slice go' gl' gc'∧GensIn (wc.setCell ⟨X,2,none⟩ v) v (gs ++ [o.v])∧Below w.heap.size w wc∧BoxT wc X (.string nm) (.int .i64 nn) (.slice xo xl xc))
  case first=>
   have hvW:=HV.out.below HBE.out (Nat.le_refl _)
   obtain⟨j0,hj,hy0,hy1,hy2⟩:=zl Tryz.infoIntB
   obtain⟨vo1,vc1,W1,hr1,hw1,hb1⟩:=z8 (P:=Tryz.prog) W W W.heap.size (Nat.le_refl _) (Below.refl _ _) (Nat.le_refl _) 41 41 3 j0 (.int .i64 0) 1 8 (by kernel_rfl) hj hy0 hy1 hy2 rfl (by decide) (.slice none 0 0) 0 [] (World.ownsRow_nil _ _ _ _) (.slice vo o.v.length vc) o.v.length (o.v.map (fun z=>Value.int .i64 z)) (by simp) (zcS hvW) (fun y hy=>by obtain⟨z,-,rfl⟩:=List.mem_map.1 hy;rfl) (by unfold maxLen;omega) (by omega)
   rw [Nat.zero_add] at hr1 hw1
   rw [List.nil_append] at hw1
   have hb1s:=hb1.size
   obtain⟨go2,gc2,W2,hr2,hw2,hb2,hgr⟩:=zg0 W1 base (by omega) (.slice go gl gc) gl _ (zO HOW.out hb1) vo1 o.v.length vc1 (by omega)
   have hb2s:=hb2.size
   have hbx2:BoxT W2 X (.string nm) (.int .i64 nn) (.slice xo xl xc):=by
    obtain⟨⟨a0,a1,a2,a3⟩,a4⟩:=HBX.out.later hb1
    exact⟨⟨(hb2.cell (p:=⟨X,0,none⟩) hXb).trans a0,(hb2.cell (p:=⟨X,1,none⟩) hXb).trans a1,(hb2.cell (p:=⟨X,2,none⟩) hXb).trans a2,by omega⟩,fun k=>(hb2.frozen (p:=⟨X,k,none⟩) hXb).trans (a4 k)⟩
   have hbW2:Below w.heap.size w W2:=(HBE.out.trans (hb1.mono HBE.out.size)).trans (hb2.mono (by omega))
   have hrow:RowS W1 (.slice vo1 o.v.length vc1) o.v:=zfd (zB hw1) HV.out.in64
   have hnew:∀ a l c,Value.slice vo1 o.v.length vc1=.slice (some a) l c→W.heap.size≤a.block:=fun a l c e=>by
    simp only [Value.slice.injEq] at e
    exact(hw1.lt a.block (by rw [e.1];rfl)).1
   have hrow2:RowS W2 (.slice vo1 o.v.length vc1) o.v:=(hrow.below (zc W1 _) (Nat.le_refl _)).grownNe hgr (fun a l c e h=>by
    have h1:=hnew a l c e
    have h2:=HOW.out.lt a.block h
    omega)
   have hkin2:KinH W2 (.slice vo1 o.v.length vc1):=((zF hw1 zbp).below (zc W1 _) (Nat.le_refl _)).grownNe hgr (fun a l c e h=>by
    have h1:=hnew a l c e
    have h2:=HOW.out.lt a.block h
    omega)
   have HGF:Hid (GensIn (W2.setCell ⟨X,2,none⟩ (.slice go2 (gl+1) gc2)) (.slice go2 (gl+1) gc2) (gs ++ [o.v])):=by
    have ho:=zB (ownsRow_setCell_below (a:=⟨X,2,none⟩) hw2 hXb (.slice go2 (gl+1) gc2))
    have e1:ps.map (·.1) ++ [Value.slice vo1 o.v.length vc1]=(ps ++ [((Value.slice vo1 o.v.length vc1:Value),o.v)]).map (·.1):=by simp
    have e2:gl+1=(ps ++ [((Value.slice vo1 o.v.length vc1:Value),o.v)]).length:=by rw [List.length_append,HPL.out];rfl
    rw [e1] at ho
    have:=zX (ps:=ps ++ [((Value.slice vo1 o.v.length vc1:Value),o.v)]) (v:=.slice go2 (gl+1) gc2) (by rw [← e2];exact ho) (fun g hg=>by
     rcases List.mem_append.1 hg with h | h
     ·exact(HPI.out g h).below (hbW2.setCell (p:=⟨X,2,none⟩) hX _) (Nat.le_refl _)
     ·rw [List.mem_singleton] at h;subst h
      exact⟨hrow2.setOther (p:=⟨X,2,none⟩) (fun a l c e=>by have:=hnew a l c e;show a.block≠X;omega) _,hkin2.set _ _⟩) (zF (ownsRow_setCell_below (a:=⟨X,2,none⟩) hw2 hXb (.slice go2 (gl+1) gc2)) zW)
    rwa [List.map_append,HPS.out] at this
   have HB2:=hide hbW2;have HX2:=hide hbx2;have HR1:=hide hr1;have HR2:=hide hr2
   clear hkin2 hvW hj hy0 hy1 hy2 hr1 hw1 hb1 hr2 hw2 hb2 hgr hrow hrow2 hnew hbx2 hbW2 HXX HOW HPI HPS
   go_wp2_with (at_builtin;first | refine Lib.wpList_append_run _ rfl _ _ _ _ rfl _ _ rfl rfl _ _ HR1.out ?_ | refine Lib.wpList_append_run _ rfl _ _ _ _ rfl _ _ rfl rfl _ _ HR2.out ?_)
   go_wp2
   go_meet
   case rel=>exact⟨_,_,_,rfl,HGF.out,HB2.out,HX2.out⟩
  case rest=>
   obtain⟨go',gl',gc',rfl,hG,hbw,hbx⟩:=hcut
   apply_assumption
   exact zdv w _ ao cap qs r hbw HC.out P X go' gl' gc' (gs ++ [o.v]) nm nn xo xl xc hP hq8 hnm hnn hX hbx hG HR.out
 ·rw [if_neg hk3] at hr
  have HR:=hide hr
  have hk4:o.kind=4:=by omega
  have hf:f=true:=by
   cases hf:f with
   | true=>rfl
   | false=>exact absurd ⟨hk4,hf⟩ h4
  subst hf
  have g1:(o.kind == 4)=true:=by rw [beq_iff_eq];exact hk4
  have g2:(o.kind == 3)=false:=beq_eq_false_iff_ne.2 hk3
  clear h4 h3 hk34 hk3 hk4 hr
  go_upto_if 188 with fail
  go_cut [14] from 18 (fun v wc=>v=(.slice go gl gc)∧wc=W)
  case first=>
   go_wp2
   go_meet
   case rel=>exact⟨rfl,rfl⟩
  case rest=>
   obtain⟨rfl,rfl⟩:=hcut
   apply_assumption
   refine zdv w _ ao cap qs r HBE.out HC.out P X go gl gc gs nm nn xo xl xc hP hq8 hnm hnn hX HBX.out ?_ HR.out
   have ho:=zB (ownsRow_setCell_below (a:=⟨X,2,none⟩) HOW.out hXb (.slice go gl gc))
   have:=zX (ps:=ps) (v:=(.slice go gl gc)) (by rw [HPL.out];exact ho) (fun g hg=>(HPI.out g hg).below (HBE.out.setCell (p:=⟨X,2,none⟩) hX _) (Nat.le_refl _)) (zF (ownsRow_setCell_below (a:=⟨X,2,none⟩) HOW.out hXb (.slice go gl gc)) zW)
   rwa [HPS.out] at this
end Go.Proofs.YtnhbfehfipafoaaGreatDoor
