/- TopFillCardSaid, proved: what is filled is filled, has as many rows as the lattice and an end of classes over it, and holds every vector of which a multiple lies in the lattice. No condition beside the card's own tie of three tables to the program's text. -/
import Derived.Test.YtnkcjkpkphjecaaGreatDoorFilT
import Derived.Test.YtnkcjkpkphjecaaGreatDoorOpenG
import Derived.Test.YtnkcjkpkphjecaaGreatDoorCards
import Derived.Test.YtnkcjkpkphjecaaGreatDoorBeside
import Derived.Test.YtnkcjkpkphjecaaGreatDoorTie
import Derived.LaidMore
import Derived.LaidSub
import Derived.Lib.LaidTab
import Derived.ChangeMaps5
import Derived.OpenShut
import Derived.Stop.Joined
import Derived.SevenTiedAt
import Derived.Shelf.Vars
import Derived.Lay
import Derived.MakeChecks
namespace Go.Proofs.YtnkcjkpkphjecaaGreatDoor
open Go.ChangeShapes Go.WideShapes Go.ChangeAt Go.RowKit Go.Joins Limbs
set_option maxRecDepth 100000 in
theorem zjA {H:Type}{enc:TypeId × Value→H}{W:World}{r:Reach}{b0:Nat}{v:Value}{d:DataW H}{p:List MemPlace}
  (hv:Value.okWide Tryz.prog W r b0 49 v) (h:DataW.Trod enc Tryz.prog W 0 (fun _=>true) true 49 v d p):∃ vo vcap vs,v=.slice vo (List.length (α:=Int) vs) vcap∧RowS W (.slice vo vs.length vcap) vs:=by
 obtain⟨a0,len,cap,rfl⟩:=okWide_slice Tryz.underlying49 hv
 obtain⟨fuel,hf⟩:=h
 obtain⟨vs,hr⟩:=zfM (v:=.slice a0 len cap) hf
 have hr':=hr
 obtain⟨ao,cap',e,-⟩:=hr
 simp only [Value.slice.injEq] at e
 obtain⟨rfl,rfl,rfl⟩:=e
 exact⟨_,_,vs,rfl,hr'⟩
theorem zd2 {W:World}(h:laidMetH Tryz.prog Rows.topFillRow.laid W):Tab W:=by
 have h1 := h.filter (fun x => x.1 == "internal/strconv.uint64pow10")
 have e : (Rows.topFillRow.laid.filter fun x => x.1 == "internal/strconv.uint64pow10") = [("internal/strconv.uint64pow10", Lib.tabData .u64 Lib.pow10Tab)] := by rfl
 rw [e] at h1
 have h2 : laidMet Tryz.prog [("internal/strconv.uint64pow10", Lib.tabData .u64 Lib.pow10Tab)] W := (laidMetH_iff.1 h1).1
 exact Lib.tabIs_of_head (g:=2) (t:=181) (e:=90) (by kernel_rfl) (by kernel_rfl) Tryz.underlying181 Tryz.underlying90 (by kernel_rfl) (by kernel_rfl) h2
set_option maxRecDepth 100000 in
theorem zkM (os:Os)(started:os.Started)(H:Type)(enc:TypeId × Value→H):
  ReturnsInHanded {} Tryz.checked os 4 .any (fun w args=>(Rows.topFillSpec.pre enc Tryz.prog Tryz.f4 [] false w args∧laidMetH Tryz.prog Rows.topFillRow.laid w)∧sizedMet enc Tryz.prog Tryz.f4 (OpenSpec.ofChange Rows.topFillSpec) false w args)
   (Rows.topFillSpec.post enc Tryz.prog Tryz.f4 false true false false):=by
 refine returnsInHanded_of_calls Tryz.own started (by kernel_rfl)
  (ChangeSpec.witness_shaped (enc:=enc) (C:=Tryz.checked) (os:=os) (X:=fun w _=>laidMetH Tryz.prog Rows.topFillRow.laid w) false (World.laidAll Tryz.prog os Rows.topFillRow.laid) #[.agg #[.int .i64 0,.slice none 0 0],.slice none 0 0,.int .i64 0] 8 (World.laidAll_os _ _ _) (World.shaped_of_ZipB (by kernel_rfl) (by kernel_rfl)) (by kernel_rfl) (by kernel_rfl) (by kernel_rfl)
   (by rw [MakeChecks.laidMetH_plain _ _ _ (by kernel_rfl)];exact laidMet_laidAll _ (by kernel_rfl) (by kernel_rfl))) ?_
 intro w0 tape i _ hsh _ hok hpre _
 obtain⟨_,_,_,fn',hfn',_,_,_,_,hval0⟩:=hok
 have efn:fn'=Tryz.f4:=Option.some.inj (hfn'.symm.trans Tryz.func4)
 subst efn
 obtain⟨⟨⟨ds,gs,before,hw0,-⟩,hL0⟩,-⟩:=hpre
 have hW:=DataW.Whole.of_heap (w':=w0.forCall tape i) (by rfl) hw0
 have hL:laidMetH Tryz.prog Rows.topFillRow.laid (w0.forCall tape i):=hL0.of_heap (by rfl)
 refine(show Calls Tryz.prog 4 i.args (w0.forCall tape i) (fun e W'=>∃ v,e=.returned v∧Rows.topFillSpec.post enc Tryz.prog Tryz.f4 false true false false (w0.forCall tape i) i.args v W') from ?_).mono fun e W' ⟨v,he,hp⟩=>by subst he;exact ChangeSpec.post_blind hp
 have hval:∀(j:Nat) t v,Tryz.f4.params[j]?=some t→i.args[j]?=some v→Value.okWide Tryz.prog (w0.forCall tape i) .any w0.heap.size t v:=hval0
 generalize w0.forCall tape i=W at *
 generalize i.args=args at *
 have hW':=hW
 obtain⟨p,q,hA0,hV,rfl,hfz,hnd⟩:=hW
 have hA:DataW.TrodAll enc Tryz.prog W 0 (fun _=>true) true Tryz.f4.params.toList args.toList ds p:=hA0
 rw [Tryz.params4] at hA hval
 obtain⟨v0,v1,v2,d0,d1,d2,p0,p1,p2,rfl,rfl,rfl,h0,h1,h2⟩:=trodAll_three hA
 obtain⟨rfl,rfl⟩:=trodVars_none hV
 have lt0:∀ x∈p0,x.block < W.heap.size:=by obtain⟨m,hm⟩:=h0;exact DataW.trod_lt m _ _ _ hm
 have lt1:∀ x∈p1,x.block < W.heap.size:=by obtain⟨m,hm⟩:=h1;exact DataW.trod_lt m _ _ _ hm
 have lt2:∀ x∈p2,x.block < W.heap.size:=by obtain⟨m,hm⟩:=h2;exact DataW.trod_lt m _ _ _ hm
 obtain⟨nA,ga,ca,ra,rfl,hRA⟩:=zcF (hval 0 24 v0 rfl rfl) h0
 obtain⟨vo,vcap,vs,rfl,hRV⟩:=zjA (hval 1 49 v1 rfl rfl) h1
 have h2':=h2
 obtain⟨i2,rfl,rfl,rfl,-⟩:=open_int Tryz.underlying3 (hval 2 3 v2 rfl rfl) h2'
 clear hA0
 refine(zkL W (zd2 hL) nA ga ca ra hRA vo vcap vs hRV i2).mono fun e W' ⟨he,bel⟩=>?_
 subst he
 exact⟨_,rfl,_,_,_,[],_,[],hW',trodAll_mk1 (shut_bool Tryz.underlying4 _),(trodAll_cons_mk (Below.trod Tryz.laidOut (by kernel_rfl) (of_decide_eq_true (by kernel_rfl)) h0 bel lt0) (trodAll_cons_mk (Below.trod Tryz.laidOut (by kernel_rfl) (of_decide_eq_true (by kernel_rfl)) h1 bel lt1) (trodAll_cons_mk (Below.trod Tryz.laidOut (by kernel_rfl) (of_decide_eq_true (by kernel_rfl)) h2 bel lt2) trodAll_mk0))),rfl,bel.frame _,fun h=>by cases h⟩
theorem zkN:Rows.TopFillSaid:=
 OpenClaim.holds_of_wide 4 Tryz.f4 rfl rfl rfl rfl rfl rfl rfl ⟨rfl,rfl,rfl,rfl,rfl⟩ rfl rfl rfl rfl rfl (by kernel_rfl) Tryz.func4 (by kernel_rfl)
  (of_decide_eq_true (by kernel_rfl)) (by unfold Func.isWrapper;first |(rw [if_pos (by decide +kernel)];kernel_rfl) |(rw [if_neg (by decide +kernel)];exact⟨rfl,rfl⟩))
  (fun os started H enc _=>zkM os started H enc)
theorem topFill_holds:Rows.TopFillCardSaid:=
 Claim7.holds_tied_plain_at .later [] [.data,.data,.data] true Rows.topFillCard.stood.harness Rows.topFillCard.stood.looks
  zkN (fun _ h=>by cases h) (by kernel_rfl) (fun _ h=>by cases h) topFill_row_tie rfl ⟨rfl,rfl⟩ (by kernel_rfl) rfl
  (fun f fn hf hfn=>by
   obtain rfl:f=4:=Option.some.inj ((show Tryz.prog.funcNamed Rows.topFillRow.func=some 4 by kernel_rfl).symm.trans hf) |>.symm
   obtain rfl:fn=Tryz.f4:=(Option.some.inj (Tryz.func4.symm.trans hfn)).symm
   exact⟨by kernel_rfl,fun j t ht=>by
    rw [Tryz.params4] at ht
    have hm:t∈[24,49,3]:=by simpa using Array.mem_of_getElem? ht
    have hall:([24,49,3].all fun u=>!Tryz.prog.wantsStandIn u)=true:=by kernel_rfl
    exact(show Tryz.prog.wantsStandIn t=false by simpa using List.all_eq_true.1 hall t hm)⟩)
  (by kernel_rfl)
end Go.Proofs.YtnkcjkpkphjecaaGreatDoor
