/- LatticeSaysCardSaid, proved: of any two lattices of small vectors, and any vector, what is made of them, whether it lies in the first one and how, what putting it in makes, the whole, what is filled, sum, meet and inside are what the document says. No condition beside the card's own tie of three tables to the program's text. -/
import Derived.Test.YtdedolkgcdlmeaaGreatDoorOpenG
import Derived.Test.YtdedolkgcdlmeaaGreatDoorCards
import Derived.Test.YtdedolkgcdlmeaaGreatDoorTie
import Derived.LaidMore
import Derived.Lib.LaidTab
import Derived.ChangeMaps5
import Derived.OpenShut
import Derived.Stop.Joined
import Derived.Shelf.Vars
import Derived.Lay
import Derived.MakeChecks
namespace Go.Proofs.YtdedolkgcdlmeaaGreatDoor
open Go.ChangeShapes Go.WideShapes Go.ChangeAt Go.RowKit Go.Joins Limbs
set_option maxRecDepth 100000 in
theorem zjI {H:Type}{enc:TypeId × Value→H}{W:World}{r:Reach}{b0:Nat}{v:Value}{d:DataW H}{p:List MemPlace}
  (hv:Value.okWide Tryz.prog W r b0 38 v) (h:DataW.Trod enc Tryz.prog W 0 (fun _=>true) true 38 v d p):∃ vo vcap vs,v=.slice vo (List.length (α:=Int) vs) vcap∧RowS W (.slice vo vs.length vcap) vs:=by
 obtain⟨a0,len,cap,rfl⟩:=okWide_slice Tryz.underlying38 hv
 obtain⟨fuel,hf⟩:=h
 obtain⟨vs,hr⟩:=zfG (v:=.slice a0 len cap) hf
 have hr':=hr
 obtain⟨ao,cap',e,-⟩:=hr
 simp only [zV] at e
 obtain⟨rfl,rfl,rfl⟩:=e
 exact⟨_,_,vs,rfl,hr'⟩
theorem zkF {W:World}(h:laidMetH Tryz.prog Rows.latticeSaysRow.laid W):Tab W:=by
 have h1 := h.filter (fun x => x.1 == "internal/strconv.uint64pow10")
 have e : (Rows.latticeSaysRow.laid.filter fun x => x.1 == "internal/strconv.uint64pow10") = [("internal/strconv.uint64pow10", Lib.tabData .u64 Lib.pow10Tab)] := by rfl
 rw [e] at h1
 have h2 : laidMet Tryz.prog [("internal/strconv.uint64pow10", Lib.tabData .u64 Lib.pow10Tab)] W := (laidMetH_iff.1 h1).1
 exact Lib.tabIs_of_head (g:=2) (t:=207) (e:=140) (by kernel_rfl) (by kernel_rfl) Tryz.underlying207 Tryz.underlying140 (by kernel_rfl) (by kernel_rfl) h2
set_option maxRecDepth 100000 in
theorem ziN (os:Os)(started:os.Started)(H:Type)(enc:TypeId × Value→H):
  ReturnsInHanded {} Tryz.checked os 5 .any (fun w args=>(Rows.latticeSaysSpec.pre enc Tryz.prog Tryz.f5 [] false w args∧laidMetH Tryz.prog Rows.latticeSaysRow.laid w)∧sizedMet enc Tryz.prog Tryz.f5 (OpenSpec.ofChange Rows.latticeSaysSpec) false w args)
   (Rows.latticeSaysSpec.post enc Tryz.prog Tryz.f5 false true false false):=by
 refine returnsInHanded_of_calls Tryz.own started (by kernel_rfl)
  (ChangeSpec.witness_shaped (enc:=enc) (C:=Tryz.checked) (os:=os) (X:=fun w _=>laidMetH Tryz.prog Rows.latticeSaysRow.laid w) false (World.laidAll Tryz.prog os Rows.latticeSaysRow.laid) #[.agg #[.int .i64 0,.slice none 0 0],.agg #[.int .i64 0,.slice none 0 0],.slice none 0 0] 8 (World.laidAll_os _ _ _) (World.shaped_of_ZipB (by kernel_rfl) (by kernel_rfl)) (by kernel_rfl) (by kernel_rfl) (by kernel_rfl)
   (by rw [MakeChecks.laidMetH_plain _ _ _ (by kernel_rfl)];exact laidMet_laidAll _ (by kernel_rfl) (by kernel_rfl))) ?_
 intro w0 tape i _ hsh _ hok hpre _
 obtain⟨_,_,_,fn',hfn',_,_,_,_,hval0⟩:=hok
 have efn:fn'=Tryz.f5:=zI (hfn'.symm.trans Tryz.func5)
 subst efn
 obtain⟨⟨⟨ds,gs,before,hw0,-⟩,hL0⟩,-⟩:=hpre
 have hW:=DataW.Whole.of_heap (w':=w0.forCall tape i) (by rfl) hw0
 have hL:laidMetH Tryz.prog Rows.latticeSaysRow.laid (w0.forCall tape i):=hL0.of_heap (by rfl)
 refine(show Calls Tryz.prog 5 i.args (w0.forCall tape i) (fun e W'=>∃ v,e=.returned v∧Rows.latticeSaysSpec.post enc Tryz.prog Tryz.f5 false true false false (w0.forCall tape i) i.args v W') from ?_).mono fun e W' ⟨v,he,hp⟩=>by subst he;exact ChangeSpec.post_blind hp
 have hval:∀(j:Nat) t v,Tryz.f5.params[j]?=some t→i.args[j]?=some v→Value.okWide Tryz.prog (w0.forCall tape i) .any w0.heap.size t v:=hval0
 generalize w0.forCall tape i=W at *
 generalize i.args=args at *
 have hW':=hW
 obtain⟨p,q,hA0,hV,rfl,hfz,hnd⟩:=hW
 have hA:DataW.TrodAll enc Tryz.prog W 0 (fun _=>true) true Tryz.f5.params.toList args.toList ds p:=hA0
 rw [Tryz.params5] at hA hval
 obtain⟨v0,v1,v2,d0,d1,d2,p0,p1,p2,rfl,rfl,rfl,h0,h1,h2⟩:=trodAll_three hA
 obtain⟨rfl,rfl⟩:=trodVars_none hV
 have lt0:∀ x∈p0,x.block<W.heap.size:=by obtain⟨m,hm⟩:=h0;exact DataW.trod_lt m _ _ _ hm
 have lt1:∀ x∈p1,x.block<W.heap.size:=by obtain⟨m,hm⟩:=h1;exact DataW.trod_lt m _ _ _ hm
 have lt2:∀ x∈p2,x.block<W.heap.size:=by obtain⟨m,hm⟩:=h2;exact DataW.trod_lt m _ _ _ hm
 obtain⟨nA,ga,ca,ra,rfl,hRA⟩:=zfF (hval 0 53 v0 rfl rfl) h0
 obtain⟨nB,gb,cb,rb,rfl,hRB⟩:=zfF (hval 1 53 v1 rfl rfl) h1
 obtain⟨vo,vcap,vs,rfl,hRV⟩:=zjI (hval 2 38 v2 rfl rfl) h2
 clear hA0
 refine(ziM W (zkF hL) nA nB ga gb vo ca cb vcap ra rb vs hRA hRB hRV).mono fun e W' ⟨he,bel⟩=>?_
 subst he
 exact⟨_,rfl,_,_,_,[],_,[],hW',trodAll_mk1 (shut_bool Tryz.underlying4 _),(trodAll_cons_mk (Below.trod Tryz.laidOut (by kernel_rfl) (of_decide_eq_true (by kernel_rfl)) h0 bel lt0) (trodAll_cons_mk (Below.trod Tryz.laidOut (by kernel_rfl) (of_decide_eq_true (by kernel_rfl)) h1 bel lt1) (trodAll_cons_mk (Below.trod Tryz.laidOut (by kernel_rfl) (of_decide_eq_true (by kernel_rfl)) h2 bel lt2) trodAll_mk0))),rfl,bel.frame _,fun h=>by cases h⟩
theorem ziO:Rows.LatticeSaysSaid:=
 OpenClaim.holds_of_wide 5 Tryz.f5 rfl rfl rfl rfl rfl rfl rfl ⟨rfl,rfl,rfl,rfl,rfl⟩ rfl rfl rfl rfl rfl (by kernel_rfl) Tryz.func5 (by kernel_rfl)
  (of_decide_eq_true (by kernel_rfl)) (by unfold Func.isWrapper;first |(rw [if_pos (by decide +kernel)];kernel_rfl) |(rw [if_neg (by decide +kernel)];exact⟨rfl,rfl⟩))
  (fun os started H enc _=>ziN os started H enc)
theorem latticeSays_holds:Rows.LatticeSaysCardSaid:=
 Claim7.holds_tied_plain_at .later [] [.data,.data,.data] true Rows.latticeSaysCard.stood.harness Rows.latticeSaysCard.stood.looks
  ziO (fun _ h=>by cases h) (by kernel_rfl) (fun _ h=>by cases h) latticeSays_row_tie rfl ⟨rfl,rfl⟩ (by kernel_rfl) rfl
  (fun f fn hf hfn=>by
   obtain rfl:f=5:=zI ((show Tryz.prog.funcNamed Rows.latticeSaysRow.func=some 5 by kernel_rfl).symm.trans hf) |>.symm
   obtain rfl:fn=Tryz.f5:=(zI (Tryz.func5.symm.trans hfn)).symm
   exact⟨by kernel_rfl,fun j t ht=>by
    rw [Tryz.params5] at ht
    have hm:t∈[53,53,38]:=by simpa using Array.mem_of_getElem? ht
    have hall:([53,53,38].all fun u=>!Tryz.prog.wantsStandIn u)=true:=by kernel_rfl
    exact(show Tryz.prog.wantsStandIn t=false by simpa using List.all_eq_true.1 hall t hm)⟩)
  (by kernel_rfl)
end Go.Proofs.YtdedolkgcdlmeaaGreatDoor
