/- A disk: a write is put to a sector, whatever is there. -/
import Derived.Test.YtjgodhfnnifchaaDkR
namespace Go.Proofs.Ytjgodhfnnifchaa
open Go.RowKit

/-- Without that of a bit. -/
def without (bit : Int) (l : List (Int × List UInt8)) : List (Int × List UInt8) := l.filter fun p => decide (p.1 ≠ bit)

/-- What DeleteFunc answers. -/
def DelOut (w : World) (base : Nat) (v : Value) (l : List (Int × List UInt8)) (e : Ending) (w' : World) : Prop :=
  ∃ vo vl vc, e = .returned (.slice vo vl vc) ∧ w.grownBy w' v.ownBlock ∧ w'.ownsRow base 88 65 (.slice vo vl vc) l.length (l.flatMap wcells) ∧ (Value.slice vo vl vc).ownBlock = v.ownBlock

theorem delete_any (w : World) (base : Nat) (v : Value) (loose : List (Int × List UInt8)) (bit : Int) (bb : Nat) (hown : w.ownsRow base 88 65 v loose.length (loose.flatMap wcells)) (hok : ∀ p ∈ loose, p.2.length = 64) (hu : loose.Pairwise fun p q => p.1 ≠ q.1) (hc : w.cell? ⟨bb, 0, none⟩ = some (.int .u64 bit)) (hlt : bb < w.heap.size) (hne : v.ownBlock ≠ some bb) :
    Calls Try.prog 49 #[v, .func (.func 50) #[] #[.pointer (some ⟨bb, 0, none⟩)]] w fun e w' => DelOut w base v (without bit loose) e w' := by
  by_cases h : ∃ p ∈ loose, p.1 = bit
  · obtain ⟨p, hp, rfl⟩ := h
    obtain ⟨pre, post, rfl⟩ := List.append_of_mem hp
    obtain ⟨b, d⟩ := p
    rw [List.pairwise_append] at hu
    obtain ⟨-, hu2, hu3⟩ := hu
    have h1 : ∀ q ∈ pre, q.1 ≠ b := fun q hq => hu3 q hq (b, d) (by simp)
    have h2 : ∀ q ∈ post, q.1 ≠ b := fun q hq => fun e => (List.pairwise_cons.1 hu2).1 q hq e.symm
    have hw : without b (pre ++ (b, d) :: post) = pre ++ post := by
      unfold without
      rw [List.filter_append, List.filter_cons_of_neg (by simp), List.filter_eq_self.2 (fun q hq => by simpa using h1 q hq), List.filter_eq_self.2 (fun q hq => by simpa using h2 q hq)]
    have hl : (pre ++ (b, d) :: post).length = pre.length + post.length + 1 := by simp; omega
    rw [hl] at hown
    rcases hown.2 with ⟨-, e⟩ | ⟨lg, cap, cur, rfl, -⟩
    · omega
    refine (deleteSome w base lg cap (pre.length + post.length) pre post b d bb rfl hown hok h1 h2 hc hlt (fun e => hne (by rw [e]; rfl))).mono fun e w' ⟨he, hg, ho⟩ => ?_
    rw [hw]
    exact ⟨_, _, _, he, hg, by rw [List.length_append]; exact ho, rfl⟩
  · have hno : ∀ p ∈ loose, p.1 ≠ bit := fun p hp e => h ⟨p, hp, e⟩
    have hw : without bit loose = loose := List.filter_eq_self.2 (fun q hq => by simpa using hno q hq)
    refine (deleteNone w base v loose bit bb hown hok hno hc hlt).mono fun e w' ⟨he, hb⟩ => ?_
    rw [hw]
    obtain ⟨vo, vl, vc, rfl⟩ : ∃ vo vl vc, v = .slice vo vl vc := by
      rcases hown.2 with ⟨rfl, -⟩ | ⟨lg, lcap, cur, rfl, -⟩
      · exact ⟨_, _, _, rfl⟩
      · exact ⟨_, _, _, rfl⟩
    exact ⟨_, _, _, he, grown_later (grown_refl w _) hb, ownsLater hown hb, rfl⟩

set_option linter.unusedSimpArgs false in
set_option maxRecDepth 100000 in
set_option maxHeartbeats 3200000 in
theorem add_any (w : World) (base B : Nat) (D : Dsk) (g m cap : Nat) (ls : List Value) (i : Nat) (bit : Int) (t : ByteArray) (s : Sec) (h : DiskM w base B D (.slice (some ⟨g, 0, none⟩) m cap) ls) (hs : D.secs[i]? = some s) (ht : t.size ≤ 64) (hb0 : 0 ≤ bit) (hb1 : bit < 18446744073709551616) (hu : s.loose.Pairwise fun p q => p.1 ≠ q.1) (hsm0 : s.loose.length ≤ 1000000) (hbase : base ≤ w.heap.size) :
    Calls Try.prog 36 #[.pointer (some ⟨g, i * 65, none⟩), .int .u64 bit, .string t] w fun e w' => e = .returned (.tuple #[]) ∧ DiskO w' base B { D with secs := D.secs.set i { s with loose := without bit s.loose ++ [(bit, padded t.data.toList)] } } ∧ Kept base w w' := by
  obtain ⟨i0, hi, hz0, hz1, hz2⟩ := info_parts Try.infoWrite
  have htl : t.data.toList.length ≤ 64 := by rw [← Lib.size_eq]; exact ht
  have HMB := hide (h.later ((Below.refl w.heap.size w).alloc (Nat.le_refl _) (.cells #[.int .u64 bit] 35)))
  have HBA0 := hide ((Below.refl w.heap.size w).alloc (Nat.le_refl _) (.cells #[.int .u64 bit] 35))
  have hlt0 : w.heap.size < (w.alloc (.cells #[.int .u64 bit] 35)).heap.size := by simp
  have hgl : g < w.heap.size := by obtain rfl := h.len_eq; obtain ⟨-, cur, hh⟩ := h.block; exact heap_lt hh
  have hisec := (List.getElem?_eq_some_iff.1 hs).1
  obtain ⟨v, hv, cv, -, hown, hfz, hok⟩ := HMB.out.secAt i s hs
  have hf := hfz (i * 65 + 64)
  have HOK := hide hok; have HOW := hide hown; have HV := hide hv; have HS := hide hs; have HUU := hide hu
  have HOB : Hid (∀ b, v.ownBlock = some b → b < w.heap.size ∧ ∃ cs, (w.alloc (.cells #[.int .u64 bit] 35)).heap[b]? = some (.cells cs 88 (0, 0))) := fun b hb => by
    obtain ⟨v0, hv0, -, -, hown0, -⟩ := h.secAt i s hs
    obtain rfl : v0 = v := Option.some.inj (hv0.symm.trans hv)
    rcases hown0.2 with ⟨e, -⟩ | ⟨lg, lcap, lcur, e, -, hlh, -⟩
    · rw [e] at hb; cases hb
    · rw [e] at hb
      simp only [Value.ownBlock, Option.some.injEq] at hb
      subst hb
      exact ⟨heap_lt hlh, _, (HBA0.out.block _ (heap_lt hlh)).trans hlh⟩
  have HGV0 : Hid (some g ≠ v.ownBlock) := fun e => by
    obtain ⟨-, cs, hcs⟩ := HOB.out g e.symm
    obtain rfl := HMB.out.len_eq
    obtain ⟨-, cur, hh⟩ := HMB.out.block
    rw [hh] at hcs
    simp only [Option.some.injEq, Obj.cells.injEq] at hcs
    exact absurd hcs.2.1 (by decide)
  have HBV0 : Hid (some w.heap.size ≠ v.ownBlock) := fun e => by have := (HOB.out _ e.symm).1; omega
  have hmf : ∀ (fn : Fn) (first cap : Array Value) (w : World), (Instr.makeFunc fn first cap).run Try.prog w = .ok (.func fn first cap) w := fun _ _ _ _ => rfl
  have HBB : Hid ((w.alloc (.cells #[.int .u64 bit] 35)).cell? ⟨w.heap.size, 0, none⟩ = some (.int .u64 bit)) := by show _ = _; rw [World.cell?_alloc_new]; rfl
  clear h hs hown hok hv hfz hu
  go_enter Try.func36, Try.ntmps36
  go_wp2_with fail
  refine (delete_any _ base _ s.loose bit w.heap.size HOW.out (fun p hp => (HOK.out.2 p hp).1) HUU.out HBB.out hlt0 (fun e => HBV0.out e.symm)).mono ?_
  rintro e w1 ⟨vo, vl, vcap, rfl, hg1, ho1, hob⟩
  have HSUB : Hid (∀ p ∈ without bit s.loose, p ∈ s.loose) := fun p hp => (List.mem_filter.1 hp).1
  have HRG := hide (HMB.out.regrow i s HS.out v (.slice vo vl vcap) HV.out (without bit s.loose) hg1 ho1 (fun p hp => HOK.out.2 p (HSUB.out p hp)) (fun b hb => .inl (by rw [← hob]; exact hb)))
  have cv1 := hg1.cell cv HGV0.out
  have hf1 : w1.frozen? ⟨g, i * 65 + 64, none⟩ = false := by
    rw [World.frozen?_of_block (a := ⟨g, i * 65 + 64, none⟩) (hg1.block g (by simp; omega) HGV0.out)]
    exact hf
  have cb : (w1.setCell ⟨g, i * 65 + 64, none⟩ (.slice vo vl vcap)).cell? ⟨w.heap.size, 0, none⟩ = some (.int .u64 bit) := (World.cell?_setCell_other (h := fun e => by simp at e <;> omega) ..).trans (hg1.cell HBB.out HBV0.out)
  obtain ⟨s2, hs2⟩ : ∃ s2 : Sec, s2 = { s with loose := without bit s.loose } := ⟨_, rfl⟩
  have HS2E := hide hs2
  have HM2 : Hid (DiskM (w1.setCell ⟨g, i * 65 + 64, none⟩ (.slice vo vl vcap)) base B { D with secs := D.secs.set i s2 } (.slice (some ⟨g, 0, none⟩) m cap) (ls.set i (.slice vo vl vcap))) := by
    have := HRG.out.1
    rw [← hs2] at this
    exact this
  have HK2 := hide ((Kept.of_below (base := base) HBA0.out).trans HRG.out.2)
  have HS2 : Hid ((D.secs.set i s2)[i]? = some s2) := by show _ = _; rw [List.getElem?_set_self hisec]
  have HV2 : Hid ((ls.set i (.slice vo vl vcap))[i]? = some (.slice vo vl vcap)) := by show _ = _; rw [List.getElem?_set_self (List.getElem?_eq_some_iff.1 HV.out).1]
  have HOK2 : Hid s2.ok := by rw [hs2]; exact ⟨HOK.out.1, fun p hp => HOK.out.2 p (HSUB.out p hp)⟩
  have hsm : s2.loose.length ≤ 1000000 := by rw [hs2]; exact Nat.le_trans (List.length_filter_le _ _) hsm0
  have hlt1 : w.heap.size < w1.heap.size := Nat.lt_of_lt_of_le hlt0 hg1.size
  have hw2 : base ≤ (w1.setCell ⟨g, i * 65 + 64, none⟩ (.slice vo vl vcap)).heap.size := by simp; omega
  have hf := hf1
  clear hs2 HRG hg1 ho1 hob cv HMB HBB HOW hmf hf1 HOB HGV0 HBV0 HSUB HOK HUU HV HS hsm0
  have HSV := hide (run_storeVar_new (P := Try.prog) (w1.setCell ⟨g, i * 65 + 64, none⟩ (.slice vo vl vcap)) 88 wZ.toArray (.int .u64 bit :: (noughtB 64).map byteC).toArray (by kernel_rfl) (by simp [wZ]) (by simp [byteC, noughtB, Value.oneCell']))
  have hsz : (w1.setCell ⟨g, i * 65 + 64, none⟩ (.slice vo vl vcap)).heap.size = w1.heap.size := by simp
  have HC1 := hide (copy_in (w1.setCell ⟨g, i * 65 + 64, none⟩ (.slice vo vl vcap)) bit t ht)
  rw [hsz] at HC1
  go_wp2_with (first
    | (show wpList _ _ _ ({ dst := some 17, op := _, type := _, pos := _, after := _, guard := _ } :: _) _ _; refine wpList_buildA rfl 17 rfl 88 #[(0, .tmp 16)] rfl #[(0, .int .u64 bit)] (by simp [Act.eval]) _ (run_build_write _ bit) ?_; refine wpList_allocA rfl 6 rfl 88 rfl _ _ (run_zero_write _) ?_; refine wpList_storeA rfl (.tmp 6) (.tmp 17) 88 rfl rfl ⟨(w1.setCell ⟨g, i * 65 + 64, none⟩ (.slice vo vl vcap)).heap.size, 0, none⟩ _ _ rfl rfl HSV.out ?_)
    | (show wpList _ _ _ ({ dst := some 21, op := _, type := _, pos := _, after := _, guard := _ } :: _) _ _; refine wpList_copyA rfl 21 rfl (.tmp 19) (.tmp 20) 86 9 rfl _ _ _ _ rfl rfl HC1.out ?_))
  have HB4 := hide (show Below w1.heap.size (w1.setCell ⟨g, i * 65 + 64, none⟩ (.slice vo vl vcap)) (((w1.setCell ⟨g, i * 65 + 64, none⟩ (.slice vo vl vcap)).alloc (.cells (.int .u64 bit :: (noughtB 64).map byteC).toArray 88)).setCells w1.heap.size 1 (t.data.toList.map byteC)) from below_setCells (Nat.le_refl _) _ _ _ ((Below.refl _ _).alloc (by rw [hsz]; exact Nat.le_refl _) _))
  have HW4 : Hid ((((w1.setCell ⟨g, i * 65 + 64, none⟩ (.slice vo vl vcap)).alloc (.cells (.int .u64 bit :: (noughtB 64).map byteC).toArray 88)).setCells w1.heap.size 1 (t.data.toList.map byteC)).heap[w1.heap.size]? = some (.cells (wcells (bit, padded t.data.toList)).toArray 88 (0, 0))) := by
    have hn := heap_alloc_new (w1.setCell ⟨g, i * 65 + 64, none⟩ (.slice vo vl vcap)) (.cells (.int .u64 bit :: (noughtB 64).map byteC).toArray 88)
    rw [hsz] at hn
    have := heap_setCells_same (t.data.toList.map byteC) 1 _ _ hn
    rw [padded_cells bit _ htl] at this
    exact this
  have HM4 := hide (HM2.out.later (by rw [hsz]; exact HB4.out))
  have HK4 := hide (HK2.out.trans (Kept.of_below (base := base) (W := (w1.setCell ⟨g, i * 65 + 64, none⟩ (.slice vo vl vcap))) (by rw [hsz]; exact HB4.out)))
  generalize ((w1.setCell ⟨g, i * 65 + 64, none⟩ (.slice vo vl vcap)).alloc (.cells (.int .u64 bit :: (noughtB 64).map byteC).toArray 88)).setCells w1.heap.size 1 (t.data.toList.map byteC) = W4 at *
  generalize hwb : w1.heap.size = wb at *
  have HPL : Hid ((wcells (bit, padded t.data.toList)).length = 65) := wcells_len (padded_len htl)
  obtain ⟨v4, hv4, d1, -, hown4, hfz4, -⟩ := HM4.out.secAt i s2 HS2.out
  obtain rfl : v4 = .slice vo vl vcap := Option.some.inj (hv4.symm.trans HV2.out)
  have d2 := HW4.out
  have HXB := hide (show Below W4.heap.size W4 (W4.drew.alloc (.cells (wcells (bit, padded t.data.toList)).toArray 88)) from (Below.refl _ _).drew.alloc (Nat.le_refl _) _)
  have HMX := hide (HM4.out.later HXB.out)
  have HBS := hide (run_buildSliceA (P := Try.prog) W4.drew 76 88 i0 (.agg wZ.toArray) (wcells (bit, padded t.data.toList)) (by kernel_rfl) hi hz0 (by rw [hz1, HPL.out]) (by rw [HPL.out]; simp [Value.cells, wZ_len]) (by rw [HPL.out]; decide) (by rw [HPL.out]; decide))
  have d3 := (HXB.out.cell (p := ⟨g, i * 65 + 64, none⟩) (Nat.lt_of_lt_of_le hgl (by have := HB4.out.size; rw [hsz] at this; omega))).trans d1
  have d4 : (W4.drew.alloc (.cells (wcells (bit, padded t.data.toList)).toArray 88)).heap[wb]? = some (.cells (wcells (bit, padded t.data.toList)).toArray 88 (0, 0)) := (HXB.out.block wb (heap_lt d2)).trans d2
  have HOW5 := hide (ownsLater hown4 HXB.out)
  have HNEW : Hid (∀ j u, (wcells (bit, padded t.data.toList))[j]? = some u → (W4.drew.alloc (.cells (wcells (bit, padded t.data.toList)).toArray 88)).cell? ((⟨W4.heap.size, 0, none⟩ : Addr).add j) = some u) := World.news_of_block (heap_alloc_new W4.drew _)
  have HONE : Hid (∀ u ∈ wcells (bit, padded t.data.toList), u.oneCell' = true) := fun u hu => by
    simp only [wcells, List.mem_cons, List.mem_map] at hu
    rcases hu with rfl | ⟨b, -, rfl⟩ <;> rfl
  have HBA : Hid (base ≤ (W4.drew.alloc (.cells (wcells (bit, padded t.data.toList)).toArray 88)).heap.size) := by
    have := HB4.out.size
    rw [hsz] at this
    show base ≤ _
    simp
    omega
  have HOV : Hid (∀ b, (Value.slice vo vl vcap).ownBlock = some b → b < wb ∧ ∃ cs, (w1.setCell ⟨g, i * 65 + 64, none⟩ (.slice vo vl vcap)).heap[b]? = some (.cells cs 88 (0, 0))) := fun b hb => by
    obtain ⟨v2, hv2, -, -, hown2, -⟩ := HM2.out.secAt i s2 HS2.out
    obtain rfl : v2 = .slice vo vl vcap := Option.some.inj (hv2.symm.trans HV2.out)
    rcases hown2.2 with ⟨e, -⟩ | ⟨lg, lcap, lcur, e, -, hlh, -⟩
    · rw [e] at hb; cases hb
    · rw [e] at hb
      simp only [Value.ownBlock, Option.some.injEq] at hb
      subst hb
      have := heap_lt hlh
      rw [hsz] at this
      exact ⟨this, _, hlh⟩
  have HGV : Hid (some g ≠ (Value.slice vo vl vcap).ownBlock) := fun e => by
    obtain ⟨-, cs, hcs⟩ := HOV.out g e.symm
    obtain rfl := HM2.out.len_eq
    obtain ⟨-, cur, hh⟩ := HM2.out.block
    rw [hh] at hcs
    simp only [Option.some.injEq, Obj.cells.injEq] at hcs
    exact absurd hcs.2.1 (by decide)
  have HWV : Hid (some wb ≠ (Value.slice vo vl vcap).ownBlock) := fun e => by
    have := (HOV.out wb e.symm).1
    omega
  have HFZ5 : Hid (∀ w5, (W4.drew.alloc (.cells (wcells (bit, padded t.data.toList)).toArray 88)).grownBy w5 (Value.slice vo vl vcap).ownBlock → w5.frozen? ⟨g, i * 65 + 64, none⟩ = false) := fun w5 hg5 => by
    obtain ⟨v5, -, -, -, -, hfx, -⟩ := HMX.out.secAt i s2 HS2.out
    have hgx : g < (W4.drew.alloc (.cells (wcells (bit, padded t.data.toList)).toArray 88)).heap.size := by obtain rfl := HMX.out.len_eq; obtain ⟨-, cur, hh⟩ := HMX.out.block; exact heap_lt hh
    rw [World.frozen?_of_block (a := ⟨g, i * 65 + 64, none⟩) (hg5.block g hgx HGV.out)]
    exact hfx _
  clear hown4 hfz4 hv4
  refine upto_start (S := (fun w' => w'.cell? ⟨g, i * 65 + 64, none⟩ = some (.slice vo vl vcap) ∧ w'.heap[wb]? = some (.cells (wcells (bit, padded t.data.toList)).toArray 88 (0, 0)))) (k := 10) (by kernel_rfl) (by exact ⟨d1, d2⟩) (fun hHeld => ?_)
  refine upto_run (v := ?_) 0 22 [10] rfl rfl (by kernel_rfl) (by kernel_rfl) (by kernel_rfl) (by kernel_rfl) (by kernel_rfl) (fun _ _ _ h => h) (by rfl) ?_ (by assumption) ?_
  rotate_left
  · (intro w hSw; (try dsimp only at hSw); obtain ⟨hS1, hS2⟩ := hSw; go_simp; with_reducible rfl)
  simp only [Act.put, List.setIfInBounds_toArray, List.set_cons_zero, List.set_cons_succ]
  refine upto_run (v := ?_) 1 23 [10] rfl rfl (by kernel_rfl) (by kernel_rfl) (by kernel_rfl) (by kernel_rfl) (by kernel_rfl) (fun _ _ _ h => h) (by rfl) ?_ (by assumption) ?_
  rotate_left
  · (intro w hSw; (try dsimp only at hSw); obtain ⟨hS1, hS2⟩ := hSw; go_simp; with_reducible rfl)
  simp only [Act.put, List.setIfInBounds_toArray, List.set_cons_zero, List.set_cons_succ]
  refine upto_run (v := ?_) 2 24 [10] rfl rfl (by kernel_rfl) (by kernel_rfl) (by kernel_rfl) (by kernel_rfl) (by kernel_rfl) (fun _ _ _ h => h) (by rfl) ?_ (by assumption) ?_
  rotate_left
  · (intro w hSw; (try dsimp only at hSw); obtain ⟨hS1, hS2⟩ := hSw; go_simp; with_reducible rfl)
  simp only [Act.put, List.setIfInBounds_toArray, List.set_cons_zero, List.set_cons_succ]
  refine upto_run (v := ?_) 3 25 [10] rfl rfl (by kernel_rfl) (by kernel_rfl) (by kernel_rfl) (by kernel_rfl) (by kernel_rfl) (fun _ _ _ h => h) (by rfl) ?_ (by assumption) ?_
  rotate_left
  · (intro w hSw; (try dsimp only at hSw); obtain ⟨hS1, hS2⟩ := hSw; go_simp; with_reducible rfl)
  simp only [Act.put, List.setIfInBounds_toArray, List.set_cons_zero, List.set_cons_succ]
  refine upto_run (v := ?_) 4 26 [10] rfl rfl (by kernel_rfl) (by kernel_rfl) (by kernel_rfl) (by kernel_rfl) (by kernel_rfl) (fun _ _ _ h => h) (by rfl) ?_ (by assumption) ?_
  rotate_left
  · (intro w hSw; (try dsimp only at hSw); obtain ⟨hS1, hS2⟩ := hSw; go_simp; with_reducible rfl)
  simp only [Act.put, List.setIfInBounds_toArray, List.set_cons_zero, List.set_cons_succ]
  refine upto_run (v := .agg (wcells (bit, padded t.data.toList)).toArray) 5 27 [10] rfl rfl (by kernel_rfl) (by kernel_rfl) (by kernel_rfl) (by kernel_rfl) (by kernel_rfl) (fun _ _ _ h => h) (by rfl) ?_ (by assumption) ?_
  · intro w hSw
    have hr := run_loadVar_row (P := Try.prog) w wb 88 88 (wcells (bit, padded t.data.toList)).toArray (0, 0) _ hSw.2 Try.underlying88 rfl (by rw [List.size_toArray, HPL.out]; exact Try.sizeWrite)
    simp [execOp, Instr.loadAt, Instr.sureAddr, Act.eval, hr]
  simp only [Act.put, List.setIfInBounds_toArray, List.set_cons_zero, List.set_cons_succ]
  refine upto_one 6 (by kernel_rfl) rfl (fun K hK => ?_)
  refine step_val rfl 28 rfl (.slice (some ⟨W4.heap.size, 0, none⟩) 1 1) (W4.drew.alloc (.cells (wcells (bit, padded t.data.toList)).toArray 88)) (by have hq := HBS.out; simp [execOp, Act.eval, hq]) ?_
  refine hK.out _ _ (fun _ => ⟨d3, d4⟩) ?_
  clear hK K
  simp only [Act.put, List.setIfInBounds_toArray, List.set_cons_zero, List.set_cons_succ]
  refine upto_one 7 (by kernel_rfl) rfl (fun K hK => ?_)
  refine step_append_lies _ rfl (.tmp 26) (.tmp 28) 76 rfl base 88 i0 (.agg wZ.toArray) 65 72 (by kernel_rfl) hi hz0 hz1 hz2 (by simp [Value.cells, wZ_len]) (by decide) (.slice vo vl vcap) s2.loose.length (s2.loose.flatMap wcells) rfl HOW5.out ⟨W4.heap.size, 0, none⟩ 1 1 (wcells (bit, padded t.data.toList)) rfl (by rw [HPL.out]) HNEW.out HONE.out (by decide) (by unfold maxLen; omega) (by omega) HBA.out (W4.heap.size + 1) (by simp) ?_
  intro g5 cap5 w5 hown5 hgrow5 hat5 hlt5
  have HO5 := hide hown5; have HG5 := hide hgrow5; have HA5 := hide hat5
  clear hown5 hgrow5 hat5 hlt5
  have e1 : w5.cell? ⟨g, i * 65 + 64, none⟩ = some (.slice vo vl vcap) := HG5.out.cell d3 HGV.out
  have e2 : w5.heap[wb]? = some (.cells (wcells (bit, padded t.data.toList)).toArray 88 (0, 0)) := (HG5.out.block wb (heap_lt d4) HWV.out).trans d4
  refine hK.out _ _ (fun _ => ⟨e1, e2⟩) ?_
  clear hK K
  simp only [Act.put, List.setIfInBounds_toArray, List.set_cons_zero, List.set_cons_succ]
  have hHeld5 : (fun w' => w'.cell? ⟨g, i * 65 + 64, none⟩ = some (.slice vo vl vcap) ∧ w'.heap[wb]? = some (.cells (wcells (bit, padded t.data.toList)).toArray 88 (0, 0))) w5 := ⟨e1, e2⟩
  refine upto_run (v := ?_) 8 30 [9, 10] rfl rfl (by kernel_rfl) (by kernel_rfl) (by kernel_rfl) (by kernel_rfl) (by kernel_rfl) (fun _ _ _ h => h) (by rfl) ?_ (by assumption) ?_
  rotate_left
  · (intro w hSw; (try dsimp only at hSw); obtain ⟨hS1, hS2⟩ := hSw; go_simp; with_reducible rfl)
  simp only [Act.put, List.setIfInBounds_toArray, List.set_cons_zero, List.set_cons_succ]
  refine upto_run (v := ?_) 9 31 [10] rfl rfl (by kernel_rfl) (by kernel_rfl) (by kernel_rfl) (by kernel_rfl) (by kernel_rfl) (fun _ _ _ h => h) (by rfl) ?_ (by assumption) ?_
  rotate_left
  · (intro w hSw; (try dsimp only at hSw); obtain ⟨hS1, hS2⟩ := hSw; go_simp; with_reducible rfl)
  simp only [Act.put, List.setIfInBounds_toArray, List.set_cons_zero, List.set_cons_succ]
  have ef : w5.frozen? ⟨g, i * 65 + 64, none⟩ = false := HFZ5.out w5 HG5.out
  refine upto_one 10 (by kernel_rfl) rfl (fun K hK => ?_)
  go_simp
  refine hK.out _ _ (fun h => absurd h (by decide)) ?_
  clear hK K
  try simp only [Act.put, List.setIfInBounds_toArray, List.set_cons_zero, List.set_cons_succ]
  refine upto_done (by kernel_rfl) ?_
  have HFIN := hide (HMX.out.regrow i s2 HS2.out _ (.slice (some ⟨g5, 0, none⟩) (s2.loose.length + 1) cap5) HV2.out (s2.loose ++ [(bit, padded t.data.toList)]) HG5.out (by have := HO5.out; rw [List.length_append, List.length_singleton, List.flatMap_append]; simpa using this) (fun p hp => by
    rcases List.mem_append.1 hp with hp | hp
    · exact HOK2.out.2 p hp
    · rw [List.mem_singleton] at hp; rw [hp]; exact ⟨padded_len htl, hb0, hb1⟩) (fun b hb => by
    simp only [Value.ownBlock, Option.some.injEq] at hb
    subst hb
    rcases HA5.out with h | h
    · exact .inl h
    · exact .inr (by rw [h]; simp)))
  have HKF := hide ((HK4.out.trans (Kept.of_below (base := base) HXB.out)).trans HFIN.out.2)
  have HSE : Hid (({ s2 with loose := s2.loose ++ [(bit, padded t.data.toList)] } : Sec) = { s with loose := without bit s.loose ++ [(bit, padded t.data.toList)] }) := by
    show _ = _
    rw [HS2E.out]
  have hl := HFIN.out.1
  rw [HSE.out] at hl
  simp only [List.set_set] at hl
  have HLAST := hide hl
  clear hl
  clear HO5 HG5 HA5 HMX HBS HOW5 HNEW HONE HOV HGV HWV HFZ5 e1 e2 ef hHeld5 hHeld d1 d2 d3 d4
  go_wp2
  exact bodyPost_end (results_none rfl _ _ _) rfl ⟨rfl, ⟨_, _, HLAST.out⟩, HKF.out⟩

end Go.Proofs.Ytjgodhfnnifchaa
