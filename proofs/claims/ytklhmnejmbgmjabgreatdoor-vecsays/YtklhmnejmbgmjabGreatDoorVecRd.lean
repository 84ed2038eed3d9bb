/- Any text, read as a vector by the reference. -/
import Derived.Test.YtklhmnejmbgmjabGreatDoorWords
import Derived.Test.YtklhmnejmbgmjabGreatDoorReadF
import Derived.Test.YtklhmnejmbgmjabGreatDoorVecQ
namespace Go.Proofs.YtklhmnejmbgmjabGreatDoor
open Go.RowKit Limbs Digs

theorem read_rd (w : World) (p : ByteArray) (o : Option Int) (hp : p.size ≤ 400) (h : Rd p o) :
    Calls Tryz.prog 54 #[.string p] w fun e w' => (∀ z, o = some z → ReadR w z 400 e w') ∧ (o = none → ErrR w 5 e w') := by
  obtain ⟨t, neg, hF, ho⟩ := h
  have ht := falls_size hF
  refine (read_any w p t neg hp hF).mono fun e w' hpp => ?_
  rcases ho with ⟨hg, rfl⟩ | ⟨hg, rfl⟩
  · refine ⟨fun z hz => ?_, fun h => by cases h⟩
    obtain ⟨v, h1, h2, h3⟩ := hpp.1 hg
    cases hz
    exact ⟨v, h1, h2.mono (by omega), h3⟩
  · exact ⟨(fun z hz => by cases hz), fun _ => hpp.2 hg⟩

def RVPost (w : World) (o : Except Int (List Int)) (e : Ending) (w' : World) : Prop :=
  match o with
  | .error n => e = .returned (.tuple #[.slice none 0 0, .int .i64 n]) ∧ Below w.heap.size w w'
  | .ok zs => ∃ v, e = .returned (.tuple #[v, .int .i64 0]) ∧ VecN w' v zs 400 ∧ Below w.heap.size w w'

set_option maxRecDepth 100000 in
set_option maxHeartbeats 1600000 in
theorem readV_bad (w : World) (s : ByteArray) (hs : s.size ≤ 100000) (h : s.size < 2 ∨ byt s 0 ≠ 40 ∨ byt s (s.size - 1) ≠ 41) :
    Calls Tryz.prog 15 #[.string s] w fun e w' => RVPost w (.error 5) e w' := by
  have HF : Hid (RVPost w (.error 5) (.returned (.tuple #[.slice none 0 0, .int .i64 5])) w) := ⟨rfl, Below.refl _ _⟩
  by_cases h2 : s.size < 2
  · have hi : (s.size : Int) < 2 := by omega
    have hd : decide ((s.size : Int) < 2) = true := decide_eq_true hi
    clear h
    go_enter Tryz.func15, Tryz.ntmps15
    go_wp2
    exact bodyPost_ret (v := .tuple #[.slice none 0 0, .int .i64 5]) (by simp [results, Tryz.results15, go_sem]) rfl HF.out
  · have hd : decide ((s.size : Int) < 2) = false := decide_eq_false (by omega)
    have g0 : 0 < s.size := by omega
    by_cases h3 : byt s 0 = 40
    · have h4 : byt s (s.size - 1) ≠ 41 := by rcases h with h | h | h; exact absurd h h2; exact absurd h3 h; exact h
      obtain ⟨m, hm⟩ : ∃ m, s.size = m + 2 := ⟨s.size - 2, by omega⟩
      have g1 : m + 1 < s.size := by omega
      rw [hm, show m + 2 - 1 = m + 1 by omega] at h4
      have e0 : (((s[0]'g0).toNat : Int)) = 40 := by rw [byt_eq g0]; exact h3
      have e1 : (((s[m + 1]'g1).toNat : Int) == 41) = false := by rw [byt_eq g1, beq_eq_false_iff_ne]; exact h4
      have e2 : (((s[m + 1]'g1).toNat : Int) != 41) = true := by rw [byt_eq g1, bne_iff_ne]; exact h4
      have e3 : ¬ (((s[m + 1]'g1).toNat : Int) = 41) := by rw [byt_eq g1]; exact h4
      have hsz : (s.size : Int) = (m : Int) + 2 := by omega
      rw [hsz] at hd
      clear h h2 h3 h4
      go_enter Tryz.func15, Tryz.ntmps15
      go_wp2
      exact bodyPost_ret (v := .tuple #[.slice none 0 0, .int .i64 5]) (by simp [results, Tryz.results15, go_sem]) rfl HF.out
    · have e1 : (((s[0]'g0).toNat : Int) == 40) = false := by rw [byt_eq g0, beq_eq_false_iff_ne]; exact h3
      have e2 : (((s[0]'g0).toNat : Int) != 40) = true := by rw [byt_eq g0, bne_iff_ne]; exact h3
      have e3 : ¬ (((s[0]'g0).toNat : Int) = 40) := by rw [byt_eq g0]; exact h3
      clear h h2 h3
      go_enter Tryz.func15, Tryz.ntmps15
      go_wp2
      exact bodyPost_ret (v := .tuple #[.slice none 0 0, .int .i64 5]) (by simp [results, Tryz.results15, go_sem]) rfl HF.out

/-- So many are read. -/
def RdInv (w1 wr : World) (v : Value) (os : List (Option Int)) (k : Nat) (ps : List (Nm × Int)) : Prop :=
  Grow wr w1.heap.size v ps 400 ∧ ps.map (·.2) = (os.map (·.getD 0)).take k ∧ none ∉ os.take k ∧ Below w1.heap.size w1 wr

set_option maxRecDepth 100000 in
set_option maxHeartbeats 1600000 in
theorem readV_in (w : World) (s l : ByteArray) (o : Except Int (List Int)) (hs : s.size ≤ 300) (hbr : Brack s l)
    (ho : (8 < (pieces l.data.toList).length ∧ o = .error 6) ∨ ((pieces l.data.toList).length ≤ 8 ∧ ∃ os, RdAll ((pieces l.data.toList).map bytes) os ∧ ((none ∈ os ∧ o = .error 5) ∨ (none ∉ os ∧ o = .ok (os.map (·.getD 0)))))) :
    Calls Tryz.prog 15 #[.string s] w fun e w' => RVPost w o e w' := by
  obtain ⟨i0, hi, hz0, hz1, hz2⟩ := info_parts Tryz.infoNum
  obtain ⟨hs1, hs2, hs3, hs4⟩ := hbr
  have HSZ := hide (pieces_size l.data.toList)
  have hll : l.data.toList.length ≤ 300 := by show l.size ≤ 300; omega
  have hpn : 0 < (pieces l.data.toList).length := List.length_pos_iff.2 (pieces_ne _)
  have hpc := pieces_count l.data.toList
  have HWD := hide (fun w => words_any w l (by omega))
  generalize hps : pieces l.data.toList = ps at *
  have HO := hide ho
  have g0 : 0 < s.size := by omega
  have g1 : l.size + 1 < s.size := by omega
  have e0 : (((s[0]'g0).toNat : Int)) = 40 := by rw [byt_eq g0]; exact hs2
  have e1 : (((s[l.size + 1]'g1).toNat : Int)) = 41 := by rw [byt_eq g1]; exact hs3
  have hsz : (s.size : Int) = (l.size : Int) + 2 := by omega
  clear hs2 hs3 ho hps
  go_enter Tryz.func15, Tryz.ntmps15
  go_wp2_with fail
  refine (HWD.out w).mono ?_
  rintro e w1 ⟨v, rfl, hst, hb1⟩
  obtain ⟨so, sc, rfl, -, hst⟩ := hst
  have HB1 := hide hb1
  have HST := hide hst
  rw [List.length_map]
  rw [List.length_map] at HST
  clear hb1 hst HWD
  rcases HO.out with ⟨h8, rfl⟩ | ⟨h8, os, hrd, ho⟩
  · have hc8 : (8 : Int) < (ps.length : Int) := by omega
    have hc8' : decide ((8 : Int) < (ps.length : Int)) = true := decide_eq_true hc8
    have HF : Hid (RVPost w (.error 6) (.returned (.tuple #[.slice none 0 0, .int .i64 6])) w1) := ⟨rfl, HB1.out⟩
    clear HO HSZ HST
    go_wp2
    exact bodyPost_ret (v := .tuple #[.slice none 0 0, .int .i64 6]) (by simp [results, Tryz.results15, go_sem]) rfl HF.out
  have hc8 : ¬ ((8 : Int) < (ps.length : Int)) := by omega
  have hc8' : decide ((8 : Int) < (ps.length : Int)) = false := decide_eq_false hc8
  have HRD := hide hrd
  have HOO := hide ho
  have hol : os.length = ps.length := by have := hrd.1; rwa [List.length_map] at this
  clear HO hrd ho
  have HPS : Hid (∀ k, k < ps.length → ((ps.map bytes).getD k ByteArray.empty).size ≤ 400) := fun k hk => by
    have := HSZ.out ps[k] (List.getElem_mem hk)
    rw [List.getD_eq_getElem?_getD, List.getElem?_map, List.getElem?_eq_getElem hk]
    show ps[k].length ≤ 400
    omega
  clear HSZ
  go_wp2
  go_loopw [5, 6] (fun v i wr => ∃ (k : Nat) (qs : List (Nm × Int)), k ≤ ps.length ∧ i = .int .i64 k ∧ RdInv w1 wr v os k qs) (fun _ i _ => ps.length - (intOf i).toNat)
  case atStart => exact ⟨0, [], Nat.zero_le _, rfl, Grow.nil _ _ _, by simp, by simp, Below.refl _ _⟩
  case round =>
    obtain ⟨k, qs, hk, rfl, hinv⟩ := hrel
    have HI := hide hinv
    clear hinv
    have HQL : Hid (qs.length = k) := by
      have := congrArg List.length HI.out.2.1
      rw [List.length_map, List.length_take, List.length_map] at this
      show qs.length = k
      omega
    by_cases hkl : k < ps.length
    · obtain ⟨sb, rfl, hsb, hcs⟩ := HST.out (by omega)
      have hs0 : wr.cell? ⟨sb, k, none⟩ = some (.string ((ps.map bytes).getD k ByteArray.empty)) := (HI.out.2.2.2.cell (p := ⟨sb, k, none⟩) hsb).trans (hcs k hkl)
      have HZ := hide (HPS.out k hkl)
      have HR := hide (HRD.out.2 k (by rw [List.length_map]; exact hkl))
      clear hcs
      generalize (ps.map bytes).getD k ByteArray.empty = p at *
      go_wp2_with fail
      refine (read_rd wr p _ HZ.out HR.out).mono ?_
      rintro e w2 ⟨hp1, hp2⟩
      cases hok : os.getD k none with
      | none =>
        obtain ⟨rfl, hb⟩ := hp2 hok
        have HE : Hid (o = .error 5) := by
          rcases HOO.out with ⟨-, h⟩ | ⟨h, -⟩
          · exact h
          · refine absurd ?_ h
            rw [List.getD_eq_getElem?_getD, List.getElem?_eq_getElem (by omega), Option.getD_some] at hok
            rw [← hok]
            exact List.getElem_mem _
        obtain rfl := HE.out
        have HF : Hid (∀ ob, RVPost w (.error 5) (.returned (.tuple #[.slice none 0 0, .int .i64 5])) (w2.alloc ob)) := fun ob =>
          ⟨rfl, HB1.out.trans ((HI.out.2.2.2.trans (hb.mono HI.out.2.2.2.size)).mono HB1.out.size |>.alloc (by have := HB1.out.size; have := HI.out.2.2.2.size; have := hb.size; omega) _)⟩
        clear hp1 hp2 hb HE HI HZ HR hs0 hok
        go_wp2
        exact bodyPost_ret (v := .tuple #[.slice none 0 0, .int .i64 5]) (by simp [results, Tryz.results15, go_sem]) rfl (HF.out _)
      | some z =>
        obtain ⟨v, rfl, hv, hb⟩ := hp1 z hok
        obtain ⟨rs, ro, rl, rc, rfl, -⟩ := hv.form
        have hbA : Below w2.heap.size w2 (w2.alloc (.cells #[.int .i64 rs, .slice ro rl rc] 51)) := (Below.refl _ _).alloc (Nat.le_refl _) _
        have HV3 := hide (hv.below hbA (Nat.le_refl _))
        have HG3 := hide ((HI.out.1.later hb).later hbA)
        have HB3 := hide ((HI.out.2.2.2.trans (hb.mono HI.out.2.2.2.size)).trans (hbA.mono (by have := HI.out.2.2.2.size; have := hb.size; omega)))
        have HT : Hid (none ∉ os.take (k + 1)) := opt_take (by omega) HI.out.2.2.1 hok
        have HM : Hid (∀ r : Nm, (qs ++ [(r, z)]).map (·.2) = (os.map (·.getD 0)).take (k + 1)) := fun r => by
          have h3 : (os.map (fun q : Option Int => q.getD 0))[k]'(by rw [List.length_map]; omega) = z := by
            rw [List.getD_eq_getElem?_getD, List.getElem?_eq_getElem (by omega), Option.getD_some] at hok
            rw [List.getElem_map, hok]
            rfl
          rw [List.take_succ_eq_append_getElem (by rw [List.length_map]; omega), h3, List.map_append, HI.out.2.1]
          rfl
        clear hp1 hp2 hb hv hbA HI HZ HR hs0 hok
        go_wp2_with fail
        generalize w2.alloc (.cells #[.int .i64 rs, .slice ro rl rc] 51) = W3 at *
        refine (intR_new W3 _ z 400 HV3.out).mono ?_
        rintro e w4 ⟨⟨r, rfl, hr, hb4⟩, hnew⟩
        obtain ⟨⟨rn, ro', rl', rc'⟩, rfl⟩ := hr.nm
        have HAP : Hid (apart u5.ownBlock (Nm.sl ⟨rn, ro', rl', rc'⟩)) := HG3.out.fresh (Nat.le_refl _) (hnew _ _ rfl)
        have HG4 := hide (HG3.out.later hb4)
        have HB4 := hide (HB3.out.trans (hb4.mono HB3.out.size))
        have HR4 : Hid (NumL w4 (Nm.val ⟨rn, ro', rl', rc'⟩) z 400) := hr
        have hown := HG4.out.1
        clear hr hb4 hnew HG3 HB3 HV3
        go_wp2_with (at_builtin; refine wpList_append_lies _ rfl _ _ 23 rfl w1.heap.size 26 i0 (.agg #[.bool false, .slice none 0 0]) 2 32 (by kernel_rfl) hi hz0 hz1 hz2 rfl (by decide) u5 qs.length (qs.flatMap ncells) rfl (hown.alloc _) ⟨w4.heap.size, 0, none⟩ 1 1 [.bool rn, .slice ro' rl' rc'] rfl rfl (World.news_of_block (heap_alloc_new w4 _)) (fun u hu => by simp only [List.mem_cons, List.mem_nil_iff, or_false] at hu; rcases hu with rfl | rfl <;> rfl) (by decide) (by unfold maxLen; have := HQL.out; omega) (by have := HQL.out; omega) (by simp; have := HB4.out.size; omega) (w4.heap.size + 1) (by simp) ?_)
        intro g cap w5 hown5 hgrow5 hat5 hlt5
        have HN : Hid (RdInv w1 w5 (.slice (some ⟨g, 0, none⟩) (qs.length + 1) cap) os (k + 1) (qs ++ [(⟨rn, ro', rl', rc'⟩, z)])) :=
          ⟨grow_snoc HG4.out HR4.out HAP.out hown5 hgrow5 hat5, HM.out _, HT.out, HB4.out.trans (grow_below HG4.out HB4.out.size hgrow5)⟩
        clear hown hown5 hgrow5 hat5 hlt5 HG4 HR4 HAP HB4 HM HT
        go_wp2
        go_roundw
        case rel => exact ⟨k + 1, _, by omega, by go_num, HN.out⟩
        case measure => simp [intOf]; omega
    · obtain rfl : k = ps.length := by omega
      have HE : Hid (o = .ok (os.map (·.getD 0))) := by
        rcases HOO.out with ⟨h, -⟩ | ⟨-, h⟩
        · have := HI.out.2.2.1
          rw [← hol, List.take_length] at this
          exact absurd h this
        · exact h
      obtain rfl := HE.out
      have HF : Hid (RVPost w (.ok (os.map (·.getD 0))) (.returned (.tuple #[u5, .int .i64 0])) wr) := by
        have h1 := HI.out.1.vec
        have e : qs.map (·.2) = os.map (·.getD 0) := by rw [HI.out.2.1]; exact List.take_of_length_le (by rw [List.length_map]; omega)
        rw [e] at h1
        exact ⟨_, rfl, h1, HB1.out.trans (HI.out.2.2.2.mono HB1.out.size)⟩
      clear HI HE HST HB1
      go_wp2
      exact bodyPost_ret (v := .tuple #[u5, .int .i64 0]) (by simp [results, Tryz.results15, go_sem]) rfl HF.out

theorem readV_gen (w : World) (s : ByteArray) (o : Except Int (List Int)) (hs : s.size ≤ 300) (ho : SpecV s o) :
    Calls Tryz.prog 15 #[.string s] w fun e w' => RVPost w o e w' := by
  rcases ho with ⟨h, rfl⟩ | ⟨h2, h0, h1, h8, rfl⟩ | ⟨h2, h0, h1, h8, h⟩
  · exact readV_bad w s (by omega) h
  · exact readV_in w s _ _ hs (brack_of h2 h0 h1) (.inl ⟨h8, rfl⟩)
  · exact readV_in w s _ _ hs (brack_of h2 h0 h1) (.inr ⟨h8, h⟩)

end Go.Proofs.YtklhmnejmbgmjabGreatDoor
