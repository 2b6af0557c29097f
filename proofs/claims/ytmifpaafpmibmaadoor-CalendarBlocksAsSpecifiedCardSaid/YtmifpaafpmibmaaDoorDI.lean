/- What the program and the reference both return; the walk of CalendarCoversAsSpecified. -/
import Derived.Test.YtmifpaafpmibmaaDoorDH
import Derived.Test.YtmifpaafpmibmaaDoorCM
namespace Go.Proofs.YtmifpaafpmibmaaDoor
open Go.RowKit Hm Wm Cm

theorem zero_rivermarkref06_Listed : (Tryd.prog.info? 37).map (·.zero) = some (some (.agg #[.slice none 0 0, .int .i64 0])) := by kernel_rfl
theorem fa_rivermarkref06_Listed_0_0 (g : Nat) (W : World) : (Instr.fieldAt 37 (.pointer (some ⟨g, 0, none⟩)) 0).run Tryd.prog W = .ok (.pointer (some ⟨g, 0, none⟩)) W := by kernel_rfl
theorem flat___api_Bin (W : World) : (isAgg 33).run Tryd.prog W = .ok false W := by kernel_rfl
theorem fa_rivermarkref06_Listed_1_0 (g : Nat) (W : World) : (Instr.fieldAt 37 (.pointer (some ⟨g, 0, none⟩)) 1).run Tryd.prog W = .ok (.pointer (some ⟨g, 1, none⟩)) W := by kernel_rfl
theorem flat_api_Errno (W : World) : (isAgg 25).run Tryd.prog W = .ok false W := by kernel_rfl
theorem RdB.nil (w : World) : RdB w none (([] : List Bk).map toI) := Rd.nil w none
theorem of_nilP {F : Nat} {args : Array Value} {er : Int} {W : World} (h : Calls Tryd.prog F args W fun e w' => e = .returned (.tuple #[.slice none 0 0, .int .i64 er]) ∧ Below W.heap.size W w') : Calls Tryd.prog F args W fun e w' => (∃ A c, e = .returned (.tuple #[.slice A ([] : List Bk).length c, .int .i64 er]) ∧ RdB w' A (([] : List Bk).map toI)) ∧ Below W.heap.size W w' := by
  refine h.mono ?_
  rintro e w' ⟨rfl, hb⟩
  exact ⟨⟨none, 0, rfl, RdB.nil _⟩, hb⟩
theorem of_nilR {F : Nat} {args : Array Value} {er : Int} {W : World} (h : Calls Tryd.prog F args W fun e w' => e = .returned (LsV (.slice none 0 0) er) ∧ Below W.heap.size W w') : Calls Tryd.prog F args W fun e w' => (∃ A c, e = .returned (LsV (.slice A ([] : List Bk).length c) er) ∧ RdB w' A (([] : List Bk).map toI)) ∧ Below W.heap.size W w' := by
  refine h.mono ?_
  rintro e w' ⟨rfl, hb⟩
  exact ⟨⟨none, 0, rfl, RdB.nil _⟩, hb⟩
theorem of_rowP {F : Nat} {args : Array Value} {l : List Bk} {W : World} (h : Calls Tryd.prog F args W fun e w' => (∃ v, e = .returned (.tuple #[v, .int .i64 0]) ∧ Row w' W.heap.size v l) ∧ Below W.heap.size W w') : Calls Tryd.prog F args W fun e w' => (∃ A c, e = .returned (.tuple #[.slice A l.length c, .int .i64 0]) ∧ RdB w' A (l.map toI)) ∧ Below W.heap.size W w' := by
  refine h.mono ?_
  rintro e w' ⟨⟨v, rfl, hr⟩, hb⟩
  obtain ⟨A, c, rfl, _, h2⟩ := hr.reads
  exact ⟨⟨A, c, rfl, h2⟩, hb⟩
theorem of_rowR {F : Nat} {args : Array Value} {l : List Bk} {W : World} (h : Calls Tryd.prog F args W fun e w' => (∃ v, e = .returned (LsV v 0) ∧ Row w' W.heap.size v l) ∧ Below W.heap.size W w') : Calls Tryd.prog F args W fun e w' => (∃ A c, e = .returned (LsV (.slice A l.length c) 0) ∧ RdB w' A (l.map toI)) ∧ Below W.heap.size W w' := by
  refine h.mono ?_
  rintro e w' ⟨⟨v, rfl, hr⟩, hb⟩
  obtain ⟨A, c, rfl, _, h2⟩ := hr.reads
  exact ⟨⟨A, c, rfl, h2⟩, hb⟩
theorem cover_both (a b : Int) : ∃ (l : List Bk) (er : Int), l.length ≤ 2 ^ 40 ∧ (∀ W, Lens W → Calls Tryd.prog 18 #[.int .i64 a, .int .i64 b] W fun e w' => (∃ A c, e = .returned (.tuple #[.slice A l.length c, .int .i64 er]) ∧ RdB w' A (l.map toI)) ∧ Below W.heap.size W w') ∧ (∀ W, Calls Tryd.prog 19 #[.int .i64 a, .int .i64 b] W fun e w' => (∃ A c, e = .returned (LsV (.slice A l.length c) er) ∧ RdB w' A (l.map toI)) ∧ Below W.heap.size W w') := by
  by_cases h : intB a b = true
  · have hi : 0 ≤ a ∧ a ≤ b ∧ b ≤ 1402560 := of_decide_eq_true h
    obtain ⟨x, rfl⟩ : ∃ x : Nat, a = (x : Int) := ⟨a.toNat, by omega⟩
    obtain ⟨y, rfl⟩ : ∃ y : Nat, b = (y : Int) := ⟨b.toNat, by omega⟩
    have hxy : x ≤ y := by omega
    have hyM : y ≤ M := by show y ≤ 1402560; omega
    refine ⟨g 4 x y, 0, ?_, fun W hl => of_rowP (Cover_yes x y W hxy hyM hl), fun W => of_rowR (rcover_yes x y W hxy hyM)⟩
    have := len_gen 4 (Nat.le_refl 4) x y hxy hyM (fun h => absurd h (by omega))
    omega
  · rw [Bool.not_eq_true] at h
    refine ⟨[], 3, by simp, fun W _ => of_nilP ?_, fun W => of_nilR (rcover_no a b W h)⟩
    refine (Cover_no a b W h).mono ?_
    rintro e w' ⟨rfl, rfl⟩
    exact ⟨rfl, Below.refl _ _⟩
theorem child_both (l0 f t : Int) : ∃ (l : List Bk) (er : Int), l.length ≤ 2 ^ 40 ∧ (∀ W, Lens W → Calls Tryd.prog 9 #[.agg #[.int .i64 l0, .int .i64 f, .int .i64 t]] W fun e w' => (∃ A c, e = .returned (.tuple #[.slice A l.length c, .int .i64 er]) ∧ RdB w' A (l.map toI)) ∧ Below W.heap.size W w') ∧ (∀ W, Calls Tryd.prog 10 #[.agg #[.int .i64 l0, .int .i64 f, .int .i64 t]] W fun e w' => (∃ A c, e = .returned (LsV (.slice A l.length c) er) ∧ RdB w' A (l.map toI)) ∧ Below W.heap.size W w') := by
  by_cases h : okB l0 f t = true
  · obtain ⟨K, F, h1, h2, h3, h4, h5, h6⟩ := (okB_iff _ _ _).1 h
    by_cases h0 : l0 = 0
    · subst h0
      exact ⟨[], 8, by simp, fun W hl => of_nilP (child_low 0 f t h rfl W hl), fun W => of_nilR (rchild_low f t W h)⟩
    · have hin := blk_in (L := K) (t := F) (by omega)
      have hMM : M = 1402560 := rfl
      have hne : (l0 == 0) = false := by rw [beq_eq_false_iff_ne]; exact h0
      obtain ⟨n, rfl⟩ : ∃ n, K = n + 1 := ⟨K - 1, by omega⟩
      have hlen := wi_len n F (nx (n + 1) F) (by omega)
      refine ⟨wi n F (nx (n + 1) F), 0, by omega, fun W hl => of_rowP (child_raw n F (nx (n + 1) F) l0 f t h hne (by omega) h4 h6 (by omega) (by omega) W hl), fun W => of_rowR (rchild_raw n F (nx (n + 1) F) l0 f t W h hne (by omega) h4 h6 (by omega) (by omega) (by omega))⟩
  · rw [Bool.not_eq_true] at h
    exact ⟨[], 1, by simp, fun W hl => of_nilP (child_bad l0 f t h W hl), fun W => of_nilR (rchild_bad l0 f t W h)⟩
theorem blocks_both (n a b : Int) : ∃ (l : List Bk) (er : Int), l.length ≤ 2 ^ 40 ∧ (∀ W, Lens W → Calls Tryd.prog 16 #[.int .i64 n, .int .i64 a, .int .i64 b] W fun e w' => (∃ A c, e = .returned (.tuple #[.slice A l.length c, .int .i64 er]) ∧ RdB w' A (l.map toI)) ∧ Below W.heap.size W w') ∧ (∀ W, Calls Tryd.prog 17 #[.int .i64 n, .int .i64 a, .int .i64 b] W fun e w' => (∃ A c, e = .returned (LsV (.slice A l.length c) er) ∧ RdB w' A (l.map toI)) ∧ Below W.heap.size W w') := by
  by_cases h : (levB n && intB a b) = true
  · rw [Bool.and_eq_true] at h
    have hv : 0 ≤ n ∧ n ≤ 4 := of_decide_eq_true h.1
    have hi : 0 ≤ a ∧ a ≤ b ∧ b ≤ 1402560 := of_decide_eq_true h.2
    obtain ⟨x, rfl⟩ : ∃ x : Nat, a = (x : Int) := ⟨a.toNat, by omega⟩
    obtain ⟨y, rfl⟩ : ∃ y : Nat, b = (y : Int) := ⟨b.toNat, by omega⟩
    obtain ⟨k, rfl⟩ : ∃ k : Nat, n = (k : Int) := ⟨n.toNat, by omega⟩
    have hxy : x ≤ y := by omega
    have hyM : y ≤ M := by show y ≤ 1402560; omega
    by_cases hlen : (wi k x y).length ≤ 4000
    · refine ⟨wi k x y, 0, by omega, fun W hl => of_rowP ((blocks_any k x y W (by omega) hxy hyM hl).mono ?_), fun W => of_rowR (rblocks_yes k x y W (by omega) hxy hyM hlen)⟩
      rintro e w' ⟨⟨v, j, rfl, h3⟩, hb⟩
      rcases h3 with ⟨_, rfl, h4⟩ | ⟨h5, _⟩
      · exact ⟨⟨v, rfl, h4⟩, hb⟩
      · omega
    · refine ⟨[], 2, by simp, fun W hl => of_nilP ((blocks_any k x y W (by omega) hxy hyM hl).mono ?_), fun W => of_nilR (rblocks_big k x y W (by omega) hxy hyM (by omega))⟩
      rintro e w' ⟨⟨v, j, rfl, h3⟩, hb⟩
      rcases h3 with ⟨h5, _⟩ | ⟨_, rfl, rfl⟩
      · omega
      · exact ⟨rfl, hb⟩
  · rw [Bool.not_eq_true] at h
    exact ⟨[], 3, by simp, fun W _ => of_nilP (blocks_no n a b W h), fun W => of_nilR (rblocks_no n a b W h)⟩
theorem block_both (l t : Int) : ∃ a b c er : Int, (∀ W, Lens W → Calls Tryd.prog 5 #[.int .i64 l, .int .i64 t] W fun e w' => e = .returned (.tuple #[bV a b c, .int .i64 er]) ∧ Below W.heap.size W w') ∧ (∀ W, Calls Tryd.prog 6 #[.int .i64 l, .int .i64 t] W fun e w' => e = .returned (bdV a b c er) ∧ Below W.heap.size W w') := by
  by_cases h : levB l = true ∧ tikB t = true
  · have hv : 0 ≤ l ∧ l ≤ 4 := of_decide_eq_true h.1
    have hi : 0 ≤ t ∧ t < 1402560 := of_decide_eq_true h.2
    obtain ⟨x, rfl⟩ : ∃ x : Nat, l = (x : Int) := ⟨l.toNat, by omega⟩
    obtain ⟨y, rfl⟩ : ∃ y : Nat, t = (y : Int) := ⟨t.toNat, by omega⟩
    have hyM : y < M := by show y < 1402560; omega
    exact ⟨x, (fl x y : Nat), (nx x y : Nat), 0, fun W hl => block_yes x y W hl (by omega) hyM, fun W => rblock_yes x y W (by omega) hyM⟩
  · refine ⟨0, 0, 0, 3, fun W _ => block_no l t W h, fun W => rblock_no l t W ?_⟩
    by_cases h1 : levB l = true
    · have hv : 0 ≤ l ∧ l ≤ 4 := of_decide_eq_true h1
      have hi : ¬ (0 ≤ t ∧ t < 1402560) := fun k => h ⟨h1, decide_eq_true k⟩
      omega
    · have hv : ¬ (0 ≤ l ∧ l ≤ 4) := fun k => h1 (decide_eq_true k)
      omega
theorem parent_both (l f t : Int) : ∃ a b c er : Int, (∀ W, Lens W → Calls Tryd.prog 7 #[.agg #[.int .i64 l, .int .i64 f, .int .i64 t]] W fun e w' => e = .returned (.tuple #[bV a b c, .int .i64 er]) ∧ Below W.heap.size W w') ∧ (∀ W, Calls Tryd.prog 8 #[.agg #[.int .i64 l, .int .i64 f, .int .i64 t]] W fun e w' => e = .returned (bdV a b c er) ∧ Below W.heap.size W w') := by
  by_cases h : okB l f t = true
  · obtain ⟨K, F, h1, h2, h3, h4, h5, h6⟩ := (okB_iff _ _ _).1 h
    by_cases h0 : l = 4
    · refine ⟨0, 0, 0, 8, fun W hl => parent_top l f t h h0 W hl, fun W => ?_⟩
      subst h0
      exact rparent_top f t W h
    · have hne : (l == 4) = false := by rw [beq_eq_false_iff_ne]; exact h0
      refine ⟨l + 1, (fl (K + 1) F : Nat), (nx (K + 1) F : Nat), 0, fun W hl => parent_raw l f t _ _ h hne (by omega) (fun W' hl' => ?_) W hl, fun W => rparent_raw l f t _ _ W h hne (by omega) (fun W' => ?_)⟩
      · have := find_any (K + 1) F W' hl' (by omega) h2
        unfold fV at this
        rwa [show ((K + 1 : Nat) : Int) = l + 1 from by omega, ← h4] at this
      · have := rblock_yes (K + 1) F W' (by omega) h2
        rwa [show ((K + 1 : Nat) : Int) = l + 1 from by omega, ← h4] at this
  · rw [Bool.not_eq_true] at h
    exact ⟨0, 0, 0, 1, fun W hl => parent_bad l f t h W hl, fun W => rparent_bad l f t W h⟩
set_option maxRecDepth 100000 in
set_option maxHeartbeats 600000 in
theorem walk_covers (a b : Int) (w : World) (hL : Lens w) : Calls Tryd.prog 4 #[.int .i64 a, .int .i64 b] w fun e w' => e = .returned (.bool true) ∧ Below w.heap.size w w' := by
  obtain ⟨l, er, hlen, f1, f2⟩ := cover_both a b
  have HN := Lib.hid hL
  have HW := Lib.hid (Below.refl w.heap.size w)
  have FA := Lib.hid f1
  have FB := Lib.hid f2
  have FS := Lib.hid (fun W h => sanity_any W h)
  clear hL f1 f2
  go_enter Tryd.func4, Tryd.ntmps4
  go_wp2_with fail
  refine (FA.out _ HN.out).mono ?_
  rintro e w1 ⟨⟨A, c, rfl, hr⟩, hb⟩
  replace HN := Lib.hid (HN.out.next hb)
  replace HW := Lib.hid (HW.out.trans (hb.mono HW.out.size))
  have HA := Lib.hid hr
  clear hr
  clear hb
  go_wp2_with fail
  refine (FB.out _).mono ?_
  rintro e w2 ⟨⟨B, d, rfl, hr⟩, hb⟩
  replace HN := Lib.hid (HN.out.next hb)
  replace HW := Lib.hid (HW.out.trans (hb.mono HW.out.size))
  replace HA := Lib.hid (HA.out.below hb)
  have HB := Lib.hid hr
  clear hr
  clear hb
  go_wp2_with (first | (refine wpList_var rfl rfl 37 7 rfl rfl rfl (.tmp 16) rfl [.slice none 0 0, .int .i64 0] [.slice B l.length d, .int .i64 er] zero_rivermarkref06_Listed rfl rfl rfl size_rivermarkref06_Listed (List.forall_mem_cons.2 ⟨rfl, (List.forall_mem_cons.2 ⟨rfl, fun _ h => nomatch h⟩)⟩) ?_; intro w3 HX HBw; replace HN := Lib.hid (HN.out.next HBw.out); replace HW := Lib.hid (HW.out.trans (HBw.out.mono HW.out.size)); replace HA := Lib.hid (HA.out.below HBw.out); replace HB := Lib.hid (HB.out.below HBw.out); clear HBw))
  refine (FS.out _ HN.out).mono ?_
  rintro e w4 ⟨rfl, hb⟩
  replace HN := Lib.hid (HN.out.next hb)
  replace HW := Lib.hid (HW.out.trans (hb.mono HW.out.size))
  replace HA := Lib.hid (HA.out.below hb)
  replace HB := Lib.hid (HB.out.below hb)
  replace HX := Lib.hid (HX.out.next hb)
  clear hb
  go_wp2_with (first | (refine wpList_dst 20 rfl ?_; refine wpList_runG 20 rfl rfl _ (exec_fieldAddr 37 (.tmp 7) 0 rfl _ _ rfl (fa_rivermarkref06_Listed_0_0 _ _)) ?_; go_frame) | (refine wpList_dst 21 rfl ?_; refine wpList_runG 21 rfl rfl _ (exec_load 33 (.tmp 20) rfl _ (.slice B l.length d) rfl (run_load_cell flat___api_Bin (HX.out.cell 0))) ?_; go_frame))
  have hsm := same_any A B c d (l.map toI) (l.map toI) _ HA.out HB.out (by simp; omega)
  rw [decide_eq_true rfl, List.length_map] at hsm
  have FM := Lib.hid hsm
  clear hsm
  refine (FM.out).mono ?_
  rintro e w5 ⟨rfl, hb⟩
  replace HN := Lib.hid (HN.out.next hb)
  replace HW := Lib.hid (HW.out.trans (hb.mono HW.out.size))
  replace HA := Lib.hid (HA.out.below hb)
  replace HB := Lib.hid (HB.out.below hb)
  replace HX := Lib.hid (HX.out.next hb)
  clear hb
  go_wp2_with (first | (refine wpList_dst 26 rfl ?_; refine wpList_runG 26 rfl rfl _ (exec_fieldAddr 37 (.tmp 7) 1 rfl _ _ rfl (fa_rivermarkref06_Listed_1_0 _ _)) ?_; go_frame) | (refine wpList_dst 27 rfl ?_; refine wpList_runG 27 rfl rfl _ (exec_load 25 (.tmp 26) rfl _ (.int .i64 er) rfl (run_load_cell flat_api_Errno (HX.out.cell 1))) ?_; go_frame))
  go_ret
  exact ⟨rfl, HW.out⟩
end Go.Proofs.YtmifpaafpmibmaaDoor
