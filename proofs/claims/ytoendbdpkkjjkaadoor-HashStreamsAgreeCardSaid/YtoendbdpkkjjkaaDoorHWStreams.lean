/- The walk of HashStreamsAgree. -/
import Derived.Test.YtoendbdpkkjjkaaDoorHFew
import Derived.Test.YtoendbdpkkjjkaaDoorHWKeys
namespace Go.Proofs.YtoendbdpkkjjkaaDoor
open Go.RowKit Hm Wm

theorem sm_info : (Tryd.prog.info? 36).map (·.size) = some 73 := sm_size
theorem load_sm {W : World} {g : Nat} {cs : List Value} (h : Blk W g 36 cs) (hl : cs.length = 73) : (Instr.loadAt 36 (.pointer (some ⟨g, 0, none⟩))).run Tryd.prog W = .ok (.agg cs.toArray) W :=
  run_loadAt_mid W g 0 _ cs _ (by have := h.range 0 cs.length; simpa using this) Tryd.underlying36 rfl (by rw [sm_size, hl])
theorem run_strs_at (W : World) (b off k n c : Nat) (hk : k < n) : (Instr.indexAt 27 (.slice (some ⟨b, off, none⟩) n c) (.int .i64 k)).run Tryd.prog W = .ok (.pointer (some ⟨b, off + k, none⟩)) W := by
  have hs : ∀ W, (sizeOf 9).run Tryd.prog W = .ok 1 W := fun W => by kernel_rfl
  have he : Tryd.prog.elem 27 = 9 := by kernel_rfl
  have hu : Tryd.prog.underlying 27 = some (.slice (Tryd.prog.elem 27)) := by kernel_rfl
  rw [run_indexAt_slice W 27 ⟨b, off, none⟩ n c .i64 k hu]
  rw [if_pos ⟨by omega, by omega⟩, he, hs]
  simp [Result.andThen, Addr.add_mid]
theorem run_load_str (W : World) (p : Addr) (v : Value) (h : W.cell? p = some v) : (Instr.loadAt 9 (.pointer (some p))).run Tryd.prog W = .ok v W := by
  simp [go_sem, h]

set_option maxRecDepth 100000 in
set_option maxHeartbeats 1000000 in
theorem walkStreams_in (A : Option Addr) (c : Nat) (ss : List ByteArray) (other : ByteArray) (z0 : Nat) (w : World) (hg : Glob w) (hr : Rd w A (ss.map Value.string)) (hc : ss.length ≤ c) (h12 : ss.length ≤ 12) (hss : ∀ s ∈ ss, s.size ≤ 400) (ho : other.size ≤ 400) (hz0 : z0 < 256) :
    Calls Tryd.prog 4 #[.slice A ss.length c, .string other, .int .u8 z0] w fun e w' => e = .returned (.bool true) ∧ Below w.heap.size w w' := by
  have HG := Lib.hid hg
  have HR := Lib.hid hr
  have HSS := Lib.hid hss
  have H12 := Lib.hid h12
  have HO := Lib.hid (show other.size ≤ 400 from ho)
  have HFEW := Lib.hid (few_any A c ss w hr (by unfold maxLen; omega))
  have HFY := Lib.hid (fewB_mk h12 hss)
  have HC := Lib.hid hc
  have d1 : decide ((400 : Int) < (other.size : Int)) = false := by simp; omega
  obtain ⟨K, hK⟩ : ∃ K : Nat, z0 % (ss.length + 1) = K := ⟨_, rfl⟩
  have hK1 : (z0 : Int) % ((ss.length : Int) + 1) = (K : Int) := by rw [← hK]; push_cast; rfl
  have HKL := Lib.hid (show K ≤ ss.length by rw [← hK]; have := Nat.mod_lt z0 (show 0 < ss.length + 1 by omega); omega)
  have b1 : (ss.length : Int) ≤ 12 := by omega
  have b4 : (K : Int) ≤ 12 := by have := HKL.out; omega
  have b2 : (0 : Int) ≤ (z0 : Int) := by omega
  have b3 : (z0 : Int) ≤ 255 := by omega
  have hg2 := hg.two
  clear hg hr hss ho hK hc hz0
  go_enter Tryd.func4, Tryd.ntmps4
  go_wp2_with fail
  refine (hsanity_any _ HG.out).mono ?_
  rintro e w1 ⟨rfl, hb1⟩
  have G1 := Lib.hid (HG.out.next hb1)
  have B1 := Lib.hid hb1
  clear hb1
  go_wp2_with fail
  refine (few_any A c ss w1 (HR.out.below B1.out) (by unfold maxLen; have := H12.out; omega)).mono ?_
  rintro e w' ⟨rfl, rfl⟩
  rw [HFY.out]
  go_wp2_with fail
  refine (begin_any _ G1.out).mono ?_
  rintro e wa ⟨cs0, hs0, rfl, hba⟩
  have Ga := Lib.hid (G1.out.next hba)
  have Ba := Lib.hid (B1.out.trans (hba.mono B1.out.size))
  have S0 := Lib.hid hs0
  clear hba hs0 G1 B1 HFEW
  go_wp2_with (refine wpList_var rfl rfl 36 9 rfl rfl rfl (.tmp 32) rfl zs cs0 sm_zero rfl rfl (by rw [S0.out.len, zs_len]) (by rw [sm_size, S0.out.len]) S0.out.one ?_; intro wb Kb Db; have Gb := Lib.hid (Ga.out.next Db.out); have Bb := Lib.hid (Ba.out.trans (Db.out.mono Ba.out.size)); have HGW := Lib.hid Ba.out.size; clear Ga Db Ba)
  obtain ⟨g, hg⟩ : ∃ g, wa.heap.size = g := ⟨_, rfl⟩
  rw [hg] at Kb HGW ⊢
  have hgw : w.heap.size ≤ g := HGW.out
  clear HGW hg
  go_loopw [10] (fun i wr => ∃ (k : Nat) (cs1 : List Value), i = .int .i64 k ∧ k ≤ K ∧ Hid (Sm cs1 (joinB (ss.take k))) ∧ Hid (Blk wr g 36 cs1) ∧ Hid (Below w.heap.size w wr) ∧ Hid (Glob wr))
    (fun i _ => K - (intOf i).toNat)
  case atStart => exact ⟨0, cs0, rfl, Nat.zero_le _, S0.out, Kb.out, Bb.out, Gb.out⟩
  case round =>
    clear S0 Kb Bb Gb
    obtain ⟨k, cs1, rfl, hk, HS, H0, HB, HG⟩ := hrel
    by_cases hlt : k < K
    · obtain ⟨z, hz⟩ : ∃ z, ss[k]? = some z := ⟨ss[k]'(by have := HKL.out; omega), List.getElem?_eq_getElem _⟩
      obtain ⟨bb, off, hA, hcell⟩ := (HR.out.below HB.out).at_ (k := k) (u := .string z) (by simp [hz])
      subst hA
      have bk : (k : Int) < (K : Int) := by omega
      have HLT := Lib.hid (show k < ss.length by have := HKL.out; omega)
      have HML := Lib.hid (show (joinB (ss.take k)).length + z.size ≤ 1099511627776 by
        have h1 := joinB_le ss H12.out HSS.out k
        have h2 := HSS.out z (List.mem_of_getElem? hz)
        omega)
      have HJ := Lib.hid (joinB_take ss k z hz)
      clear hz
      go_wp2_with fail
      refine wp_region_any (by kernel_rfl) ?_
      change wpAny _ _ _ _ _ _ _ wr.drew
      have h0 := H0.out.drew
      have hB := HB.out.drew
      have hG := HG.out.drew
      have hcell2 : wr.drew.cell? ⟨bb, off + k, none⟩ = some (.string z) := hcell
      generalize wr.drew = w2 at h0 hB hG hcell2 ⊢
      refine any_take (i := 1) (some 39) rfl rfl rfl (by kernel_rfl) (by kernel_rfl) (by kernel_rfl) (.slice (some ⟨bb, off, none⟩) ss.length c) (fun _ _ _ h => h) (fun W => exec_move (.tmp 0) rfl _ rfl) ?_
      go_frame
      refine any_take (i := 2) (some 40) rfl rfl rfl (by kernel_rfl) (by kernel_rfl) (by kernel_rfl) (.int .i64 k) (fun _ _ _ h => h) (fun W => exec_move (.tmp 10) rfl _ rfl) ?_
      go_frame
      refine any_take (i := 3) (some 41) rfl rfl rfl (by kernel_rfl) (by kernel_rfl) (by kernel_rfl) (.pointer (some ⟨bb, off + k, none⟩)) (fun _ _ _ h => h) (fun W => exec_indexAddr 27 (.tmp 39) (.tmp 40) rfl _ _ _ rfl rfl (run_strs_at W bb off k ss.length c HLT.out)) ?_
      go_frame
      have HCALL := Lib.hid (streamAdd_any cs1 (joinB (ss.take k)) z w2 HS.out hG HML.out)
      refine any_two (i := 0) (k := 4) (by kernel_rfl) ?_ ?_
      · refine op_value (some 38) rfl rfl rfl (.agg cs1.toArray) (exec_load 36 (.tmp 9) rfl _ _ rfl (load_sm h0 HS.out.len)) ?_
        go_frame
        refine any_one (i := 4) (by kernel_rfl) (op_value (some 42) rfl rfl rfl (.string z) (exec_load 9 (.tmp 41) rfl _ _ rfl (run_load_str w2 _ _ hcell2)) ?_)
        go_frame
        refine any_one (i := 5) (by kernel_rfl) (op_call (some 43) rfl rfl rfl rfl Tryd.func17 (by kernel_rfl) (by kernel_rfl) #[.agg cs1.toArray, .string z] rfl HCALL.out ?_)
        rintro e w3 ⟨cs3, hs3, rfl, hb3⟩
        rw [HJ.out] at hs3
        refine ⟨_, rfl, ?_⟩
        go_frame
        refine any_one (i := 6) (by kernel_rfl) (op_store_all rfl rfl rfl 36 (.tmp 9) (.tmp 43) rfl g _ cs1 cs3 rfl rfl (h0.next hb3) (by rw [hs3.len, HS.out.len]) hs3.size_ hs3.one ?_)
        intro w5 hb5 ho5
        refine wpAny_done (by kernel_rfl) ?_ _
        go_frame
        have F0 := Lib.hid hb5
        have FB := Lib.hid ((hB.trans (hb3.mono hB.size)).trans (ho5.below (by omega)))
        have FG := Lib.hid ((hG.next hb3).only ho5 (by omega))
        have FS := Lib.hid hs3
        clear hb3 hb5 ho5 hs3 h0 hB hG hcell2 hcell 
        go_wp2
        go_roundw
        case rel => exact ⟨k + 1, cs3, by go_num, by omega, FS.out, F0.out, FB.out, FG.out⟩
        case measure => simp [intOf]; omega
      · refine op_value (some 42) rfl rfl rfl (.string z) (exec_load 9 (.tmp 41) rfl _ _ rfl (run_load_str w2 _ _ hcell2)) ?_
        go_frame
        refine any_one (i := 0) (by kernel_rfl) (op_value (some 38) rfl rfl rfl (.agg cs1.toArray) (exec_load 36 (.tmp 9) rfl _ _ rfl (load_sm h0 HS.out.len)) ?_)
        go_frame
        refine any_one (i := 5) (by kernel_rfl) (op_call (some 43) rfl rfl rfl rfl Tryd.func17 (by kernel_rfl) (by kernel_rfl) #[.agg cs1.toArray, .string z] rfl HCALL.out ?_)
        rintro e w3 ⟨cs3, hs3, rfl, hb3⟩
        rw [HJ.out] at hs3
        refine ⟨_, rfl, ?_⟩
        go_frame
        refine any_one (i := 6) (by kernel_rfl) (op_store_all rfl rfl rfl 36 (.tmp 9) (.tmp 43) rfl g _ cs1 cs3 rfl rfl (h0.next hb3) (by rw [hs3.len, HS.out.len]) hs3.size_ hs3.one ?_)
        intro w5 hb5 ho5
        refine wpAny_done (by kernel_rfl) ?_ _
        go_frame
        have F0 := Lib.hid hb5
        have FB := Lib.hid ((hB.trans (hb3.mono hB.size)).trans (ho5.below (by omega)))
        have FG := Lib.hid ((hG.next hb3).only ho5 (by omega))
        have FS := Lib.hid hs3
        clear hb3 hb5 ho5 hs3 h0 hB hG hcell2 hcell 
        go_wp2
        go_roundw
        case rel => exact ⟨k + 1, cs3, by go_num, by omega, FS.out, F0.out, FB.out, FG.out⟩
        case measure => simp [intOf]; omega
    · obtain rfl : K = k := by omega
      go_wp2_with (first | (refine wpList_load_all rfl _ (.tmp 9) rfl g _ cs1 _ rfl H0.out Tryd.underlying36 rfl (by rw [sm_size, HS.out.len]) ?_) | (refine wpList_var rfl rfl 36 11 rfl rfl rfl (.tmp 44) rfl zs cs1 sm_zero rfl rfl (by rw [HS.out.len, zs_len]) (by rw [sm_size, HS.out.len]) HS.out.one ?_; intro wb Kb Db; have Gb := Lib.hid (HG.out.next Db.out); have Bb := Lib.hid (HB.out.trans (Db.out.mono HB.out.size)); have H1 := Lib.hid (H0.out.next Db.out); have HLT := Lib.hid H0.out.lt; clear HG HB H0 Db))
      obtain ⟨g2, hg2⟩ : ∃ g2, wr.heap.size = g2 := ⟨_, rfl⟩
      rw [hg2] at Kb HLT ⊢
      have hgg : g < g2 := HLT.out
      clear HLT hg2
      go_loopw [12] (fun i wr => ∃ (k : Nat) (cs2 : List Value), i = .int .i64 k ∧ k ≤ ss.length ∧ Hid (Sm cs2 (joinB (ss.take k))) ∧ Hid (Blk wr g 36 cs2) ∧ Hid (Below w.heap.size w wr) ∧ Hid (Glob wr) ∧ Hid (Blk wr g2 36 cs1))
        (fun i _ => ss.length - (intOf i).toNat)
      case atStart => exact ⟨K, cs1, rfl, HKL.out, HS.out, H1.out, Bb.out, Gb.out, Kb.out⟩
      case round =>
        clear H1 Bb Gb Kb
        have HSK := Lib.hid HS.out
        have HKK := Lib.hid HKL.out
        clear HS HKL
        obtain ⟨k, cs2, rfl, hk, HS, H0, HB, HG, H2⟩ := hrel
        by_cases hlt : k < ss.length
        · obtain ⟨z, hz⟩ : ∃ z, ss[k]? = some z := ⟨ss[k]'(by exact hlt), List.getElem?_eq_getElem _⟩
          obtain ⟨bb, off, hA, hcell⟩ := (HR.out.below HB.out).at_ (k := k) (u := .string z) (by simp [hz])
          subst hA
          have bk : (k : Int) < (ss.length : Int) := by omega
          have HLT := Lib.hid (show k < ss.length by exact hlt)
          have HML := Lib.hid (show (joinB (ss.take k)).length + z.size ≤ 1099511627776 by
            have h1 := joinB_le ss H12.out HSS.out k
            have h2 := HSS.out z (List.mem_of_getElem? hz)
            omega)
          have HJ := Lib.hid (joinB_take ss k z hz)
          clear hz
          go_wp2_with fail
          refine wp_region_any (by kernel_rfl) ?_
          change wpAny _ _ _ _ _ _ _ wr.drew
          have h0 := H0.out.drew
          have hB := HB.out.drew
          have hG := HG.out.drew
          have hcell2 : wr.drew.cell? ⟨bb, off + k, none⟩ = some (.string z) := hcell
          have h2 := H2.out.drew
          generalize wr.drew = w2 at h0 hB hG hcell2 h2 ⊢
          refine any_take (i := 1) (some 53) rfl rfl rfl (by kernel_rfl) (by kernel_rfl) (by kernel_rfl) (.slice (some ⟨bb, off, none⟩) ss.length c) (fun _ _ _ h => h) (fun W => exec_move (.tmp 0) rfl _ rfl) ?_
          go_frame
          refine any_take (i := 2) (some 54) rfl rfl rfl (by kernel_rfl) (by kernel_rfl) (by kernel_rfl) (.int .i64 k) (fun _ _ _ h => h) (fun W => exec_move (.tmp 12) rfl _ rfl) ?_
          go_frame
          refine any_take (i := 3) (some 55) rfl rfl rfl (by kernel_rfl) (by kernel_rfl) (by kernel_rfl) (.pointer (some ⟨bb, off + k, none⟩)) (fun _ _ _ h => h) (fun W => exec_indexAddr 27 (.tmp 53) (.tmp 54) rfl _ _ _ rfl rfl (run_strs_at W bb off k ss.length c HLT.out)) ?_
          go_frame
          have HCALL := Lib.hid (streamAdd_any cs2 (joinB (ss.take k)) z w2 HS.out hG HML.out)
          refine any_two (i := 0) (k := 4) (by kernel_rfl) ?_ ?_
          · refine op_value (some 52) rfl rfl rfl (.agg cs2.toArray) (exec_load 36 (.tmp 9) rfl _ _ rfl (load_sm h0 HS.out.len)) ?_
            go_frame
            refine any_one (i := 4) (by kernel_rfl) (op_value (some 56) rfl rfl rfl (.string z) (exec_load 9 (.tmp 55) rfl _ _ rfl (run_load_str w2 _ _ hcell2)) ?_)
            go_frame
            refine any_one (i := 5) (by kernel_rfl) (op_call (some 57) rfl rfl rfl rfl Tryd.func17 (by kernel_rfl) (by kernel_rfl) #[.agg cs2.toArray, .string z] rfl HCALL.out ?_)
            rintro e w3 ⟨cs3, hs3, rfl, hb3⟩
            rw [HJ.out] at hs3
            refine ⟨_, rfl, ?_⟩
            go_frame
            refine any_one (i := 6) (by kernel_rfl) (op_store_all rfl rfl rfl 36 (.tmp 9) (.tmp 57) rfl g _ cs2 cs3 rfl rfl (h0.next hb3) (by rw [hs3.len, HS.out.len]) hs3.size_ hs3.one ?_)
            intro w5 hb5 ho5
            refine wpAny_done (by kernel_rfl) ?_ _
            go_frame
            have F0 := Lib.hid hb5
            have FB := Lib.hid ((hB.trans (hb3.mono hB.size)).trans (ho5.below (by omega)))
            have FG := Lib.hid ((hG.next hb3).only ho5 (by omega))
            have FS := Lib.hid hs3
            have F2 := Lib.hid (ho5.blk (h2.next hb3) (by omega))
            clear hb3 hb5 ho5 hs3 h0 hB hG hcell2 hcell h2
            go_wp2
            go_roundw
            case rel => exact ⟨k + 1, cs3, by go_num, by omega, FS.out, F0.out, FB.out, FG.out, F2.out⟩
            case measure => simp [intOf]; omega
          · refine op_value (some 56) rfl rfl rfl (.string z) (exec_load 9 (.tmp 55) rfl _ _ rfl (run_load_str w2 _ _ hcell2)) ?_
            go_frame
            refine any_one (i := 0) (by kernel_rfl) (op_value (some 52) rfl rfl rfl (.agg cs2.toArray) (exec_load 36 (.tmp 9) rfl _ _ rfl (load_sm h0 HS.out.len)) ?_)
            go_frame
            refine any_one (i := 5) (by kernel_rfl) (op_call (some 57) rfl rfl rfl rfl Tryd.func17 (by kernel_rfl) (by kernel_rfl) #[.agg cs2.toArray, .string z] rfl HCALL.out ?_)
            rintro e w3 ⟨cs3, hs3, rfl, hb3⟩
            rw [HJ.out] at hs3
            refine ⟨_, rfl, ?_⟩
            go_frame
            refine any_one (i := 6) (by kernel_rfl) (op_store_all rfl rfl rfl 36 (.tmp 9) (.tmp 57) rfl g _ cs2 cs3 rfl rfl (h0.next hb3) (by rw [hs3.len, HS.out.len]) hs3.size_ hs3.one ?_)
            intro w5 hb5 ho5
            refine wpAny_done (by kernel_rfl) ?_ _
            go_frame
            have F0 := Lib.hid hb5
            have FB := Lib.hid ((hB.trans (hb3.mono hB.size)).trans (ho5.below (by omega)))
            have FG := Lib.hid ((hG.next hb3).only ho5 (by omega))
            have FS := Lib.hid hs3
            have F2 := Lib.hid (ho5.blk (h2.next hb3) (by omega))
            clear hb3 hb5 ho5 hs3 h0 hB hG hcell2 hcell h2
            go_wp2
            go_roundw
            case rel => exact ⟨k + 1, cs3, by go_num, by omega, FS.out, F0.out, FB.out, FG.out, F2.out⟩
            case measure => simp [intOf]; omega
        · obtain rfl : k = ss.length := by omega
          have hs := HS.out
          rw [List.take_length] at hs
          have HS2 := Lib.hid hs
          have HTK := Lib.hid (show (ss.take K).length = K by rw [List.length_take]; have := HKK.out; omega)
          have hKc : (K : Int) ≤ (c : Int) := by have h1 := HKK.out; have h2 := HC.out; omega
          have hJ := joinB_le ss H12.out HSS.out
          have HJA := Lib.hid (hJ ss.length)
          have HJK := Lib.hid (hJ K)
          rw [List.take_length] at HJA
          clear hs HS hJ
          go_wp2_with (refine wpList_load_all rfl _ (.tmp 11) rfl g2 _ cs1 _ rfl H2.out Tryd.underlying36 rfl (by rw [sm_size, HSK.out.len]) ?_)
          refine (streamAdd_any cs1 (joinB (ss.take K)) other wr HSK.out HG.out (by have := HJK.out; have := HO.out; omega)).mono ?_
          rintro e w3 ⟨cs3, hs3, rfl, hb3⟩
          have HS3 := Lib.hid hs3
          have G3 := Lib.hid (HG.out.next hb3)
          have B3 := Lib.hid (HB.out.trans (hb3.mono HB.out.size))
          have H03 := Lib.hid (H0.out.next hb3)
          have H23 := Lib.hid (H2.out.next hb3)
          clear hs3 hb3 HG HB H0 H2
          go_wp2_with (refine wpList_var rfl rfl 36 13 rfl rfl rfl (.tmp 60) rfl zs cs3 sm_zero rfl rfl (by rw [HS3.out.len, zs_len]) (by rw [sm_size, HS3.out.len]) HS3.out.one ?_; intro w4 K4 D4; have G4 := Lib.hid (G3.out.next D4.out); have B4 := Lib.hid (B3.out.trans (D4.out.mono B3.out.size)); have H04 := Lib.hid (H03.out.next D4.out); have H24 := Lib.hid (H23.out.next D4.out); clear G3 B3 H03 H23 D4)
          refine (joined_any A c ss w4 (HR.out.below B4.out) H12.out HSS.out).mono ?_
          rintro e w' ⟨rfl, rfl⟩
          obtain ⟨JA, hJA⟩ : ∃ JA, joinB ss = JA := ⟨_, rfl⟩
          obtain ⟨JK, hJK⟩ : ∃ JK, joinB (ss.take K) = JK := ⟨_, rfl⟩
          rw [hJA] at HS2 HJA ⊢
          rw [hJK] at HJK HS3 HSK
          have HEK := Lib.hid hJK
          clear hJA hJK
          go_wp2_with fail
          have hjk := joined_any A c (ss.take K) w4 (by rw [List.map_take]; exact (HR.out.below B4.out).take K) (by rw [HTK.out]; omega) (fun s hs => HSS.out s (List.mem_of_mem_take hs))
          rw [HTK.out, HEK.out] at hjk
          refine hjk.mono ?_
          rintro e w' ⟨rfl, rfl⟩
          clear hjk hKc
          have hcat := fun W : World => run_concat W (sb JK) other (by rw [sb_size]; have := HJK.out; have := HO.out; omega)
          simp only [binOp_string_add, sb_list] at hcat
          have HOL := Lib.hid (show other.data.toList.length = other.size from Array.length_toList)
          obtain ⟨JO, hJO⟩ : ∃ JO, JK ++ other.data.toList = JO := ⟨_, rfl⟩
          have HJO := Lib.hid (show JO.length ≤ 5300 by rw [← hJO, List.length_append, HOL.out]; have := HJK.out; have := HO.out; omega)
          rw [hJO] at hcat HS3
          clear hJO HOL
          obtain ⟨s1, hs1⟩ : ∃ s1, Hm.sum JA = s1 := ⟨_, rfl⟩
          obtain ⟨s2, hs2⟩ : ∃ s2, Hm.sum JK = s2 := ⟨_, rfl⟩
          obtain ⟨s3, hs3⟩ : ∃ s3, Hm.sum JO = s3 := ⟨_, rfl⟩
          have L1 := Lib.hid (show s1.length = 32 by rw [← hs1, sum_len])
          have L2 := Lib.hid (show s2.length = 32 by rw [← hs2, sum_len])
          have L3 := Lib.hid (show s3.length = 32 by rw [← hs3, sum_len])
          have E1 := Lib.hid hs1
          have E2 := Lib.hid hs2
          have E3 := Lib.hid hs3
          have heq1 := fun W => run_equalIn_arr 24 32 a32_under W 9998 s1 s1 L1.out L1.out
          have heq2 := fun W => run_equalIn_arr 24 32 a32_under W 9998 s2 s2 L2.out L2.out
          have heq3 := fun W => run_equalIn_arr 24 32 a32_under W 9998 s3 s3 L3.out L3.out
          simp only [decide_true] at heq1 heq2 heq3
          clear hs1 hs2 hs3
          go_wp2_with (refine wpList_loadG rfl _ (.tmp 9) rfl g _ cs2 _ rfl H04.out Tryd.underlying36 rfl (by rw [sm_size, HS2.out.len]) ?_)
          refine (streamSum_any cs2 JA w4 HS2.out G4.out (by have := HJA.out; omega)).mono ?_
          rintro e w5 ⟨rfl, hb5⟩
          rw [E1.out]
          have G5 := Lib.hid (G4.out.next hb5)
          have B5 := Lib.hid (B4.out.trans (hb5.mono B4.out.size))
          have H25 := Lib.hid (H24.out.next hb5)
          have K5 := Lib.hid (K4.out.next hb5)
          clear hb5 G4 B4 H24 H04 K4
          go_wp2_with (refine wpList_bytes rfl (.tmp 71) rfl (sb JA) rfl ?_; intro A6 c6 w6 hr6 hc6 hb6; rw [sb_list] at hr6 hc6; rw [sb_list]; have G6 := Lib.hid (G5.out.next hb6); have B6 := Lib.hid (B5.out.trans (hb6.mono B5.out.size)); have H26 := Lib.hid (H25.out.next hb6); have K6 := Lib.hid (K5.out.next hb6); have R6 := Lib.hid hr6; have C6 := Lib.hid hc6; clear G5 B5 H25 K5 hr6 hc6 hb6)
          refine (sum_any A6 c6 JA w6 G6.out R6.out C6.out (by have := HJA.out; omega)).mono ?_
          rintro e w7 ⟨rfl, hb7⟩
          rw [E1.out]
          have G7 := Lib.hid (G6.out.next hb7)
          have B7 := Lib.hid (B6.out.trans (hb7.mono B6.out.size))
          have H27 := Lib.hid (H26.out.next hb7)
          have K7 := Lib.hid (K6.out.next hb7)
          clear hb7 G6 B6 H26 K6 R6 C6
          go_wp2_with (refine wpList_loadG rfl _ (.tmp 11) rfl g2 _ cs1 _ rfl H27.out Tryd.underlying36 rfl (by rw [sm_size, HSK.out.len]) ?_)
          refine (streamSum_any cs1 JK w7 HSK.out G7.out (by have := HJK.out; omega)).mono ?_
          rintro e w8 ⟨rfl, hb8⟩
          rw [E2.out]
          have G8 := Lib.hid (G7.out.next hb8)
          have B8 := Lib.hid (B7.out.trans (hb8.mono B7.out.size))
          have K8 := Lib.hid (K7.out.next hb8)
          clear hb8 G7 B7 H27 K7
          go_wp2_with (refine wpList_bytes rfl (.tmp 79) rfl (sb JK) rfl ?_; intro A6 c6 w6 hr6 hc6 hb6; rw [sb_list] at hr6 hc6; rw [sb_list]; have G9 := Lib.hid (G8.out.next hb6); have B9 := Lib.hid (B8.out.trans (hb6.mono B8.out.size)); have K9 := Lib.hid (K8.out.next hb6); have R6 := Lib.hid hr6; have C6 := Lib.hid hc6; clear G8 B8 K8 hr6 hc6 hb6)
          refine (sum_any _ _ JK _ G9.out R6.out C6.out (by have := HJK.out; omega)).mono ?_
          rintro e w10 ⟨rfl, hb10⟩
          rw [E2.out]
          have G10 := Lib.hid (G9.out.next hb10)
          have B10 := Lib.hid (B9.out.trans (hb10.mono B9.out.size))
          have K10 := Lib.hid (K9.out.next hb10)
          clear hb10 G9 B9 K9 R6 C6
          go_wp2_with (refine wpList_loadG rfl _ (.tmp 13) rfl _ _ cs3 _ rfl K10.out Tryd.underlying36 rfl (by rw [sm_size, HS3.out.len]) ?_)
          refine (streamSum_any cs3 JO w10 HS3.out G10.out (by have := HJO.out; omega)).mono ?_
          rintro e w11 ⟨rfl, hb11⟩
          rw [E3.out]
          have G11 := Lib.hid (G10.out.next hb11)
          have B11 := Lib.hid (B10.out.trans (hb11.mono B10.out.size))
          clear hb11 G10 B10 K10
          go_wp2_with (refine wpList_bytes rfl (.tmp 89) rfl (sb JO) rfl ?_; intro A6 c6 w6 hr6 hc6 hb6; rw [sb_list] at hr6 hc6; rw [sb_list]; have G12 := Lib.hid (G11.out.next hb6); have B12 := Lib.hid (B11.out.trans (hb6.mono B11.out.size)); have R6 := Lib.hid hr6; have C6 := Lib.hid hc6; clear G11 B11 hr6 hc6 hb6)
          refine (sum_any _ _ JO _ G12.out R6.out C6.out (by have := HJO.out; omega)).mono ?_
          rintro e w13 ⟨rfl, hb13⟩
          rw [E3.out]
          have B13 := Lib.hid (B12.out.trans (hb13.mono B12.out.size))
          clear hb13 G12 B12 R6 C6
          go_wp2
          go_ret
          exact ⟨rfl, B13.out⟩

set_option maxRecDepth 100000 in
set_option maxHeartbeats 1000000 in
theorem walkStreams_many (A : Option Addr) (c : Nat) (ss : List ByteArray) (other : ByteArray) (z : Int) (w : World) (hg : Glob w) (hr : Rd w A (ss.map Value.string)) (hl : ss.length ≤ maxLen) (hf : fewB ss = false) :
    Calls Tryd.prog 4 #[.slice A ss.length c, .string other, .int .u8 z] w fun e w' => e = .returned (.bool true) ∧ Below w.heap.size w w' := by
  have HG := Lib.hid hg
  have HR := Lib.hid hr
  have HF := Lib.hid hf
  have HL := Lib.hid hl
  clear hg hr hf hl
  go_enter Tryd.func4, Tryd.ntmps4
  go_wp2_with fail
  refine (hsanity_any _ HG.out).mono ?_
  rintro e w1 ⟨rfl, hb1⟩
  have B1 := Lib.hid hb1
  clear hb1
  go_wp2_with fail
  refine (few_any A c ss w1 (HR.out.below B1.out) HL.out).mono ?_
  rintro e w' ⟨rfl, rfl⟩
  rw [HF.out]
  go_wp2
  go_ret
  exact ⟨rfl, B1.out⟩
set_option maxRecDepth 100000 in
set_option maxHeartbeats 1000000 in
theorem walkStreams_big (A : Option Addr) (c : Nat) (ss : List ByteArray) (other : ByteArray) (z : Int) (w : World) (hg : Glob w) (hr : Rd w A (ss.map Value.string)) (hl : ss.length ≤ maxLen) (hf : fewB ss = true) (ho : 400 < other.size) :
    Calls Tryd.prog 4 #[.slice A ss.length c, .string other, .int .u8 z] w fun e w' => e = .returned (.bool true) ∧ Below w.heap.size w w' := by
  have HG := Lib.hid hg
  have HR := Lib.hid hr
  have HF := Lib.hid hf
  have HL := Lib.hid hl
  have d1 : decide ((400 : Int) < (other.size : Int)) = true := by simp; omega
  clear hg hr hf hl ho
  go_enter Tryd.func4, Tryd.ntmps4
  go_wp2_with fail
  refine (hsanity_any _ HG.out).mono ?_
  rintro e w1 ⟨rfl, hb1⟩
  have B1 := Lib.hid hb1
  clear hb1
  go_wp2_with fail
  refine (few_any A c ss w1 (HR.out.below B1.out) HL.out).mono ?_
  rintro e w' ⟨rfl, rfl⟩
  rw [HF.out]
  go_wp2
  go_ret
  exact ⟨rfl, B1.out⟩
theorem walkStreams (A : Option Addr) (c : Nat) (ss : List ByteArray) (other : ByteArray) (z : Nat) (w : World) (hg : Glob w) (hr : Rd w A (ss.map Value.string)) (hc : ss.length ≤ c) (hl : ss.length ≤ maxLen) (hz : z < 256) :
    Calls Tryd.prog 4 #[.slice A ss.length c, .string other, .int .u8 z] w fun e w' => e = .returned (.bool true) ∧ Below w.heap.size w w' := by
  cases hf : fewB ss with
  | false => exact walkStreams_many A c ss other z w hg hr hl hf
  | true =>
    by_cases ho : 400 < other.size
    · exact walkStreams_big A c ss other z w hg hr hl hf ho
    · have h := fewB_yes hf
      exact walkStreams_in A c ss other z w hg hr hc h.1 h.2 (by omega) hz
end Go.Proofs.YtoendbdpkkjjkaaDoor
