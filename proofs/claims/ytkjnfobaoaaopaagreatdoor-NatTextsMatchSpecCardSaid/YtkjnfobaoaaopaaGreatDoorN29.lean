/- Gcd of strings. -/
import Derived.Test.YtkjnfobaoaaopaaGreatDoorN28
namespace Go.Proofs.YtkjnfobaoaaopaaGreatDoor
open Go.RowKit Hm Wm Wn

theorem sum_pow {s t : ByteArray} {K : Nat} (hs : s.size ≤ K) (ht : t.size ≤ K) : nB s + nB t < B ^ (K + 1) := by
  have h1 : nB s < 256 ^ K := Nat.lt_of_lt_of_le (nB_lt s) (Nat.pow_le_pow_right (by decide) hs)
  have h2 : nB t < 256 ^ K := Nat.lt_of_lt_of_le (nB_lt t) (Nat.pow_le_pow_right (by decide) ht)
  have h3 : nB s + nB t < 256 ^ (K + 1) := by rw [Nat.pow_succ]; omega
  exact Nat.lt_of_lt_of_le h3 (Nat.pow_le_pow_left (by decide) _)
theorem gcd_sum (N M : Nat) : Nat.gcd N M ≤ N + M := by
  rcases Nat.eq_zero_or_pos N with h | h
  · subst h; rw [Nat.gcd_zero_left]; omega
  · exact Nat.le_trans (Nat.gcd_le_left M h) (Nat.le_add_right _ _)
theorem fn_size : (Tryz.prog.info? 63).map (·.size) = some 1 := by kernel_rfl
set_option maxRecDepth 100000 in
set_option maxHeartbeats 400000 in
theorem gcd_any (s t : ByteArray) (w : World) (hs : s.size ≤ 40000) (ht : t.size ≤ 40000) : Calls Tryz.prog 20 #[.string s, .string t] w fun e w' => e = .returned (.string (cS (Nat.gcd (nB s) (nB t)))) ∧ Below w.heap.size w w' := by
  obtain ⟨Z, hZ, hS⟩ : ∃ Z, Z ≤ 100000 ∧ nB s + nB t < B ^ Z := by
    obtain ⟨K, hK⟩ : ∃ K, K = 40000 := ⟨_, rfl⟩
    exact ⟨K + 1, by omega, sum_pow (by omega) (by omega)⟩
  have HGL := Lib.hid (show (digW (Nat.gcd (nB s) (nB t))).length ≤ 100000 from Nat.le_trans (digW_len (Nat.lt_of_le_of_lt (gcd_sum _ _) hS)) hZ)
  have HR1 := Lib.hid (fun w => readN s w (by omega))
  have HR2 := Lib.hid (fun w => readN t w (by omega))
  have HG := Lib.hid (fun q A c A2 c2 w h1 h2 h3 h4 h5 => gcd1_any Z hZ q _ (nB s) (nB t) A c A2 c2 w rfl hS h1 h2 h3 h4 h5)
  clear hZ hS hs ht
  go_enter Tryz.func20, Tryz.ntmps20
  go_wp2_with (refine wpList_store_var rfl 63 (.tmp 5) (.tmp 6) rfl w.heap.size _ _ (gF w.heap.size) rfl rfl (Blk.new w 63 _) fn_size rfl rfl ?_; intro w1 HK1 ho1; have HO1 := Lib.hid ((((Below.refl w.heap.size w).alloc (Nat.le_refl _) _).trans (ho1.below (Nat.le_refl _)))); clear ho1)
  refine wp_region_held_drew (S := fun W => Blk W w.heap.size 63 [gF w.heap.size] ∧ Below w.heap.size w W) (by kernel_rfl) ⟨Blk.drew HK1.out, HO1.out.drew⟩ (fun hS => ?_)
  generalize w1.drew = u0 at hS ⊢
  refine reg_takeG (i := 0) (some 7) rfl rfl rfl (by kernel_rfl) (by kernel_rfl) (by kernel_rfl) (gF w.heap.size) (fun _ _ _ h => h) (fun W hW => exec_load 63 (.tmp 5) rfl _ _ rfl (run_load_var 63 fn_flat hW.1)) hS ?_
  go_frame
  refine reg_takeG (i := 1) (some 8) rfl rfl rfl (by kernel_rfl) (by kernel_rfl) (by kernel_rfl) (.string s) (fun _ _ _ h => h) (fun W hW => exec_move (.tmp 0) rfl _ rfl) hS ?_
  go_frame
  refine reg_takeG (i := 3) (some 10) rfl rfl rfl (by kernel_rfl) (by kernel_rfl) (by kernel_rfl) (.string t) (fun _ _ _ h => h) (fun W hW => exec_move (.tmp 1) rfl _ rfl) hS ?_
  go_frame
  refine reg_callG (i := 2) (some 9) rfl rfl rfl (by kernel_rfl) rfl Tryz.func31 (by kernel_rfl) (by kernel_rfl) #[.string s] rfl (HR1.out u0) ?_
  rintro e u1 ⟨v1, rfl, ⟨A1, c1, rfl, hr1, hc1⟩, hbu1⟩
  have hS1 : Blk u1 w.heap.size 63 [gF w.heap.size] ∧ Below w.heap.size w u1 := ⟨hS.1.next hbu1, hS.2.trans (hbu1.mono hS.2.size)⟩
  refine ⟨_, rfl, hS1, ?_⟩
  go_frame
  refine reg_callG (i := 4) (some 11) rfl rfl rfl (by kernel_rfl) rfl Tryz.func31 (by kernel_rfl) (by kernel_rfl) #[.string t] rfl (HR2.out u1) ?_
  rintro e u2 ⟨v2, rfl, ⟨A2, c2, rfl, hr2, hc2⟩, hbu2⟩
  have hS2 : Blk u2 w.heap.size 63 [gF w.heap.size] ∧ Below w.heap.size w u2 := ⟨hS1.1.next hbu2, hS1.2.trans (hbu2.mono hS1.2.size)⟩
  refine ⟨_, rfl, hS2, ?_⟩
  go_frame
  refine reg_call_val (i := 5) (some 12) (.tmp 7) rfl rfl rfl (by kernel_rfl) rfl rfl Tryz.func41 (by kernel_rfl) (by kernel_rfl) #[.slice A1 (digW (nB s)).length c1, .slice A2 (digW (nB t)).length c2, .pointer (some ⟨w.heap.size, 0, none⟩)] rfl (HG.out w.heap.size A1 c1 A2 c2 u2 (hr1.next hbu2) hc1 hr2 hc2 hS2.1) ?_
  rintro e u3 ⟨v3, rfl, ⟨A3, c3, rfl, hr3, hc3⟩, hbu3⟩
  have hS3 : Blk u3 w.heap.size 63 [gF w.heap.size] ∧ Below w.heap.size w u3 := ⟨hS2.1.next hbu3, hS2.2.trans (hbu3.mono hS2.2.size)⟩
  refine ⟨_, rfl, hS3, ?_⟩
  go_frame
  refine reg_callG (i := 6) (some 13) rfl rfl rfl (by kernel_rfl) rfl Tryz.func32 (by kernel_rfl) (by kernel_rfl) #[.slice A3 (digW (Nat.gcd (nB s) (nB t))).length c3] rfl (textN _ A3 c3 u3 hr3 HGL.out) ?_
  rintro e u4 ⟨rfl, hbu4⟩
  have hS4 : Blk u4 w.heap.size 63 [gF w.heap.size] ∧ Below w.heap.size w u4 := ⟨hS3.1.next hbu4, hS3.2.trans (hbu4.mono hS3.2.size)⟩
  refine ⟨_, rfl, hS4, ?_⟩
  go_frame
  refine reg_takeG (i := 7) (some 4) rfl rfl rfl (by kernel_rfl) (by kernel_rfl) (by kernel_rfl) (.string (cS (Nat.gcd (nB s) (nB t)))) (fun _ _ _ h => h) (fun W hW => exec_assign (.tmp 13) rfl _ rfl) hS4 ?_
  go_frame
  refine wpAnyH_done (by kernel_rfl) ?_ _
  have HB := Lib.hid hS4.2
  clear hS hS1 hS2 hS3 hS4 hr1 hr2 hr3
  go_wp2
  go_ret
  exact ⟨rfl, HB.out⟩
end Go.Proofs.YtkjnfobaoaaopaaGreatDoor
