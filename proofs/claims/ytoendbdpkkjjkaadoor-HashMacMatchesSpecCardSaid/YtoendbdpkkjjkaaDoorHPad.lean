/- Contract of padding. -/
import Derived.Test.YtoendbdpkkjjkaaDoorHNum
namespace Go.Proofs.YtoendbdpkkjjkaaDoor
open Go.RowKit Hm

theorem pad_eq (n z : Nat) (hz : z = (119 - n % 64) % 64) : (128 : UInt8) :: List.replicate z 0 ++ numB (8 * n % 18446744073709551616) 8 = pad n := by
  subst hz
  unfold pad
  rw [numB8]

theorem madeCells_zero (n : Nat) : madeCells #[.int .u8 0] n = (bc (List.replicate n (0 : UInt8))).toArray := by
  apply Array.ext
  · simp [madeCells, bc]
  · intro i h1 h2
    have e : i % 1 = 0 := Nat.mod_one i
    simp [madeCells, bc, e]

/-- A new row of bytes whose first byte was set. -/
theorem own_made (w : World) (c z : Nat) (hz : z + 1 ≤ c) (hc : c ≤ 1000000) :
    OwnB (w.alloc (.cells ((madeCells #[.int .u8 0] c).setIfInBounds 0 (.int .u8 128)) 5)) w.heap.size (.slice (some ⟨w.heap.size, 0, none⟩) (z + 1) c) (128 :: List.replicate z 0) := by
  have hl : (128 :: List.replicate z (0 : UInt8)).length = z + 1 := by simp
  refine ⟨by rw [bc_len, hl]; omega, .inr ⟨w.heap.size, c, (madeCells #[.int .u8 0] c).setIfInBounds 0 (.int .u8 128), by rw [hl], Nat.le_refl _, ?_, by rw [hl]; omega, by unfold maxLen; omega, by rw [Array.size_setIfInBounds, size_madeCells]; omega, ?_⟩⟩
  · exact heap_alloc_new w _
  · rw [hl, madeCells_zero, Nat.mul_one, Array.toList_setIfInBounds]
    obtain ⟨d, rfl⟩ : ∃ d, c = d + 1 := ⟨c - 1, by omega⟩
    simp [bc, List.replicate_succ]
    omega

set_option maxRecDepth 100000 in
set_option maxHeartbeats 400000 in
theorem padding_any (n : Nat) (w : World) (hn : n < 18446744073709551616) :
    Calls Tryd.prog 40 #[.int .u64 n] w fun e w' => ∃ v, e = .returned v ∧ OwnB w' w.heap.size v (pad n) ∧ Below w.heap.size w w' := by
  obtain ⟨z, hz⟩ : ∃ z, z = (119 - n % 64) % 64 := ⟨_, rfl⟩
  have hz0 : z < 64 := by omega
  have HE := Lib.hid (pad_eq n z hz)
  obtain ⟨C, hC⟩ : ∃ C, madeCells #[.int .u8 0] (z + 9) = C := ⟨_, rfl⟩
  have HO := Lib.hid (hC ▸ own_made w (z + 9) z (by omega) (by omega))
  have hc0 : (w.alloc (.cells C 5)).cell? ⟨w.heap.size, 0, none⟩ = some (.int .u8 0) := by
    rw [cell_of_row _ w.heap.size 0 C 5 (0, 0) (heap_alloc_new w _), ← hC, madeCells_zero]
    simp [bc, List.replicate_succ]
  have e1 : IntKind.u64.wrap (119 - (n : Int) % 64) = ((119 - n % 64 : Nat) : Int) := by rw [IntKind.wrap_u64]; omega
  have e2 : ((119 - n % 64 : Nat) : Int) % 64 = (z : Int) := by omega
  obtain ⟨i0, hi, hz0', hz1, hz2⟩ := info_parts u8_info
  have hmk := run_make (P := Tryd.prog) w 22 5 i0 _ Tryd.underlying22 hi hz0' .u64 .u64 (1 + (z : Int)) (1 + (z : Int) + 8) (by omega) (by omega) (by rw [hz2]; omega) (by omega)
  rw [hz1, show (1 + (z : Int)).toNat = z + 1 from by omega, show (1 + (z : Int) + 8).toNat = z + 9 from by omega, Nat.mul_one, show (Value.int IntKind.u8 0).cells = #[.int .u8 0] from rfl, hC] at hmk
  clear hz hi hz0' hz1 hz2 hC
  go_enter Tryd.func40, Tryd.ntmps40
  go_wp2_with fail
  have e3 : IntKind.u64.wrap (8 * (n : Int)) = ((8 * n % 18446744073709551616 : Nat) : Int) := by rw [IntKind.wrap_u64]; omega
  rw [e3]
  refine (appendNumber_any w.heap.size _ _ _ 8 _ (by omega) (by omega) HO.out (by simp) (by simp; omega)).mono ?_
  rintro e w' ⟨v, rfl, ho, hb⟩
  rw [HE.out] at ho
  clear e3
  go_wp2
  go_ret
  exact ⟨v, rfl, ho, Below.trans ((Below.refl _ _).alloc (Nat.le_refl _) _) hb⟩
end Go.Proofs.YtoendbdpkkjjkaaDoor
