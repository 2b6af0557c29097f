/- find: months and years. -/
import Derived.Test.YtmifpaafpmibmaaDoorC7
namespace Go.Proofs.YtmifpaafpmibmaaDoor
open Go.RowKit Hm Wm Cm

theorem date_at (z : Int) (D j m x : Nat) (w : World) (hL : Lens w) (hz : z = (D : Int)) (hd : D < 14610) (hj : mo D / 12 = j) (hm : mo D % 12 = m) (hx : D - ms (mo D) = x) : Calls Tryd.prog 34 #[.int .i64 z] w fun e w' => e = .returned (.tuple #[.int .i64 (2000 + (j : Int)), .int .i64 ((m : Int) + 1), .int .i64 ((x : Int) + 1), .int .i64 0]) ∧ w = w' := by
  subst hz
  rw [← hj, ← hm, ← hx]
  exact date_yes D w hL hd
set_option maxRecDepth 100000 in
set_option maxHeartbeats 1000000 in
theorem find_3 (t : Nat) (w : World) (hL : Lens w) (ht : t < M) : Calls Tryd.prog 22 #[.int .i64 (3 : Nat), .int .i64 t] w fun e w' => e = .returned (fV 3 t) ∧ Below w.heap.size w w' := by
  have hM : M = 1402560 := rfl
  obtain ⟨D, hD⟩ : ∃ D, t / 96 = D := ⟨_, rfl⟩
  obtain ⟨j, hj⟩ : ∃ j, mo D / 12 = j := ⟨_, rfl⟩
  obtain ⟨m, hm⟩ : ∃ j, mo D % 12 = j := ⟨_, rfl⟩
  obtain ⟨x, hx⟩ : ∃ j, D - ms (mo D) = j := ⟨_, rfl⟩
  have hlt := mo_lt D
  have hle := mo_le D
  have hm12 : m < 12 := by omega
  have hj40 : j < 40 := by omega
  have hmo : mo D = 12 * j + m := by omega
  have hDb : D < 14610 := by omega
  obtain ⟨S, hS⟩ : ∃ S, ms (mo D) = S := ⟨_, rfl⟩
  obtain ⟨N, hN⟩ : ∃ N, mlen (mo D) = N := ⟨_, rfl⟩
  have hSN : ms (mo D + 1) = S + N := by rw [ms_succ, hS, hN]
  have hNb := mlen_bd (mo D)
  have hfl : fl 3 t = 96 * S := by show 96 * ms (mo (t / 96)) = _; rw [hD, hS]
  have hnx : nx 3 t = 96 * S + 96 * N := by show 96 * ms (mo (t / 96) + 1) = _; rw [hD, hSN]; omega
  rw [hN] at hNb
  rw [hS] at hx hle
  have HC := length_any (2000 + (j : Int)) ((m : Int) + 1) m
  rw [mlI_yr j hm12, ← hmo, hN] at HC
  have hfin : fV 3 t = bV (3 : Nat) ((96 * S : Nat) : Int) ((96 * S + 96 * N : Nat) : Int) := by unfold fV; rw [hfl, hnx]
  rw [hfin]
  have HDT := Lib.hid (fun W (h : Lens W) => date_at ((t : Int) / 96) D j m x W h (by omega) hDb hj hm (by rw [hS]; exact hx))
  have HL := Lib.hid (hL.next ((Below.refl w.heap.size w).alloc (Nat.le_refl _) (.cells bZ.toArray 23)))
  have HZ := Lib.hid (Blk.new w 23 bZ)
  have HW := Lib.hid ((Below.refl w.heap.size w).alloc (Nat.le_refl _) (.cells bZ.toArray 23))
  have hxb : x ≤ D := by omega
  have HX : Hid ((D : Int) - ((x : Int) + 1) + 1 = S) := Lib.hid (by omega)
  have HDD := Lib.hid hD
  have HCC := Lib.hid HC
  skip
  clear HC hS hN hSN hfl hnx hfin hj hm hx hmo hD hL
  go_enter Tryd.func22, Tryd.ntmps22
  go_wp2_with fail
  refine (HDT.out _ HL.out).mono ?_
  rintro e w0 ⟨rfl, h0⟩
  subst h0
  go_wp2_with fail
  refine (HCC.out _ HL.out hm12 (by first | rfl | trivial)).mono ?_
  rintro e w0 ⟨rfl, h0⟩
  subst h0
  go_wp2_with fail
  refine (bin_at _ _ _ ((96 * S : Nat) : Int) ((96 * S + 96 * N : Nat) : Int) _ (by have := HX.out; have := HDD.out; omega) (by have := HX.out; have := HDD.out; omega) (by have := HX.out; have := HDD.out; omega) (by have := HX.out; have := HDD.out; omega) (by omega) (by omega)).mono ?_
  rintro e w1 ⟨rfl, hb⟩
  replace HZ := Lib.hid (HZ.out.next hb)
  replace HW := Lib.hid (HW.out.trans (hb.mono HW.out.size))
  clear hb
  go_wp2_with (first | (refine wpList_store_all rfl 23 (.tmp 4) (.tmp 52) rfl w.heap.size _ bZ (b3 3 ((96 * S : Nat) : Int) ((96 * S + 96 * N : Nat) : Int)) rfl rfl HZ.out rfl bn_size (b_one _ _ _) ?_; intro w9 HK9 ho9; have HO9 := Lib.hid ho9; clear ho9))
  exact bodyPost_ret (results_blk rfl _ _ w.heap.size _ (b3 3 ((96 * S : Nat) : Int) ((96 * S + 96 * N : Nat) : Int)) _ rfl HK9.out Tryd.underlying23 rfl bn_size) rfl ⟨rfl, HW.out.trans (HO9.out.below (Nat.le_refl _))⟩
set_option maxRecDepth 100000 in
set_option maxHeartbeats 1000000 in
theorem find_4 (t : Nat) (w : World) (hL : Lens w) (ht : t < M) : Calls Tryd.prog 22 #[.int .i64 (4 : Nat), .int .i64 t] w fun e w' => e = .returned (fV 4 t) ∧ Below w.heap.size w w' := by
  have hM : M = 1402560 := rfl
  obtain ⟨D, hD⟩ : ∃ D, t / 96 = D := ⟨_, rfl⟩
  obtain ⟨j, hj⟩ : ∃ j, mo D / 12 = j := ⟨_, rfl⟩
  obtain ⟨m, hm⟩ : ∃ j, mo D % 12 = j := ⟨_, rfl⟩
  obtain ⟨x, hx⟩ : ∃ j, D - ms (mo D) = j := ⟨_, rfl⟩
  have hlt := mo_lt D
  have hle := mo_le D
  have hm12 : m < 12 := by omega
  have hj40 : j < 40 := by omega
  have hmo : mo D = 12 * j + m := by omega
  have hDb : D < 14610 := by omega
  obtain ⟨S, hS⟩ : ∃ S, ms (12 * j) = S := ⟨_, rfl⟩
  obtain ⟨E, hE⟩ : ∃ S, ms (12 * (j + 1)) = S := ⟨_, rfl⟩
  have hSE : S ≤ E := by rw [← hS, ← hE]; exact ms_le (by omega)
  have hEb : E ≤ 14610 := by rw [← hE, ← ms_end]; exact ms_le (by omega)
  have hfl : fl 4 t = 96 * S := by show 96 * ms (12 * (mo (t / 96) / 12)) = _; rw [hD, hj, hS]
  have hnx : nx 4 t = 96 * E := by show 96 * ms (12 * (mo (t / 96) / 12 + 1)) = _; rw [hD, hj, hE]
  have HC := fun W => first_any (2000 + (j : Int)) j W (by omega) rfl
  have HE := fun W => first_any (2000 + (j : Int) + 1) (j + 1) W (by omega) (by omega)
  rw [hS] at HC
  rw [hE] at HE
  have hfin : fV 4 t = bV (4 : Nat) ((96 * S : Nat) : Int) ((96 * E : Nat) : Int) := by unfold fV; rw [hfl, hnx]
  rw [hfin]
  have HDT := Lib.hid (fun W (h : Lens W) => date_at ((t : Int) / 96) D j m x W h (by omega) hDb hj hm (by exact hx))
  have HL := Lib.hid (hL.next ((Below.refl w.heap.size w).alloc (Nat.le_refl _) (.cells bZ.toArray 23)))
  have HZ := Lib.hid (Blk.new w 23 bZ)
  have HW := Lib.hid ((Below.refl w.heap.size w).alloc (Nat.le_refl _) (.cells bZ.toArray 23))
  have hxb : x ≤ D := by omega
  have HX : Hid (True) := Lib.hid (by trivial)
  have HDD := Lib.hid hD
  have HCC := Lib.hid HC
  have HEE := Lib.hid HE
  clear HC HE hS hE hfl hnx hfin hj hm hx hmo hD hL
  go_enter Tryd.func22, Tryd.ntmps22
  go_wp2_with fail
  refine (HDT.out _ HL.out).mono ?_
  rintro e w0 ⟨rfl, h0⟩
  subst h0
  go_wp2_with fail
  refine (HCC.out _).mono ?_
  rintro e w0 ⟨rfl, h0⟩
  subst h0
  go_wp2_with fail
  refine (HEE.out _).mono ?_
  rintro e w0 ⟨rfl, h0⟩
  subst h0
  go_wp2_with fail
  refine (bin_at _ _ _ ((96 * S : Nat) : Int) ((96 * E : Nat) : Int) _ (by omega) (by omega) (by omega) (by omega) (by omega) (by omega)).mono ?_
  rintro e w1 ⟨rfl, hb⟩
  replace HZ := Lib.hid (HZ.out.next hb)
  replace HW := Lib.hid (HW.out.trans (hb.mono HW.out.size))
  clear hb
  go_wp2_with (first | (refine wpList_store_all rfl 23 (.tmp 4) (.tmp 64) rfl w.heap.size _ bZ (b3 4 ((96 * S : Nat) : Int) ((96 * E : Nat) : Int)) rfl rfl HZ.out rfl bn_size (b_one _ _ _) ?_; intro w9 HK9 ho9; have HO9 := Lib.hid ho9; clear ho9))
  exact bodyPost_ret (results_blk rfl _ _ w.heap.size _ (b3 4 ((96 * S : Nat) : Int) ((96 * E : Nat) : Int)) _ rfl HK9.out Tryd.underlying23 rfl bn_size) rfl ⟨rfl, HW.out.trans (HO9.out.below (Nat.le_refl _))⟩
theorem find_any (L t : Nat) (w : World) (hL : Lens w) (h4 : L ≤ 4) (ht : t < M) : Calls Tryd.prog 22 #[.int .i64 L, .int .i64 t] w fun e w' => e = .returned (fV L t) ∧ Below w.heap.size w w' := by
  rcases Nat.lt_or_ge L 3 with h | h
  · exact find_low L t w (by omega) ht
  · rcases Nat.lt_or_ge L 4 with h3 | h3
    · obtain rfl : L = 3 := by omega
      exact find_3 t w hL ht
    · obtain rfl : L = 4 := by omega
      exact find_4 t w hL ht
end Go.Proofs.YtmifpaafpmibmaaDoor
