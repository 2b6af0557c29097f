/- The walk of LexerFindsPositions. -/
import Derived.Test.YtpibmenlmjfdeaaDoorL21
namespace Go.Proofs.YtpibmenlmjfdeaaDoor
open Go.RowKit Hm Wm Lx

set_option maxRecDepth 100000 in
set_option maxHeartbeats 1000000 in
theorem finds_long (s : ByteArray) (i : Int) (w : World) (hE : Env w) (h1 : decide ((2000 : Int) < (s.size : Int)) = true) : Calls Tryd.prog 5 #[.string s, .int .i64 i] w fun e w' => e = .returned (.bool true) ∧ Below w.heap.size w w' := by
  have HE := Lib.hid hE
  have HW := Lib.hid (Below.refl w.heap.size w)
  clear hE
  go_enter Tryd.func5, Tryd.ntmps5
  go_wp2_with (first | ((with_reducible refine (sanity_any _ HE.out).mono ?_); rintro e wy ⟨rfl, hb⟩; replace HE := Lib.hid (HE.out.next hb); replace HW := Lib.hid (HW.out.trans (hb.mono HW.out.size)); clear hb))
  go_ret
  exact ⟨rfl, HW.out⟩
set_option maxRecDepth 100000 in
set_option maxHeartbeats 1000000 in
theorem finds_ok (s : ByteArray) (i : Int) (w : World) (hE : Env w) (a b : Int) (h1 : decide ((2000 : Int) < (s.size : Int)) = false) (hP : ∀ W, Calls Tryd.prog 16 #[.string s, .int .i64 i] W fun e w' => e = .returned (.tuple #[.int .i64 a, .int .i64 b]) ∧ W = w') (hR : ∀ W, Calls Tryd.prog 17 #[.string s, .int .i64 i] W fun e w' => e = .returned (.agg #[.int .i64 a, .int .i64 b]) ∧ Below W.heap.size W w') : Calls Tryd.prog 5 #[.string s, .int .i64 i] w fun e w' => e = .returned (.bool true) ∧ Below w.heap.size w w' := by
  have HE := Lib.hid hE
  have HW := Lib.hid (Below.refl w.heap.size w)
  have HPP := Lib.hid hP
  have HRR := Lib.hid hR
  clear hE hP hR
  go_enter Tryd.func5, Tryd.ntmps5
  go_upto_region 4 with (first | ((with_reducible refine (HPP.out _).mono ?_); rintro e wz ⟨rfl, rfl⟩))
  go_wp2_with (first | ((with_reducible refine (sanity_any _ HE.out).mono ?_); rintro e wy ⟨rfl, hb⟩; replace HE := Lib.hid (HE.out.next hb); replace HW := Lib.hid (HW.out.trans (hb.mono HW.out.size)); clear hb) | ((with_reducible refine (HRR.out _).mono ?_); rintro e wx ⟨rfl, hb⟩; replace HE := Lib.hid (HE.out.next hb); replace HW := Lib.hid (HW.out.trans (hb.mono HW.out.size)); clear hb) | (refine wpList_dst 21 rfl ?_; refine wpList_runG 21 rfl rfl _ (exec_buildF 40 #[(0, .tmp 19), (1, .tmp 20)] rfl #[(0, .int .i64 a), (1, .int .i64 b)] rfl _ (build_pl a b _)) ?_; go_frame) | (refine wpList_dst 25 rfl ?_; refine wpList_runG 25 rfl rfl _ (exec_bin .eql 40 _ (.tmp 21) (.tmp 24) rfl (.agg #[.int .i64 a, .int .i64 b]) (.agg #[.int .i64 a, .int .i64 b]) _ rfl rfl (pl_g _ _ _ _ _) (pl_eq a b _)) ?_; go_frame))
  go_ret
  exact ⟨rfl, HW.out⟩
theorem walk_finds (s : ByteArray) (i : Int) (w : World) (hE : Env w) (hs : s.size ≤ 9223372036854775807) : Calls Tryd.prog 5 #[.string s, .int .i64 i] w fun e w' => e = .returned (.bool true) ∧ Below w.heap.size w w' := by
  have e : s = sb s.data.toList := (sb_of s).symm
  have hz : s.data.toList.length = s.size := Array.length_toList
  rcases Nat.lt_or_ge 2000 s.size with h | h
  · exact finds_long s i w hE (decide_eq_true (by omega))
  · have h1 : decide ((2000 : Int) < (s.size : Int)) = false := decide_eq_false (by omega)
    revert h1
    rw [← hz] at h
    rw [e]
    generalize s.data.toList = l at h
    intro h1
    by_cases hi : i < 0 ∨ (l.length : Int) < i
    · exact finds_ok _ i w hE 0 0 h1 (fun W => pos_no l i W (by omega) hi) (fun W => rpos_no l i W (by omega) hi)
    · obtain ⟨k, rfl⟩ : ∃ k : Nat, i = k := ⟨i.toNat, by omega⟩
      have hk : k ≤ l.length := by omega
      exact finds_ok _ k w hE _ _ h1 (fun W => pos_yes l k W (by omega) hk) (fun W => rpos_yes l k W (by omega) hk)
end Go.Proofs.YtpibmenlmjfdeaaDoor
