/- The walk of HashExpandMatchesSpec. -/
import Derived.Test.YtoendbdpkkjjkaaDoorHRExp
import Derived.Test.YtoendbdpkkjjkaaDoorHExpN
import Derived.Test.YtoendbdpkkjjkaaDoorHWKeys
namespace Go.Proofs.YtoendbdpkkjjkaaDoor
open Go.RowKit Hm Wm

set_option maxRecDepth 100000 in
set_option maxHeartbeats 1000000 in
theorem walkExpM_seed (seed : ByteArray) (n : Int) (w : World) (hg : Glob w) (h : 400 < seed.size) :
    Calls Tryd.prog 10 #[.string seed, .int .i64 n] w fun e w' => e = .returned (.bool true) ∧ Below w.heap.size w w' := by
  have HG := Lib.hid hg
  have d1 : decide ((400 : Int) < (seed.size : Int)) = true := by simp; omega
  clear h
  clear hg
  go_enter Tryd.func10, Tryd.ntmps10
  go_wp2_with fail
  refine (hsanity_any _ HG.out).mono ?_
  rintro e w1 ⟨rfl, hb1⟩
  have HB := Lib.hid hb1
  clear hb1
  go_wp2
  go_ret
  exact ⟨rfl, HB.out⟩

set_option maxRecDepth 100000 in
set_option maxHeartbeats 1000000 in
theorem walkExpM_mid (seed : ByteArray) (n : Int) (w : World) (hg : Glob w) (h : seed.size ≤ 400) (h1 : 300 < n) (h2 : n ≤ 1048576) :
    Calls Tryd.prog 10 #[.string seed, .int .i64 n] w fun e w' => e = .returned (.bool true) ∧ Below w.heap.size w w' := by
  have HG := Lib.hid hg
  have d1 : decide ((400 : Int) < (seed.size : Int)) = false := by simp; omega
  have d2 : decide ((300 : Int) < n) = true := by simpa using h1
  have d3 : decide (n ≤ 1048576) = true := by simpa using h2
  clear h
  clear hg
  go_enter Tryd.func10, Tryd.ntmps10
  go_wp2_with fail
  refine (hsanity_any _ HG.out).mono ?_
  rintro e w1 ⟨rfl, hb1⟩
  have HB := Lib.hid hb1
  clear hb1
  go_wp2
  go_ret
  exact ⟨rfl, HB.out⟩

set_option maxRecDepth 100000 in
set_option maxHeartbeats 1000000 in
theorem walkExpM_in (seed : ByteArray) (N : Nat) (w : World) (hg : Glob w) (ht : w.rangeAt 0 0 (wc K)) (hs : seed.size ≤ 400) (h1 : 1 ≤ N) (h2 : N ≤ 300) :
    Calls Tryd.prog 10 #[.string seed, .int .i64 N] w fun e w' => e = .returned (.bool true) ∧ Below w.heap.size w w' := by
  have HG := Lib.hid hg
  have HT := Lib.hid ht
  have HS := Lib.hid hs
  have d1 : decide ((400 : Int) < (seed.size : Int)) = false := by simp; omega
  have d2 : decide ((300 : Int) < (N : Int)) = false := by simp; omega
  have H1 := Lib.hid h1
  have H2 := Lib.hid h2
  clear h1 h2
  clear hg ht hs
  go_enter Tryd.func10, Tryd.ntmps10
  go_wp2_with fail
  refine (hsanity_any _ HG.out).mono ?_
  rintro e w1 ⟨rfl, hb1⟩
  have G1 := Lib.hid (HG.out.next hb1)
  have B1 := Lib.hid hb1
  clear hb1 HG
  go_wp2_with fail
  refine (expand_any seed N w1 G1.out (by have := HS.out; omega) H1.out (by have := H2.out; omega)).mono ?_
  rintro e w2 ⟨rfl, hb2⟩
  have B2 := Lib.hid (B1.out.trans (hb2.mono B1.out.size))
  obtain ⟨x, hx⟩ : ∃ x, expand seed.data.toList N = x := ⟨_, rfl⟩
  rw [hx, show (⟨x.toArray⟩ : ByteArray) = sb x from rfl]
  have HX := Lib.hid hx
  clear hb2 G1 B1 hx
  go_wp2_with fail
  refine (rexpand_any seed N w2 (range_below' HT.out B2.out) (by have := HS.out; omega) H1.out H2.out).mono ?_
  rintro e w3 ⟨rfl, hb3⟩
  have B3 := Lib.hid (B2.out.trans (hb3.mono B2.out.size))
  rw [HX.out]
  obtain ⟨s, hs⟩ : ∃ s, sb x = s := ⟨_, rfl⟩
  rw [hs]
  clear hb3 B2 HX hs
  go_wp2
  go_ret
  exact ⟨(show _ = _ from ret_bool (by simp)), B3.out⟩

set_option maxRecDepth 100000 in
set_option maxHeartbeats 1000000 in
theorem walkExpM_low (seed : ByteArray) (n : Int) (w : World) (hg : Glob w) (ht : w.rangeAt 0 0 (wc K)) (hs : seed.size ≤ 400) (h : n < 1) :
    Calls Tryd.prog 10 #[.string seed, .int .i64 n] w fun e w' => e = .returned (.bool true) ∧ Below w.heap.size w w' := by
  have HG := Lib.hid hg
  have HT := Lib.hid ht
  have HS := Lib.hid hs
  have d1 : decide ((400 : Int) < (seed.size : Int)) = false := by simp; omega
  have d2 : decide ((300 : Int) < n) = false := by simp; omega
  have H := Lib.hid h
  clear h
  clear hg ht hs
  go_enter Tryd.func10, Tryd.ntmps10
  go_wp2_with fail
  refine (hsanity_any _ HG.out).mono ?_
  rintro e w1 ⟨rfl, hb1⟩
  have G1 := Lib.hid (HG.out.next hb1)
  have B1 := Lib.hid hb1
  clear hb1 HG
  go_wp2_with fail
  refine (expand_low seed n w1 H.out).mono ?_
  rintro e w' ⟨rfl, rfl⟩
  go_wp2_with fail
  refine (rexpand_low seed n w1 H.out).mono ?_
  rintro e w' ⟨rfl, rfl⟩
  go_wp2
  go_ret
  exact ⟨rfl, B1.out⟩

set_option maxRecDepth 100000 in
set_option maxHeartbeats 1000000 in
theorem walkExpM_high (seed : ByteArray) (n : Int) (w : World) (hg : Glob w) (ht : w.rangeAt 0 0 (wc K)) (hs : seed.size ≤ 400) (h : 1048576 < n) :
    Calls Tryd.prog 10 #[.string seed, .int .i64 n] w fun e w' => e = .returned (.bool true) ∧ Below w.heap.size w w' := by
  have HG := Lib.hid hg
  have HT := Lib.hid ht
  have HS := Lib.hid hs
  have d1 : decide ((400 : Int) < (seed.size : Int)) = false := by simp; omega
  have d2 : decide ((300 : Int) < n) = true := by simp; omega
  have d3 : decide (n ≤ 1048576) = false := by simp; omega
  have H := Lib.hid h
  clear h
  clear hg ht hs
  go_enter Tryd.func10, Tryd.ntmps10
  go_wp2_with fail
  refine (hsanity_any _ HG.out).mono ?_
  rintro e w1 ⟨rfl, hb1⟩
  have G1 := Lib.hid (HG.out.next hb1)
  have B1 := Lib.hid hb1
  clear hb1 HG
  go_wp2_with fail
  refine (expand_high seed n w1 H.out).mono ?_
  rintro e w' ⟨rfl, rfl⟩
  go_wp2_with fail
  refine (rexpand_high seed n w1 H.out).mono ?_
  rintro e w' ⟨rfl, rfl⟩
  go_wp2
  go_ret
  exact ⟨rfl, B1.out⟩

theorem walkExpM (seed : ByteArray) (n : Int) (w : World) (hg : Glob w) (ht : w.rangeAt 0 0 (wc K)) :
    Calls Tryd.prog 10 #[.string seed, .int .i64 n] w fun e w' => e = .returned (.bool true) ∧ Below w.heap.size w w' := by
  by_cases hs : 400 < seed.size
  · exact walkExpM_seed seed n w hg hs
  · have hs2 : seed.size ≤ 400 := by omega
    by_cases h1 : n < 1
    · exact walkExpM_low seed n w hg ht hs2 h1
    · by_cases h2 : 1048576 < n
      · exact walkExpM_high seed n w hg ht hs2 h2
      · by_cases h3 : 300 < n
        · exact walkExpM_mid seed n w hg hs2 h3 (by omega)
        · obtain ⟨N, rfl⟩ : ∃ N : Nat, n = (N : Int) := ⟨n.toNat, by omega⟩
          exact walkExpM_in seed N w hg ht hs2 (by omega) (by omega)
end Go.Proofs.YtoendbdpkkjjkaaDoor
