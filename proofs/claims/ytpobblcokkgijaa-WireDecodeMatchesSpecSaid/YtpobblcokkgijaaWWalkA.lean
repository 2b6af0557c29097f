/- The walks of WireIntRoundTrip and WireLengths. -/
import Derived.Test.YtpobblcokkgijaaWLaw
namespace Go.Proofs.Ytpobblcokkgijaa
open Go.RowKit Wm

theorem ret_bool {a b : Bool} (h : a = b) : Ending.returned (.bool a) = .returned (.bool b) := by rw [h]

set_option maxRecDepth 100000 in
set_option maxHeartbeats 400000 in
theorem walkIntRoundTrip (n : Int) (A : Option Addr) (cap : Nat) (l : List UInt8) (w : World) (h : -9223372036854775808 ≤ n) (h' : n ≤ 9223372036854775807) (hr : Rd w A (bc l)) :
    Calls Try.prog 6 #[.int .i64 n, .slice A l.length cap] w fun e w' => e = .returned (.bool true) ∧ Below w.heap.size w w' := by
  by_cases hl : l.length ≤ 2000
  · have HR := Lib.hid hr
    have HI := Lib.hid (int_any n w h h')
    have hen := enc_le h h'
    have hep := enc_pos n
    have HG := Lib.hid (gi_enc h h' l)
    clear hr h h'
    go_enter Try.func6, Try.ntmps6
    go_wp2_with fail
    refine HI.out.mono ?_
    rintro e w1 ⟨v1, rfl, ho1, hb1⟩
    obtain ⟨A1, c1, hv, hr1, hc1⟩ := ho1.out
    clear ho1
    rw [hv]
    clear hv
    have HR1 := Lib.hid hr1
    have HT := Lib.hid (HR.out.below hb1)
    obtain ⟨E, hE⟩ : ∃ E, enc n = E := ⟨_, rfl⟩
    rw [hE] at hen hep HG HR1 hc1 ⊢
    clear hE hr1
    go_wp2_with (at_builtin; refine wpList_join rfl (.tmp 21) (.tmp 22) rfl A1 A cap E l rfl rfl ?c1 HR1.out HT.out ?c2 ?c3 ?_; rotate_left 3; intro A2 c2 w2 hc2 hr2 hb2)
    · have hcall := getInt_at HG.out A2 c2 w2 (by simp; omega) hr2
      rw [List.length_append] at hcall
      have HC := Lib.hid hcall
      clear hcall hr2 hc2
      refine HC.out.mono ?_
      rintro e w3 ⟨rfl, rfl⟩
      go_wp2_with (go_at_call 12; refine (sanity_any _).mono ?_; rintro e w3 ⟨rfl, hb3⟩)
      go_ret
      exact ⟨ret_bool (decide_eq_true (by omega)), Below.next hb1 (Below.next hb2 hb3)⟩
    case c1 => intro e0; rw [e0] at hep; simp at hep
    case c2 => omega
    case c3 => omega
  · go_enter Try.func6, Try.ntmps6
    go_wp2_with (go_at_call 12; refine (sanity_any _).mono ?_; rintro e w1 ⟨rfl, hb1⟩)
    go_ret
    exact ⟨rfl, hb1⟩
end Go.Proofs.Ytpobblcokkgijaa
