/- Expand's answer outside its bounds: the empty string. -/
import Derived.Test.YtoendbdpkkjjkaaDoorHExp
namespace Go.Proofs.YtoendbdpkkjjkaaDoor
open Go.RowKit Hm Wm

set_option maxRecDepth 100000 in
set_option maxHeartbeats 400000 in
theorem expand_low (seed : ByteArray) (n : Int) (w : World) (h : n < 1) :
    Calls Tryd.prog 31 #[.string seed, .int .i64 n] w fun e w' => e = .returned (.string { data := #[] }) ∧ w = w' := by
  have d1 : decide (n < 1) = true := by simpa using h
  go_enter Tryd.func31, Tryd.ntmps31
  go_wp2
  go_ret
  exact ⟨rfl, rfl⟩

set_option maxRecDepth 100000 in
set_option maxHeartbeats 400000 in
theorem expand_high (seed : ByteArray) (n : Int) (w : World) (h : 1048576 < n) :
    Calls Tryd.prog 31 #[.string seed, .int .i64 n] w fun e w' => e = .returned (.string { data := #[] }) ∧ w = w' := by
  have h1 : ¬ n < 1 := by omega
  have d1 : decide (n < 1) = false := by simpa using h1
  have d2 : decide (1048576 < n) = true := by simpa using h
  go_enter Tryd.func31, Tryd.ntmps31
  go_wp2
  go_ret
  exact ⟨rfl, rfl⟩
end Go.Proofs.YtoendbdpkkjjkaaDoor
