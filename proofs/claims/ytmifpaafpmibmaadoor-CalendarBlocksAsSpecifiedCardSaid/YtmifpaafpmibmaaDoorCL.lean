/- The laws' helpers: bin, dated. -/
import Derived.Test.YtmifpaafpmibmaaDoorCK
namespace Go.Proofs.YtmifpaafpmibmaaDoor
open Go.RowKit Hm Wm Cm

set_option maxRecDepth 100000 in
set_option maxHeartbeats 1000000 in
theorem lbin_any (l f t : Int) (w : World) : Calls Tryd.prog 30 #[.int .i64 l, .int .i64 f, .int .i64 t] w fun e w' => e = .returned (bV l f t) ∧ Below w.heap.size w w' := by
  have HK := Lib.hid (Blk.new w 23 (b3 l f t))
  have HB := Lib.hid ((Below.refl w.heap.size w).alloc (Nat.le_refl _) (.cells (b3 l f t).toArray 23))
  go_enter Tryd.func30, Tryd.ntmps30
  go_wp2
  exact bodyPost_ret (results_blk rfl _ _ w.heap.size _ (b3 l f t) _ rfl HK.out Tryd.underlying23 rfl bn_size) rfl ⟨rfl, HB.out⟩
set_option maxRecDepth 100000 in
set_option maxHeartbeats 1000000 in
theorem dated_any (zd zy zm zx : Int) (D j m x : Nat) (w : World) (hL : Lens w) (hD : D < 14610) (hj : mo D / 12 = j) (hm : mo D % 12 = m) (hx : D - ms (mo D) = x) (ed : zd = D) (ey : zy = 2000 + (j : Int)) (em : zm = (m : Int) + 1) (ex : zx = (x : Int) + 1) : Calls Tryd.prog 28 #[.int .i64 zd, .int .i64 zy, .int .i64 zm, .int .i64 zx] w fun e w' => e = .returned (.bool true) ∧ w = w' := by
  have hlt := mo_lt D
  have hle := mo_le D
  have hnx := mo_next hD
  have hmo : mo D = 12 * j + m := by omega
  have hxl : x < mlen (12 * j + m) := by rw [← hmo]; rw [ms_succ] at hnx; omega
  have hH := date_at zd D j m x w hL ed hD hj hm hx
  have hF := day_yes j m x zy zm zx w hL (by omega) (by omega) hxl ey em ex
  rw [show ((ms (12 * j + m) + x : Nat) : Int) = zd from by rw [← hmo]; omega] at hF
  rw [← ey, ← em, ← ex] at hH
  have HH := Lib.hid hH
  have HF := Lib.hid hF
  clear hH hF hxl hmo hnx hle hlt ed ey em ex hj hm hx hL
  go_enter Tryd.func28, Tryd.ntmps28
  go_wp2_with fail
  refine HH.out.mono ?_
  rintro e w0 ⟨rfl, h0⟩
  subst h0
  go_wp2_with fail
  refine HF.out.mono ?_
  rintro e w0 ⟨rfl, h0⟩
  subst h0
  go_wp2
  go_ret
  exact ⟨rfl, rfl⟩
end Go.Proofs.YtmifpaafpmibmaaDoor
