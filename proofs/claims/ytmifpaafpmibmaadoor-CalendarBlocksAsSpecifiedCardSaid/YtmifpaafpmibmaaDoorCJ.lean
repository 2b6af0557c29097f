/- Cover. -/
import Derived.Test.YtmifpaafpmibmaaDoorCI
namespace Go.Proofs.YtmifpaafpmibmaaDoor
open Go.RowKit Hm Wm Cm

theorem fn_size : (Tryd.prog.info? 60).map (·.size) = some 1 := by kernel_rfl
set_option maxRecDepth 100000 in
set_option maxHeartbeats 400000 in
theorem Cover_no (a b : Int) (w : World) (h : intB a b = false) : Calls Tryd.prog 18 #[.int .i64 a, .int .i64 b] w fun e w' => e = .returned (.tuple #[.slice none 0 0, .int .i64 3]) ∧ w = w' := by
  have HI := Lib.hid (interval_any a b)
  rw [h] at HI
  clear h
  go_enter Tryd.func18, Tryd.ntmps18
  go_wp2_with fail
  refine (HI.out _).mono ?_
  rintro e w0 ⟨rfl, h0⟩
  subst h0
  go_wp2
  go_ret2
  exact ⟨rfl, rfl⟩
theorem g_len {a b : Nat} (h : a ≤ b) (hM : b ≤ M) : (g 4 a b).length ≤ 180 := len_gen 4 (by omega) a b h hM (fun h => by omega)
set_option maxRecDepth 100000 in
set_option maxHeartbeats 1000000 in
theorem Cover_yes (a b : Nat) (w : World) (hab : a ≤ b) (hbM : b ≤ M) (hL : Lens w) : Calls Tryd.prog 18 #[.int .i64 a, .int .i64 b] w fun e w' => (∃ v, e = .returned (.tuple #[v, .int .i64 0]) ∧ Row w' w.heap.size v (g 4 a b)) ∧ Below w.heap.size w w' := by
  have hM : M = 1402560 := rfl
  have HI := Lib.hid (interval_any a b)
  rw [show intB (a : Int) (b : Int) = true from decide_eq_true (by omega)] at HI
  obtain ⟨W1, hW1, kl, kc, hb1⟩ := two_one w 33 60 (.slice none 0 0) .nilFunc
  subst hW1
  have KL := Lib.hid kl
  have KC := Lib.hid kc
  have HB1 := Lib.hid hb1
  have HL := Lib.hid hL
  have hmf : ∀ (fn : Fn) (first cap : Array Value) (w : World), (Instr.makeFunc fn first cap).run Tryd.prog w = .ok (.func fn first cap) w := fun _ _ _ _ => rfl
  clear kl kc hb1 hL
  go_enter Tryd.func18, Tryd.ntmps18
  go_wp2_with fail
  refine (HI.out _).mono ?_
  rintro e w0 ⟨rfl, h0⟩
  subst h0
  go_wp2_with (first | (refine wpList_store_var rfl 60 (.tmp 7) (.tmp 12) rfl (w.heap.size + 1) 60 _ (coF (w.heap.size + 1) w.heap.size) rfl rfl KC.out fn_size rfl rfl ?_; intro w3 hk3 ho3; have dc : w3.cell? ⟨w.heap.size + 1, 0, none⟩ = some (coF (w.heap.size + 1) w.heap.size) := hk3.out.cell 0))
  have hlen : Hid (([] : List Bk).length + (cov 5 a b).length ≤ 1000) := Lib.hid (by have : (cov 5 a b).length ≤ 180 := g_len hab hbM; simp; omega)
  have kl3 := ho3.blk KL.out (by omega)
  have hb3 := HB1.out.trans (ho3.below (by omega))
  refine (cover_any 5 (by omega) 4 a b (w.heap.size + 1) w.heap.size w w3 (.slice none 0 0) [] (by omega) hab hbM (fun h => by omega) HL.out hb3 hk3.out (Nat.le_refl _) kl3 (Row.nil _ _) hlen).mono ?_
  rintro e w4 ⟨⟨u, rfl⟩, ⟨v, k4, r4⟩, x4, b4⟩
  have HR := Lib.hid r4
  have HB := Lib.hid (hb3.trans b4)
  have dl : w4.cell? ⟨w.heap.size, 0, none⟩ = some v := k4.cell 0
  clear kl3 hb3 k4 r4 x4 b4 dc ho3 hlen
  go_wp2
  go_ret2
  exact ⟨⟨_, rfl, HR.out⟩, HB.out⟩
end Go.Proofs.YtmifpaafpmibmaaDoor
