/- commonOfWords, isText and group. -/
import Derived.Test.YtkjnfobaoaaopaaGreatDoorN10
namespace Go.Proofs.YtkjnfobaoaaopaaGreatDoor
open Go.RowKit Hm Wm Wn

theorem run_remW (x y : Nat) (hy : y ≠ 0) (w : World) : (binOp .rem 53 (.int .u64 x) (.int .u64 y)).run Tryz.prog w = .ok (.int .u64 ((x % y : Nat) : Int)) w := by
  simp [binOp, go_sem]
  rw [Int.tmod_eq_emod_of_nonneg (by omega), if_neg hy]
def GcR (N : Nat) (a b : Value) : Prop := ∃ x y : Nat, a = .int .u64 x ∧ b = .int .u64 y ∧ Hid (x < B) ∧ Hid (y < B) ∧ Hid (Nat.gcd x y = N)
set_option maxRecDepth 100000 in
set_option maxHeartbeats 400000 in
theorem words_any (x y : Nat) (w : World) (hx : x < B) (hy : y < B) : Calls Tryz.prog 42 #[.int .u64 x, .int .u64 y] w fun e w' => e = .returned (.int .u64 (Nat.gcd x y)) ∧ Below w.heap.size w w' := by
  obtain ⟨N, hN⟩ : ∃ N, Nat.gcd x y = N := ⟨_, rfl⟩
  rw [hN]
  have HN := Lib.hid hN
  have HX := Lib.hid hx
  have HY := Lib.hid hy
  clear hN hx hy
  go_enter Tryz.func42, Tryz.ntmps42
  go_wp2
  go_loopw [0, 1] (fun a b wr => GcR N a b ∧ Hid (Below w.heap.size w wr)) (fun _ b _ => (intOf b).toNat)
  case atStart => exact ⟨⟨x, y, rfl, rfl, HX, HY, HN⟩, Lib.hid (Below.refl _ _)⟩
  case round =>
    obtain ⟨⟨p, q, rfl, rfl, HP, HQ, HG⟩, HB⟩ := hrel
    by_cases hq : q = 0
    · have HE := Lib.hid (show p = N by have := HG.out; rwa [hq, Nat.gcd_zero_right] at this)
      have d0 : decide ((0 : Int) < (q : Int)) = false := decide_eq_false (by omega)
      have d0' : decide (0 < q) = false := decide_eq_false (by omega)
      clear hq HG
      go_wp2
      go_ret
      exact ⟨by rw [← HE.out]; rfl, HB.out⟩
    · have d0 : decide ((0 : Int) < (q : Int)) = true := decide_eq_true (by omega)
      have d0' : decide (0 < q) = true := decide_eq_true (by omega)
      have hrm := fun W => run_remW p q hq W
      have hml := Nat.mod_lt p (Nat.pos_of_ne_zero hq)
      have hg2 : Nat.gcd q (p % q) = N := by rw [← HG.out, Nat.gcd_comm p q, Nat.gcd_rec q p, Nat.gcd_comm]
      obtain ⟨m, hm⟩ : ∃ m, p % q = m := ⟨_, rfl⟩
      rw [hm] at hrm hml hg2
      have HRM := Lib.hid hrm
      have HML := Lib.hid hml
      have HG2 := Lib.hid hg2
      have HMB := Lib.hid (Nat.lt_trans hml HQ.out)
      clear hrm hml hg2 hm hq HG
      go_wp2_with fail
      refine wp_region_held_drew (S := fun W => Below w.heap.size w W) (by kernel_rfl) HB.out.drew (fun hS => ?_)
      generalize wr.drew = u0 at hS ⊢
      refine reg_takeG (i := 0) (some 7) rfl rfl rfl (by kernel_rfl) (by kernel_rfl) (by kernel_rfl) (.int .u64 q) (fun _ _ _ h => h) (fun W hW => exec_move (.tmp 1) rfl _ rfl) hS ?_
      go_frame
      refine reg_takeG (i := 1) (some 8) rfl rfl rfl (by kernel_rfl) (by kernel_rfl) (by kernel_rfl) (.int .u64 p) (fun _ _ _ h => h) (fun W hW => exec_move (.tmp 0) rfl _ rfl) hS ?_
      go_frame
      refine reg_takeG (i := 2) (some 9) rfl rfl rfl (by kernel_rfl) (by kernel_rfl) (by kernel_rfl) (.int .u64 q) (fun _ _ _ h => h) (fun W hW => exec_move (.tmp 1) rfl _ rfl) hS ?_
      go_frame
      refine reg_takeG (i := 3) (some 10) rfl rfl rfl (by kernel_rfl) (by kernel_rfl) (by kernel_rfl) (.int .u64 m) (fun _ _ _ h => h) (fun W hW => exec_bin .rem 53 _ (.tmp 8) (.tmp 9) rfl _ _ _ rfl rfl rfl (HRM.out W)) hS ?_
      go_frame
      refine reg_takeG (i := 4) (some 0) rfl rfl rfl (by kernel_rfl) (by kernel_rfl) (by kernel_rfl) (.int .u64 q) (fun _ _ _ h => h) (fun W hW => exec_assign (.tmp 7) rfl _ rfl) hS ?_
      go_frame
      refine reg_takeG (i := 5) (some 1) rfl rfl rfl (by kernel_rfl) (by kernel_rfl) (by kernel_rfl) (.int .u64 m) (fun _ _ _ h => h) (fun W hW => exec_assign (.tmp 10) rfl _ rfl) hS ?_
      go_frame
      refine wpAnyH_done (by kernel_rfl) ?_ _
      have HS := Lib.hid hS
      clear hS
      go_wp2
      go_roundw
      case rel => exact ⟨⟨q, m, rfl, rfl, HQ, HMB, HG2⟩, HS⟩
      case measure => have := HML.out; simp [intOf]; omega
/-- The number of decimal digits. -/
def decN (l : List UInt8) : Nat := l.foldl (fun n b => 10 * n + (b.toNat - 48)) 0
theorem decN_snoc (l : List UInt8) (b : UInt8) : decN (l ++ [b]) = 10 * decN l + (b.toNat - 48) := by unfold decN; rw [List.foldl_append]; rfl
def isDig (b : UInt8) : Bool := decide (48 ≤ b.toNat) && decide (b.toNat ≤ 57)
theorem decF_lt : ∀ (l : List UInt8) (a : Nat), l.all isDig = true → l.foldl (fun n (b : UInt8) => 10 * n + (b.toNat - 48)) a < (a + 1) * 10 ^ l.length := by
  intro l
  induction l with
  | nil => intro a _; simp
  | cons b l ih =>
    intro a h
    rw [List.all_cons, Bool.and_eq_true] at h
    have h2 := h.1
    simp only [isDig, Bool.and_eq_true, decide_eq_true_eq] at h2
    have h1 := ih (10 * a + (b.toNat - 48)) h.2
    have h3 : (10 * a + (b.toNat - 48) + 1) * 10 ^ l.length ≤ (10 * (a + 1)) * 10 ^ l.length := Nat.mul_le_mul_right _ (by omega)
    rw [List.foldl_cons, List.length_cons, Nat.pow_succ, Nat.mul_comm (10 ^ l.length) 10, ← Nat.mul_assoc, Nat.mul_comm (a + 1) 10]
    omega
theorem decN_lt (l : List UInt8) (h : l.all isDig = true) : decN l < 10 ^ l.length := by have := decF_lt l 0 h; simpa [decN] using this
theorem decN_take (l : List UInt8) (k : Nat) (h : k < l.length) : decN (l.take (k + 1)) = 10 * decN (l.take k) + (l[k].toNat - 48) := by rw [List.take_succ_eq_append_getElem h, decN_snoc]
/-- What stands in the loop of group. -/
def GrR (l : List UInt8) (nv iv : Value) : Prop := ∃ i n : Nat, iv = .int .i64 i ∧ nv = .int .u64 n ∧ i ≤ l.length ∧ Hid (decN (l.take i) = n)
set_option maxRecDepth 100000 in
set_option maxHeartbeats 400000 in
theorem group_any (l : List UInt8) (w : World) (hd : l.all isDig = true) (hl : l.length ≤ 19) : Calls Tryz.prog 48 #[.string (sb l)] w fun e w' => e = .returned (.int .u64 (decN l)) ∧ w' = w := by
  obtain ⟨t, ht⟩ : ∃ t, sb l = t := ⟨_, rfl⟩
  have htl : t.data.toList = l := by rw [← ht, sb_list]
  have hts : t.size = l.length := by rw [← ht, sb_size]
  rw [ht]
  have HTL := Lib.hid htl
  have HDD := Lib.hid hd
  clear ht htl hd
  go_enter Tryz.func48, Tryz.ntmps48
  go_wp2_with fail
  go_loop [3, 7] (GrR l) (fun _ iv => l.length - (intOf iv).toNat)
  case atStart => exact ⟨0, 0, rfl, rfl, Nat.zero_le _, rfl⟩
  case round =>
    obtain ⟨i, n, rfl, rfl, hi, HN⟩ := hrel
    by_cases hlt : i < l.length
    · have d1 : decide ((i : Int) < (l.length : Int)) = true := decide_eq_true (by omega)
      have d1' : decide (i < l.length) = true := decide_eq_true hlt
      have hb : t.data.toList[i]? = some l[i] := by rw [HTL.out]; exact List.getElem?_eq_getElem hlt
      have hdi : isDig l[i] = true := List.all_eq_true.1 HDD.out _ (List.getElem_mem hlt)
      have hn2 := decN_take l i hlt
      obtain ⟨b, hbb⟩ : ∃ b, l[i] = b := ⟨_, rfl⟩
      rw [hbb] at hb hdi hn2
      rw [HN.out] at hn2
      have hnl := decN_lt (l.take (i + 1)) (by
        rw [List.all_eq_true]
        intro x hx
        exact List.all_eq_true.1 HDD.out x (List.mem_of_mem_take hx))
      have hp : (10 : Nat) ^ (l.take (i + 1)).length ≤ 10 ^ 19 := Nat.pow_le_pow_right (by decide) (by rw [List.length_take]; omega)
      have hp2 : (10 : Nat) ^ 19 = 10000000000000000000 := by decide
      rw [hn2] at hnl
      simp only [isDig, Bool.and_eq_true, decide_eq_true_eq] at hdi
      have hbig : 10 * n + (b.toNat - 48) < 10000000000000000000 := by omega
      obtain ⟨d, hd⟩ : ∃ d, b.toNat - 48 = d := ⟨_, rfl⟩
      have hb48 : b.toNat = d + 48 := by omega
      have hd9 : d ≤ 9 := by omega
      rw [hd] at hn2 hbig
      have HN2 := Lib.hid hn2
      have HIX := Lib.hid hb
      have HB48 := Lib.hid (show (b.toNat : Int) = (d : Int) + 48 by omega)
      clear hbb hdi hn2 hnl hp hp2 hd hb hb48 HN
      go_wp2_with (refine wpList_run 14 rfl rfl _ (exec_indexS (.tmp 12) (.tmp 13) rfl t i b HIX.out rfl rfl) ?_; rw [HB48.out])
      skip --@@
      go_round
      case rel => exact ⟨i + 1, 10 * n + d, by go_num, by go_num, by omega, HN2⟩
      case measure => simp [intOf]; omega
    · obtain rfl : i = l.length := by omega
      have d1 : decide ((l.length : Int) < (l.length : Int)) = false := decide_eq_false (by omega)
      have hn := HN.out
      rw [List.take_length] at hn
      have HE := Lib.hid hn
      clear hn HN
      go_wp2
      go_ret
      exact ⟨by rw [HE.out]; rfl, rfl⟩
end Go.Proofs.YtkjnfobaoaaopaaGreatDoor
