/- The reference: the text of tokens. -/
import Derived.Test.YtggjgikpiljoiaaDoorL30
namespace Go.Proofs.YtggjgikpiljoiaaDoor
open Go.RowKit Hm Wm Lx

theorem join_snoc (xs : List (List UInt8)) (b : List UInt8) : Lib.join (xs ++ [b]) [32] = if xs.isEmpty then b else Lib.join xs [32] ++ [32] ++ b := by
  cases xs with
  | nil => simp [Lib.join_one]
  | cons x r => simp [Lib.join_cons, Lib.joinTail]
theorem parts_next {l : List TI} {k : Nat} {x : TI} (h : l[k]? = some x) : (l.take (k + 1)).filterMap partI = (l.take k).filterMap partI ++ (partI x).toList := by
  obtain ⟨hk, rfl⟩ := List.getElem?_eq_some_iff.1 h
  rw [List.take_succ_eq_append_getElem hk, List.filterMap_append]
  cases hp : partI l[k] <;> simp [hp]
/-- Whether nothing was printed yet. -/
def fsT (l : List TI) : Bool := (l.filterMap partI).isEmpty
theorem text_none {l : List TI} {k : Nat} {x : TI} (h : l[k]? = some x) (hp : partI x = none) : textI (l.take (k + 1)) = textI (l.take k) ∧ fsT (l.take (k + 1)) = fsT (l.take k) := by
  unfold textI fsT
  rw [parts_next h, hp]; simp
theorem text_some {l : List TI} {k : Nat} {x : TI} {b : List UInt8} (h : l[k]? = some x) (hp : partI x = some b) : textI (l.take (k + 1)) = (if fsT (l.take k) then b else textI (l.take k) ++ [32] ++ b) ∧ fsT (l.take (k + 1)) = false := by
  unfold textI fsT
  rw [parts_next h, hp]
  refine ⟨by rw [Option.toList_some, join_snoc], by simp⟩
theorem fsT_nil {l : List TI} (h : fsT l = true) : textI l = [] := by
  unfold fsT at h
  unfold textI
  rw [List.isEmpty_iff.1 h]; rfl
theorem part_len {x : TI} {b : List UInt8} (hs : x.s.size ≤ 400) (h0 : -9223372036854775808 ≤ x.v) (h1 : x.v ≤ 9223372036854775807) (h : partI x = some b) : b.length ≤ 802 := by
  have hl : x.s.data.toList.length = x.s.size := Array.length_toList
  unfold partI Lx.part at h
  split at h
  · injection h with h; subst h; omega
  · split at h
    · injection h with h; subst h
      rcases Int.lt_or_le x.v 0 with h3 | h3
      · obtain ⟨n, hn⟩ : ∃ n : Nat, x.v = -(n : Int) := ⟨x.v.natAbs, by omega⟩
        rw [hn, itoa_neg (by omega), List.length_cons]
        have := itoa_len n (by omega); omega
      · obtain ⟨n, hn⟩ : ∃ n : Nat, x.v = n := ⟨x.v.toNat, by omega⟩
        rw [hn]; have := itoa_len n (by omega); omega
    · split at h
      · injection h with h; subst h
        have := quo_len x.s.data.toList
        simp only [quo, List.length_cons, List.length_append, List.length_nil]; omega
      · cases h
theorem text_len (l : List TI) (hs : ∀ x ∈ l, x.s.size ≤ 400) (hv : ∀ x ∈ l, -9223372036854775808 ≤ x.v ∧ x.v ≤ 9223372036854775807) : ∀ k, k ≤ l.length → (textI (l.take k)).length ≤ 803 * k := by
  intro k
  induction k with
  | zero => intro _; simp [textI, Lib.join_nil]
  | succ k ih =>
    intro hk
    have h1 := ih (by omega)
    obtain ⟨x, hx⟩ : ∃ x, l[k]? = some x := ⟨l[k], List.getElem?_eq_getElem (by omega)⟩
    have hm := List.mem_of_getElem? hx
    cases hp : partI x with
    | none => rw [(text_none hx hp).1]; omega
    | some b =>
      have h2 := part_len (hs x hm) (hv x hm).1 (hv x hm).2 hp
      rw [(text_some hx hp).1]
      split
      · omega
      · simp only [List.length_append, List.length_cons, List.length_nil]; omega
set_option maxRecDepth 100000 in
set_option maxHeartbeats 3000000 in
theorem rtext_any (A : Option Addr) (cap : Nat) (l : List TI) (w : World) (hr : RdT w A l) (hn : l.length ≤ 200) (hs : ∀ x ∈ l, x.s.size ≤ 400) (hv : ∀ x ∈ l, -9223372036854775808 ≤ x.v ∧ x.v ≤ 9223372036854775807) :
    Calls Tryd.prog 12 #[.slice A l.length cap] w fun e w' => e = .returned (.string (sb (textI l))) ∧ Below w.heap.size w w' := by
  have HR := Lib.hid hr
  have HS := Lib.hid hs
  have HV := Lib.hid hv
  have HL := Lib.hid (text_len l hs hv)
  have HW := Lib.hid (Below.refl w.heap.size w)
  clear hr hs hv
  go_enter Tryd.func12, Tryd.ntmps12
  go_wp2_with fail
  go_loopw [3, 4, 5] (fun a b c wr => ∃ k : Nat, a = .string (sb (textI (l.take k))) ∧ b = .bool (fsT (l.take k)) ∧ c = .int .i64 k ∧ k ≤ l.length ∧ Hid (Below w.heap.size w wr)) (fun _ _ c _ => l.length - (intOf c).toNat)
  case atStart => exact ⟨0, rfl, rfl, rfl, Nat.zero_le _, HW⟩
  case round =>
    clear HW
    obtain ⟨k, rfl, rfl, rfl, hk, HW⟩ := hrel
    by_cases hlt : k < l.length
    · obtain ⟨x, hx⟩ : ∃ x, l[k]? = some x := ⟨l[k], List.getElem?_eq_getElem hlt⟩
      have hm := List.mem_of_getElem? hx
      obtain ⟨hv0, hv1⟩ := HV.out x hm
      have hxs := HS.out x hm
      have hac := HL.out k hk
      obtain ⟨b, off, rfl, hc⟩ := (HR.out.below HW.out).at hx
      have HC := Lib.hid hc
      have HNN := Lib.hid (fun hp => text_none hx hp)
      have HNS := Lib.hid (fun (u : List UInt8) (hp : partI x = some u) => text_some hx hp)
      have HFN := Lib.hid (show fsT (l.take k) = true → textI (l.take k) = [] from fsT_nil)
      have HPL := Lib.hid (fun (u : List UInt8) (hp : partI x = some u) => part_len hxs hv0 hv1 hp)
      have h1 : decide ((k : Int) < (l.length : Int)) = true := decide_eq_true (by omega)
      have h1n : decide (k < l.length) = true := decide_eq_true hlt
      clear hx hc hm HR HS HV HL
      generalize textI (l.take k) = acc at HNN HNS HFN hac
      generalize fsT (l.take k) = fe at HNN HNS HFN
      obtain ⟨xk, xa, xs, xv⟩ := x
      simp only at hv0 hv1 hxs
      have hxl : xs.data.toList.length = xs.size := Array.length_toList
      by_cases hd1 : xk = 1
      · have hd := hd1
        have HP := Lib.hid (show partI ⟨xk, xa, xs, xv⟩ = some xs.data.toList by simp [partI, Lx.part, hd])
        have HSB := Lib.hid (sb_of xs)
        have m1 : (xk == 1) = true := by rw [hd]; rfl
        clear hd hd1
        generalize hgl : xs.data.toList = t at HP HSB hxl
        obtain rfl : xs = sb t := HSB.out.symm
        clear HSB hgl
        cases fe with
        | true =>
          have HN := Lib.hid (HNS.out (t) HP.out)
          have hul := HPL.out (t) HP.out
          clear HNS HPL HNN
          obtain rfl : acc = [] := HFN.out rfl
          have HCB := Lib.hid (show ∀ W, (binOp .add 9 (.string (sb [])) (.string (sb (t)))).run Tryd.prog W = .ok (.string (sb (t))) W from fun W => cat_any [] (t) (by simp; omega) W)
          clear HFN
          go_wp2_with (first | (refine wpList_dst 15 rfl ?_; refine wpList_run 15 rfl rfl _ (exec_atT (.tmp 13) (.tmp 14) rfl b off _ cap k hlt rfl rfl) ?_; go_frame) | (refine wpList_dst 16 rfl ?_; refine wpList_run 16 rfl rfl _ (exec_fieldAddr 33 (.tmp 15) 0 rfl _ _ rfl (tk_f b (off + k * 4) 0 (by decide) _)) ?_; go_frame) | (refine wpList_dst 17 rfl ?_; refine wpList_run 17 rfl rfl _ (exec_load 3 (.tmp 16) rfl _ (.int .i64 xk) rfl (run_load_cell int_flat (HC.out 0 (.int .i64 xk) rfl))) ?_; go_frame) | (refine wpList_dst 23 rfl ?_; refine wpList_run 23 rfl rfl _ (exec_atT (.tmp 21) (.tmp 22) rfl b off _ cap k hlt rfl rfl) ?_; go_frame) | (refine wpList_dst 24 rfl ?_; refine wpList_run 24 rfl rfl _ (exec_fieldAddr 33 (.tmp 23) 2 rfl _ _ rfl (tk_f b (off + k * 4) 2 (by decide) _)) ?_; go_frame) | (refine wpList_dst 25 rfl ?_; refine wpList_run 25 rfl rfl _ (exec_load 9 (.tmp 24) rfl _ (.string (sb t)) rfl (run_load_cell str_flat (HC.out 2 (.string (sb t)) rfl))) ?_; go_frame) | (refine wpList_dst 48 rfl ?_; refine wpList_run 48 rfl rfl _ (exec_bin .add 9 _ (.tmp 46) (.tmp 47) rfl (.string (sb [])) (.string (sb (t))) (.string (sb (t))) rfl rfl rfl (HCB.out _)) ?_; go_frame))
          go_roundw
          case rel => exact ⟨k + 1, by rw [HN.out.1]; rfl, by rw [HN.out.2], by go_num, by omega, HW⟩
          case measure => simp [intOf]; omega
        | false =>
          have HN := Lib.hid (HNS.out (t) HP.out)
          have hul := HPL.out (t) HP.out
          clear HNS HPL HNN
          have HCA := Lib.hid (show ∀ W, (binOp .add 9 (.string (sb acc)) (.string ⟨#[32]⟩)).run Tryd.prog W = .ok (.string (sb (acc ++ [32]))) W from fun W => cat_any acc [32] (by simp; omega) W)
          have HCB := Lib.hid (fun W => cat_any (acc ++ [32]) (t) (by simp; omega) W)
          clear HFN
          go_wp2_with (first | (refine wpList_dst 15 rfl ?_; refine wpList_run 15 rfl rfl _ (exec_atT (.tmp 13) (.tmp 14) rfl b off _ cap k hlt rfl rfl) ?_; go_frame) | (refine wpList_dst 16 rfl ?_; refine wpList_run 16 rfl rfl _ (exec_fieldAddr 33 (.tmp 15) 0 rfl _ _ rfl (tk_f b (off + k * 4) 0 (by decide) _)) ?_; go_frame) | (refine wpList_dst 17 rfl ?_; refine wpList_run 17 rfl rfl _ (exec_load 3 (.tmp 16) rfl _ (.int .i64 xk) rfl (run_load_cell int_flat (HC.out 0 (.int .i64 xk) rfl))) ?_; go_frame) | (refine wpList_dst 23 rfl ?_; refine wpList_run 23 rfl rfl _ (exec_atT (.tmp 21) (.tmp 22) rfl b off _ cap k hlt rfl rfl) ?_; go_frame) | (refine wpList_dst 24 rfl ?_; refine wpList_run 24 rfl rfl _ (exec_fieldAddr 33 (.tmp 23) 2 rfl _ _ rfl (tk_f b (off + k * 4) 2 (by decide) _)) ?_; go_frame) | (refine wpList_dst 25 rfl ?_; refine wpList_run 25 rfl rfl _ (exec_load 9 (.tmp 24) rfl _ (.string (sb t)) rfl (run_load_cell str_flat (HC.out 2 (.string (sb t)) rfl))) ?_; go_frame) | (refine wpList_dst 45 rfl ?_; refine wpList_run 45 rfl rfl _ (exec_bin .add 9 _ (.tmp 44) _ rfl (.string (sb acc)) (.string ⟨#[32]⟩) (.string (sb (acc ++ [32]))) rfl rfl rfl (HCA.out _)) ?_; go_frame) | (refine wpList_dst 48 rfl ?_; refine wpList_run 48 rfl rfl _ (exec_bin .add 9 _ (.tmp 46) (.tmp 47) rfl (.string (sb (acc ++ [32]))) (.string (sb (t))) (.string (sb (acc ++ [32] ++ (t)))) rfl rfl rfl (HCB.out _)) ?_; go_frame))
          go_roundw
          case rel => exact ⟨k + 1, by rw [HN.out.1]; rfl, by rw [HN.out.2], by go_num, by omega, HW⟩
          case measure => simp [intOf]; omega
      by_cases hd4 : xk = 4
      · have hd := hd4
        have HP := Lib.hid (show partI ⟨xk, xa, xs, xv⟩ = some xs.data.toList by simp [partI, Lx.part, hd])
        have HSB := Lib.hid (sb_of xs)
        have m1 : (xk == 1) = false := by rw [beq_eq_false_iff_ne]; omega
        have m4 : (xk == 4) = true := by rw [hd]; rfl
        clear hd hd1 hd4
        generalize hgl : xs.data.toList = t at HP HSB hxl
        obtain rfl : xs = sb t := HSB.out.symm
        clear HSB hgl
        cases fe with
        | true =>
          have HN := Lib.hid (HNS.out (t) HP.out)
          have hul := HPL.out (t) HP.out
          clear HNS HPL HNN
          obtain rfl : acc = [] := HFN.out rfl
          have HCB := Lib.hid (show ∀ W, (binOp .add 9 (.string (sb [])) (.string (sb (t)))).run Tryd.prog W = .ok (.string (sb (t))) W from fun W => cat_any [] (t) (by simp; omega) W)
          clear HFN
          go_wp2_with (first | (refine wpList_dst 15 rfl ?_; refine wpList_run 15 rfl rfl _ (exec_atT (.tmp 13) (.tmp 14) rfl b off _ cap k hlt rfl rfl) ?_; go_frame) | (refine wpList_dst 16 rfl ?_; refine wpList_run 16 rfl rfl _ (exec_fieldAddr 33 (.tmp 15) 0 rfl _ _ rfl (tk_f b (off + k * 4) 0 (by decide) _)) ?_; go_frame) | (refine wpList_dst 17 rfl ?_; refine wpList_run 17 rfl rfl _ (exec_load 3 (.tmp 16) rfl _ (.int .i64 xk) rfl (run_load_cell int_flat (HC.out 0 (.int .i64 xk) rfl))) ?_; go_frame) | (refine wpList_dst 23 rfl ?_; refine wpList_run 23 rfl rfl _ (exec_atT (.tmp 21) (.tmp 22) rfl b off _ cap k hlt rfl rfl) ?_; go_frame) | (refine wpList_dst 24 rfl ?_; refine wpList_run 24 rfl rfl _ (exec_fieldAddr 33 (.tmp 23) 2 rfl _ _ rfl (tk_f b (off + k * 4) 2 (by decide) _)) ?_; go_frame) | (refine wpList_dst 25 rfl ?_; refine wpList_run 25 rfl rfl _ (exec_load 9 (.tmp 24) rfl _ (.string (sb t)) rfl (run_load_cell str_flat (HC.out 2 (.string (sb t)) rfl))) ?_; go_frame) | (refine wpList_dst 48 rfl ?_; refine wpList_run 48 rfl rfl _ (exec_bin .add 9 _ (.tmp 46) (.tmp 47) rfl (.string (sb [])) (.string (sb (t))) (.string (sb (t))) rfl rfl rfl (HCB.out _)) ?_; go_frame))
          go_roundw
          case rel => exact ⟨k + 1, by rw [HN.out.1]; rfl, by rw [HN.out.2], by go_num, by omega, HW⟩
          case measure => simp [intOf]; omega
        | false =>
          have HN := Lib.hid (HNS.out (t) HP.out)
          have hul := HPL.out (t) HP.out
          clear HNS HPL HNN
          have HCA := Lib.hid (show ∀ W, (binOp .add 9 (.string (sb acc)) (.string ⟨#[32]⟩)).run Tryd.prog W = .ok (.string (sb (acc ++ [32]))) W from fun W => cat_any acc [32] (by simp; omega) W)
          have HCB := Lib.hid (fun W => cat_any (acc ++ [32]) (t) (by simp; omega) W)
          clear HFN
          go_wp2_with (first | (refine wpList_dst 15 rfl ?_; refine wpList_run 15 rfl rfl _ (exec_atT (.tmp 13) (.tmp 14) rfl b off _ cap k hlt rfl rfl) ?_; go_frame) | (refine wpList_dst 16 rfl ?_; refine wpList_run 16 rfl rfl _ (exec_fieldAddr 33 (.tmp 15) 0 rfl _ _ rfl (tk_f b (off + k * 4) 0 (by decide) _)) ?_; go_frame) | (refine wpList_dst 17 rfl ?_; refine wpList_run 17 rfl rfl _ (exec_load 3 (.tmp 16) rfl _ (.int .i64 xk) rfl (run_load_cell int_flat (HC.out 0 (.int .i64 xk) rfl))) ?_; go_frame) | (refine wpList_dst 23 rfl ?_; refine wpList_run 23 rfl rfl _ (exec_atT (.tmp 21) (.tmp 22) rfl b off _ cap k hlt rfl rfl) ?_; go_frame) | (refine wpList_dst 24 rfl ?_; refine wpList_run 24 rfl rfl _ (exec_fieldAddr 33 (.tmp 23) 2 rfl _ _ rfl (tk_f b (off + k * 4) 2 (by decide) _)) ?_; go_frame) | (refine wpList_dst 25 rfl ?_; refine wpList_run 25 rfl rfl _ (exec_load 9 (.tmp 24) rfl _ (.string (sb t)) rfl (run_load_cell str_flat (HC.out 2 (.string (sb t)) rfl))) ?_; go_frame) | (refine wpList_dst 45 rfl ?_; refine wpList_run 45 rfl rfl _ (exec_bin .add 9 _ (.tmp 44) _ rfl (.string (sb acc)) (.string ⟨#[32]⟩) (.string (sb (acc ++ [32]))) rfl rfl rfl (HCA.out _)) ?_; go_frame) | (refine wpList_dst 48 rfl ?_; refine wpList_run 48 rfl rfl _ (exec_bin .add 9 _ (.tmp 46) (.tmp 47) rfl (.string (sb (acc ++ [32]))) (.string (sb (t))) (.string (sb (acc ++ [32] ++ (t)))) rfl rfl rfl (HCB.out _)) ?_; go_frame))
          go_roundw
          case rel => exact ⟨k + 1, by rw [HN.out.1]; rfl, by rw [HN.out.2], by go_num, by omega, HW⟩
          case measure => simp [intOf]; omega
      by_cases hd2 : xk = 2
      · have hd := hd2
        have HP := Lib.hid (show partI ⟨xk, xa, xs, xv⟩ = some (Lib.itoa xv) by simp [partI, Lx.part, hd])
        have m1 : (xk == 1) = false := by rw [beq_eq_false_iff_ne]; omega
        have m4 : (xk == 4) = false := by rw [beq_eq_false_iff_ne]; omega
        have m2 : (xk == 2) = true := by rw [hd]; rfl
        clear hd hd1 hd4 hd2
        have HDC := Lib.hid (fun W => decimal_any xv hv0 hv1 W)
        generalize Lib.itoa xv = t at HP HDC
        cases fe with
        | true =>
          have HN := Lib.hid (HNS.out (t) HP.out)
          have hul := HPL.out (t) HP.out
          clear HNS HPL HNN
          obtain rfl : acc = [] := HFN.out rfl
          have HCB := Lib.hid (show ∀ W, (binOp .add 9 (.string (sb [])) (.string (sb (t)))).run Tryd.prog W = .ok (.string (sb (t))) W from fun W => cat_any [] (t) (by simp; omega) W)
          clear HFN
          go_wp2_with (first | (refine wpList_dst 15 rfl ?_; refine wpList_run 15 rfl rfl _ (exec_atT (.tmp 13) (.tmp 14) rfl b off _ cap k hlt rfl rfl) ?_; go_frame) | (refine wpList_dst 16 rfl ?_; refine wpList_run 16 rfl rfl _ (exec_fieldAddr 33 (.tmp 15) 0 rfl _ _ rfl (tk_f b (off + k * 4) 0 (by decide) _)) ?_; go_frame) | (refine wpList_dst 17 rfl ?_; refine wpList_run 17 rfl rfl _ (exec_load 3 (.tmp 16) rfl _ (.int .i64 xk) rfl (run_load_cell int_flat (HC.out 0 (.int .i64 xk) rfl))) ?_; go_frame) | (refine wpList_dst 30 rfl ?_; refine wpList_run 30 rfl rfl _ (exec_atT (.tmp 28) (.tmp 29) rfl b off _ cap k hlt rfl rfl) ?_; go_frame) | (refine wpList_dst 31 rfl ?_; refine wpList_run 31 rfl rfl _ (exec_fieldAddr 33 (.tmp 30) 3 rfl _ _ rfl (tk_f b (off + k * 4) 3 (by decide) _)) ?_; go_frame) | (refine wpList_dst 32 rfl ?_; refine wpList_run 32 rfl rfl _ (exec_load 3 (.tmp 31) rfl _ (.int .i64 xv) rfl (run_load_cell int_flat (HC.out 3 (.int .i64 xv) rfl))) ?_; go_frame) | ((with_reducible refine (HDC.out _).mono ?_); rintro e w2 ⟨rfl, hb⟩; replace HW := Lib.hid (HW.out.trans (hb.mono HW.out.size)); clear hb) | (refine wpList_dst 48 rfl ?_; refine wpList_run 48 rfl rfl _ (exec_bin .add 9 _ (.tmp 46) (.tmp 47) rfl (.string (sb [])) (.string (sb (t))) (.string (sb (t))) rfl rfl rfl (HCB.out _)) ?_; go_frame))
          go_roundw
          case rel => exact ⟨k + 1, by rw [HN.out.1]; rfl, by rw [HN.out.2], by go_num, by omega, HW⟩
          case measure => simp [intOf]; omega
        | false =>
          have HN := Lib.hid (HNS.out (t) HP.out)
          have hul := HPL.out (t) HP.out
          clear HNS HPL HNN
          have HCA := Lib.hid (show ∀ W, (binOp .add 9 (.string (sb acc)) (.string ⟨#[32]⟩)).run Tryd.prog W = .ok (.string (sb (acc ++ [32]))) W from fun W => cat_any acc [32] (by simp; omega) W)
          have HCB := Lib.hid (fun W => cat_any (acc ++ [32]) (t) (by simp; omega) W)
          clear HFN
          go_wp2_with (first | (refine wpList_dst 15 rfl ?_; refine wpList_run 15 rfl rfl _ (exec_atT (.tmp 13) (.tmp 14) rfl b off _ cap k hlt rfl rfl) ?_; go_frame) | (refine wpList_dst 16 rfl ?_; refine wpList_run 16 rfl rfl _ (exec_fieldAddr 33 (.tmp 15) 0 rfl _ _ rfl (tk_f b (off + k * 4) 0 (by decide) _)) ?_; go_frame) | (refine wpList_dst 17 rfl ?_; refine wpList_run 17 rfl rfl _ (exec_load 3 (.tmp 16) rfl _ (.int .i64 xk) rfl (run_load_cell int_flat (HC.out 0 (.int .i64 xk) rfl))) ?_; go_frame) | (refine wpList_dst 30 rfl ?_; refine wpList_run 30 rfl rfl _ (exec_atT (.tmp 28) (.tmp 29) rfl b off _ cap k hlt rfl rfl) ?_; go_frame) | (refine wpList_dst 31 rfl ?_; refine wpList_run 31 rfl rfl _ (exec_fieldAddr 33 (.tmp 30) 3 rfl _ _ rfl (tk_f b (off + k * 4) 3 (by decide) _)) ?_; go_frame) | (refine wpList_dst 32 rfl ?_; refine wpList_run 32 rfl rfl _ (exec_load 3 (.tmp 31) rfl _ (.int .i64 xv) rfl (run_load_cell int_flat (HC.out 3 (.int .i64 xv) rfl))) ?_; go_frame) | ((with_reducible refine (HDC.out _).mono ?_); rintro e w2 ⟨rfl, hb⟩; replace HW := Lib.hid (HW.out.trans (hb.mono HW.out.size)); clear hb) | (refine wpList_dst 45 rfl ?_; refine wpList_run 45 rfl rfl _ (exec_bin .add 9 _ (.tmp 44) _ rfl (.string (sb acc)) (.string ⟨#[32]⟩) (.string (sb (acc ++ [32]))) rfl rfl rfl (HCA.out _)) ?_; go_frame) | (refine wpList_dst 48 rfl ?_; refine wpList_run 48 rfl rfl _ (exec_bin .add 9 _ (.tmp 46) (.tmp 47) rfl (.string (sb (acc ++ [32]))) (.string (sb (t))) (.string (sb (acc ++ [32] ++ (t)))) rfl rfl rfl (HCB.out _)) ?_; go_frame))
          go_roundw
          case rel => exact ⟨k + 1, by rw [HN.out.1]; rfl, by rw [HN.out.2], by go_num, by omega, HW⟩
          case measure => simp [intOf]; omega
      by_cases hd3 : xk = 3
      · have hd := hd3
        have HP := Lib.hid (show partI ⟨xk, xa, xs, xv⟩ = some (quo xs.data.toList) by simp [partI, Lx.part, hd])
        have m1 : (xk == 1) = false := by rw [beq_eq_false_iff_ne]; omega
        have m4 : (xk == 4) = false := by rw [beq_eq_false_iff_ne]; omega
        have m2 : (xk == 2) = false := by rw [beq_eq_false_iff_ne]; omega
        have m3 : (xk == 3) = true := by rw [hd]; rfl
        clear hd hd1 hd4 hd2 hd3
        have HDC := Lib.hid (fun W => rquoted_any xs.data.toList W (by omega))
        have HSB := Lib.hid (sb_of xs)
        generalize hgl : xs.data.toList = t at HP HSB hxl HDC
        obtain rfl : xs = sb t := HSB.out.symm
        clear HSB hgl
        generalize quo t = q at HP HDC
        cases fe with
        | true =>
          have HN := Lib.hid (HNS.out (q) HP.out)
          have hul := HPL.out (q) HP.out
          clear HNS HPL HNN
          obtain rfl : acc = [] := HFN.out rfl
          have HCB := Lib.hid (show ∀ W, (binOp .add 9 (.string (sb [])) (.string (sb (q)))).run Tryd.prog W = .ok (.string (sb (q))) W from fun W => cat_any [] (q) (by simp; omega) W)
          clear HFN
          go_wp2_with (first | (refine wpList_dst 15 rfl ?_; refine wpList_run 15 rfl rfl _ (exec_atT (.tmp 13) (.tmp 14) rfl b off _ cap k hlt rfl rfl) ?_; go_frame) | (refine wpList_dst 16 rfl ?_; refine wpList_run 16 rfl rfl _ (exec_fieldAddr 33 (.tmp 15) 0 rfl _ _ rfl (tk_f b (off + k * 4) 0 (by decide) _)) ?_; go_frame) | (refine wpList_dst 17 rfl ?_; refine wpList_run 17 rfl rfl _ (exec_load 3 (.tmp 16) rfl _ (.int .i64 xk) rfl (run_load_cell int_flat (HC.out 0 (.int .i64 xk) rfl))) ?_; go_frame) | (refine wpList_dst 38 rfl ?_; refine wpList_run 38 rfl rfl _ (exec_atT (.tmp 36) (.tmp 37) rfl b off _ cap k hlt rfl rfl) ?_; go_frame) | (refine wpList_dst 39 rfl ?_; refine wpList_run 39 rfl rfl _ (exec_fieldAddr 33 (.tmp 38) 2 rfl _ _ rfl (tk_f b (off + k * 4) 2 (by decide) _)) ?_; go_frame) | (refine wpList_dst 40 rfl ?_; refine wpList_run 40 rfl rfl _ (exec_load 9 (.tmp 39) rfl _ (.string (sb t)) rfl (run_load_cell str_flat (HC.out 2 (.string (sb t)) rfl))) ?_; go_frame) | ((with_reducible refine (HDC.out _).mono ?_); rintro e w2 ⟨rfl, hb⟩; replace HW := Lib.hid (HW.out.trans (hb.mono HW.out.size)); clear hb) | (refine wpList_dst 48 rfl ?_; refine wpList_run 48 rfl rfl _ (exec_bin .add 9 _ (.tmp 46) (.tmp 47) rfl (.string (sb [])) (.string (sb (q))) (.string (sb (q))) rfl rfl rfl (HCB.out _)) ?_; go_frame))
          go_roundw
          case rel => exact ⟨k + 1, by rw [HN.out.1]; rfl, by rw [HN.out.2], by go_num, by omega, HW⟩
          case measure => simp [intOf]; omega
        | false =>
          have HN := Lib.hid (HNS.out (q) HP.out)
          have hul := HPL.out (q) HP.out
          clear HNS HPL HNN
          have HCA := Lib.hid (show ∀ W, (binOp .add 9 (.string (sb acc)) (.string ⟨#[32]⟩)).run Tryd.prog W = .ok (.string (sb (acc ++ [32]))) W from fun W => cat_any acc [32] (by simp; omega) W)
          have HCB := Lib.hid (fun W => cat_any (acc ++ [32]) (q) (by simp; omega) W)
          clear HFN
          go_wp2_with (first | (refine wpList_dst 15 rfl ?_; refine wpList_run 15 rfl rfl _ (exec_atT (.tmp 13) (.tmp 14) rfl b off _ cap k hlt rfl rfl) ?_; go_frame) | (refine wpList_dst 16 rfl ?_; refine wpList_run 16 rfl rfl _ (exec_fieldAddr 33 (.tmp 15) 0 rfl _ _ rfl (tk_f b (off + k * 4) 0 (by decide) _)) ?_; go_frame) | (refine wpList_dst 17 rfl ?_; refine wpList_run 17 rfl rfl _ (exec_load 3 (.tmp 16) rfl _ (.int .i64 xk) rfl (run_load_cell int_flat (HC.out 0 (.int .i64 xk) rfl))) ?_; go_frame) | (refine wpList_dst 38 rfl ?_; refine wpList_run 38 rfl rfl _ (exec_atT (.tmp 36) (.tmp 37) rfl b off _ cap k hlt rfl rfl) ?_; go_frame) | (refine wpList_dst 39 rfl ?_; refine wpList_run 39 rfl rfl _ (exec_fieldAddr 33 (.tmp 38) 2 rfl _ _ rfl (tk_f b (off + k * 4) 2 (by decide) _)) ?_; go_frame) | (refine wpList_dst 40 rfl ?_; refine wpList_run 40 rfl rfl _ (exec_load 9 (.tmp 39) rfl _ (.string (sb t)) rfl (run_load_cell str_flat (HC.out 2 (.string (sb t)) rfl))) ?_; go_frame) | ((with_reducible refine (HDC.out _).mono ?_); rintro e w2 ⟨rfl, hb⟩; replace HW := Lib.hid (HW.out.trans (hb.mono HW.out.size)); clear hb) | (refine wpList_dst 45 rfl ?_; refine wpList_run 45 rfl rfl _ (exec_bin .add 9 _ (.tmp 44) _ rfl (.string (sb acc)) (.string ⟨#[32]⟩) (.string (sb (acc ++ [32]))) rfl rfl rfl (HCA.out _)) ?_; go_frame) | (refine wpList_dst 48 rfl ?_; refine wpList_run 48 rfl rfl _ (exec_bin .add 9 _ (.tmp 46) (.tmp 47) rfl (.string (sb (acc ++ [32]))) (.string (sb (q))) (.string (sb (acc ++ [32] ++ (q)))) rfl rfl rfl (HCB.out _)) ?_; go_frame))
          go_roundw
          case rel => exact ⟨k + 1, by rw [HN.out.1]; rfl, by rw [HN.out.2], by go_num, by omega, HW⟩
          case measure => simp [intOf]; omega
      · have HN := Lib.hid (HNN.out (show partI ⟨xk, xa, xs, xv⟩ = none by simp [partI, Lx.part, hd1, hd2, hd3, hd4]))
        have m1 : (xk == 1) = false := by rw [beq_eq_false_iff_ne]; omega
        have m4 : (xk == 4) = false := by rw [beq_eq_false_iff_ne]; omega
        have m2 : (xk == 2) = false := by rw [beq_eq_false_iff_ne]; omega
        have m3 : (xk == 3) = false := by rw [beq_eq_false_iff_ne]; omega
        clear hd1 hd4 hd2 hd3 HNS HPL HNN HFN
        go_wp2_with (first | (refine wpList_dst 15 rfl ?_; refine wpList_run 15 rfl rfl _ (exec_atT (.tmp 13) (.tmp 14) rfl b off _ cap k hlt rfl rfl) ?_; go_frame) | (refine wpList_dst 16 rfl ?_; refine wpList_run 16 rfl rfl _ (exec_fieldAddr 33 (.tmp 15) 0 rfl _ _ rfl (tk_f b (off + k * 4) 0 (by decide) _)) ?_; go_frame) | (refine wpList_dst 17 rfl ?_; refine wpList_run 17 rfl rfl _ (exec_load 3 (.tmp 16) rfl _ (.int .i64 xk) rfl (run_load_cell int_flat (HC.out 0 (.int .i64 xk) rfl))) ?_; go_frame))
        go_roundw
        case rel => exact ⟨k + 1, by rw [HN.out.1], by rw [HN.out.2], by go_num, by omega, HW⟩
        case measure => simp [intOf]; omega
    · obtain rfl : k = l.length := by omega
      have h1 : decide ((l.length : Int) < (l.length : Int)) = false := decide_eq_false (by omega)
      have HE := Lib.hid (show textI l = textI (l.take l.length) by rw [List.take_length])
      generalize textI (l.take l.length) = acc at HE
      go_wp2_with fail
      go_ret
      exact ⟨by rw [HE.out]; rfl, HW.out⟩
end Go.Proofs.YtggjgikpiljoiaaDoor
