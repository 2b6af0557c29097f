/- Contracts of wire's fold, appendInt and Int (for stages that use no decoder). -/
import Derived.Test.YtoendbdpkkjjkaaDoorWWords
import Derived.Laws.DeepNot64
import Derived.Laws.Bits64
import Derived.Outline
namespace Go.Proofs.YtoendbdpkkjjkaaDoor
open Go.RowKit Wm

theorem ret_int {k : IntKind} {a b : Int} (h : a = b) : Ending.returned (.int k a) = .returned (.int k b) := by rw [h]

theorem u64_not (a : Nat) (ha : a < 18446744073709551616) : bits .xor .u64 IntKind.u64.max (a : Int) = 18446744073709551615 - (a : Int) := by
  show IntKind.u64.wrap ((BitVec.ofInt 64 IntKind.u64.max ^^^ BitVec.ofInt 64 (a : Int)).toNat : Int) = _
  have h1 : BitVec.ofInt 64 IntKind.u64.max = BitVec.allOnes 64 := by decide
  rw [h1, BitVec.allOnes_xor, BitVec.toNat_not, ofInt_u64 a (by omega), IntKind.wrap_u64]
  omega

theorem fold_neg {n : Int} (h : -9223372036854775808 ≤ n) (hn : n < 0) : bits .xor .u64 IntKind.u64.max (IntKind.u64.wrap (IntKind.u64.wrap n * 2)) = (zig n : Nat) := by
  have e : IntKind.u64.wrap (IntKind.u64.wrap n * 2) = ((18446744073709551616 + 2 * n).toNat : Int) := by
    rw [IntKind.wrap_u64, IntKind.wrap_u64]; omega
  rw [e, u64_not _ (by omega)]
  unfold zig
  rw [if_pos hn]
  omega

set_option maxHeartbeats 400000 in
theorem fold_any (n : Int) (w : World) (h : -9223372036854775808 ≤ n) (h' : n ≤ 9223372036854775807) :
    Calls Tryd.prog 65 #[.int .i64 n] w fun e w' => e = .returned (.int .u64 (zig n : Nat)) ∧ w = w' := by
  by_cases hn : n < 0
  · have hh : -9223372036854775808 ≤ n := h
    go_enter Tryd.func65, Tryd.ntmps65
    go_wp2
    go_ret
    exact ⟨ret_int (fold_neg hh hn), rfl⟩
  · go_enter Tryd.func65, Tryd.ntmps65
    go_wp2
    go_ret
    exact ⟨ret_int (by unfold zig; rw [if_neg (by omega)]; omega), rfl⟩

set_option maxRecDepth 100000 in
set_option maxHeartbeats 400000 in
theorem appendInt_any (base : Nat) (v : Value) (l : List UInt8) (n : Int) (w : World) (h : -9223372036854775808 ≤ n) (h' : n ≤ 9223372036854775807)
    (hown : OwnB w base v l) (hb : base ≤ w.heap.size) (hl : l.length ≤ 1099511627776) :
    Calls Tryd.prog 60 #[v, .int .i64 n] w fun e w' => ∃ v', e = .returned v' ∧ OwnB w' base v' (l ++ enc n) ∧ Below base w w' := by
  go_enter Tryd.func60, Tryd.ntmps60
  go_wp2_with (go_at_call 65; refine (fold_any _ _ h h').mono ?_; rintro e w' ⟨rfl, rfl⟩)
  go_loopw [0, 5] (fun v z wr => ∃ (p : List UInt8) (Z : Nat), z = .int .u64 (Z : Int) ∧ Hid (Z < 18446744073709551616) ∧ Hid (p.length + (dig Z).length ≤ 10) ∧ Hid (p ++ dig Z = enc n) ∧ OwnB wr base v (l ++ p) ∧ base ≤ wr.heap.size ∧ Below base w wr)
    (fun _ z _ => (intOf z).toNat)
  case atStart => exact ⟨[], zig n, rfl, zig_lt h h', (by simp; exact enc_le h h'), rfl, by simpa using hown, hb, Below.refl _ _⟩
  case round =>
    obtain ⟨p, Z, rfl, HZ, HP, HD, ho, hbr, hbel⟩ := hrel
    have HL := Lib.hid hl
    clear hown hb h h' hl
    by_cases hz : 128 ≤ Z
    · go_wp2_with (at_builtin; refine wpList_push rfl (.tmp 12) (.tmp 17) rfl base _ _ rfl ho _ (UInt8.ofNat (Z % 128 + 128)) ?c1 hbr ?c2 rfl ?_; rotate_left 2; intro v1 w1 ho1 hb1)
      case c1 => rw [ofNat_toNat (by omega)]; omega
      case c2 => have h1 := HL.out; have h2 := HP.out; have h3 := dig_pos Z; simp; omega
      go_roundw
      case rel =>
        refine ⟨p ++ [UInt8.ofNat (Z % 128 + 128)], Z / 128, by go_num, ?_, ?_, ?_, by rw [← List.append_assoc]; exact ho1, Nat.le_trans hbr hb1.size, hbel.trans hb1⟩
        · have h1 := HZ.out; show Z / 128 < _; omega
        · have h2 := HP.out
          rw [dig_more hz] at h2
          show _ + _ ≤ 10
          simp at h2 ⊢; omega
        · show _ ++ _ = _
          rw [← HD.out, dig_more hz, List.append_assoc]; rfl
      case measure => simp [intOf]; omega
    · go_wp2_with (at_builtin; refine wpList_push rfl (.tmp 19) (.tmp 22) rfl base _ _ rfl ho _ (UInt8.ofNat Z) ?d1 hbr ?d2 rfl ?_; rotate_left 2; intro v1 w1 ho1 hb1)
      case d1 => rw [ofNat_toNat (by omega)]
      case d2 => have h1 := HL.out; have h2 := HP.out; have h3 := dig_pos Z; simp; omega
      go_ret
      refine ⟨v1, rfl, ?_, hbel.trans hb1⟩
      rw [← HD.out, dig_one (by omega), ← List.append_assoc]
      exact ho1

set_option maxHeartbeats 400000 in
theorem int_any (n : Int) (w : World) (h : -9223372036854775808 ≤ n) (h' : n ≤ 9223372036854775807) :
    Calls Tryd.prog 51 #[.int .i64 n] w fun e w' => ∃ v, e = .returned v ∧ OwnB w' w.heap.size v (enc n) ∧ Below w.heap.size w w' := by
  go_enter Tryd.func51, Tryd.ntmps51
  go_wp2_with (go_at_call 60; refine (appendInt_any w.heap.size _ [] _ _ h h' (OwnB.nil _ _) (Nat.le_refl _) (by simp)).mono ?_; rintro e w' ⟨v, rfl, ho, hb⟩)
  go_ret
  exact ⟨v, rfl, ho, hb⟩
end Go.Proofs.YtoendbdpkkjjkaaDoor
