/- Contracts of the reference's encoders Int and Bytes. -/
import Derived.Test.YtoendbdpkkjjkaaDoorHMac
namespace Go.Proofs.YtoendbdpkkjjkaaDoor
open Go.RowKit Wm

theorem twice_in (n : Int) (h0 : 0 ≤ n) : ((n * 2 : Int)) = (zig n : Nat) := by unfold zig; rw [if_neg (by omega)]; omega
theorem twice_neg (n : Int) (h0 : n < 0) : (-1 - n) * 2 + 1 = ((zig n : Nat) : Int) := by unfold zig; rw [if_pos h0]; omega

set_option maxRecDepth 100000 in
set_option maxHeartbeats 2000000 in
theorem rint_any (n : Int) (w : World) (h : -9223372036854775808 ≤ n) (h' : n ≤ 9223372036854775807) :
    Calls Tryd.prog 54 #[.int .i64 n] w fun e w' => ∃ v, e = .returned v ∧ OwnB w' w.heap.size v (enc n) ∧ Below w.heap.size w w' := by
  have HE := Lib.hid (enc_le h h')
  have HZ := Lib.hid (zig_lt h h')
  by_cases hn : n < 0
  · have HT := Lib.hid (twice_neg n hn)
    go_enter Tryd.func54, Tryd.ntmps54
    go_wp2
    go_loopw [3, 4] (fun z v wr => ∃ (p : List UInt8) (Z : Nat), z = .int .u64 (Z : Int) ∧ Hid (Z < 18446744073709551616) ∧ Hid (p.length + (dig Z).length ≤ 10) ∧ Hid (p ++ dig Z = enc n) ∧ OwnB wr w.heap.size v p ∧ w.heap.size ≤ wr.heap.size ∧ Below w.heap.size w wr)
      (fun z _ _ => (intOf z).toNat)
    case atStart => exact ⟨[], zig n, by rw [HT.out], HZ.out, (by show _ ≤ _; simp; exact HE.out), rfl, OwnB.nil _ _, Nat.le_refl _, Below.refl _ _⟩
    case round =>
      obtain ⟨p, Z, rfl, HZ2, HP, HD, ho, hbr, hbel⟩ := hrel
      clear h h' hn
      have hZb := HZ2.out
      by_cases hz : 128 ≤ Z
      · go_wp2_with (at_builtin; refine wpList_push rfl (.tmp 17) (.tmp 22) rfl w.heap.size _ _ rfl ho _ (UInt8.ofNat (Z % 128 + 128)) ?c1a hbr ?c1b rfl ?_; rotate_left 2; intro v1 w1 ho1 hb1)
        case c1a => rw [ofNat_toNat (by omega)]; omega
        case c1b => have h2 := HP.out; omega
        go_roundw
        case rel =>
          refine ⟨p ++ [UInt8.ofNat (Z % 128 + 128)], Z / 128, by go_num, ?_, ?_, ?_, ho1, Nat.le_trans hbr hb1.size, hbel.trans hb1⟩
          · have h1 := HZ2.out; show Z / 128 < _; omega
          · have h2 := HP.out
            rw [dig_more hz] at h2
            show _ + _ ≤ 10
            simp at h2 ⊢; omega
          · show _ ++ _ = _
            rw [← HD.out, dig_more hz, List.append_assoc]; rfl
        case measure => simp [intOf]; omega
      · go_wp2_with (at_builtin; refine wpList_push rfl (.tmp 26) (.tmp 29) rfl w.heap.size _ _ rfl ho _ (UInt8.ofNat Z) ?d1a hbr ?d1b rfl ?_; rotate_left 2; intro v1 w1 ho1 hb1)
        case d1a => rw [ofNat_toNat (by omega)]
        case d1b => have h2 := HP.out; omega
        go_ret
        refine ⟨v1, rfl, ?_, hbel.trans hb1⟩
        rw [← HD.out, dig_one (by omega)]
        exact ho1
  · have HT := Lib.hid (twice_in n (by omega))
    go_enter Tryd.func54, Tryd.ntmps54
    go_wp2
    go_loopw [3, 4] (fun z v wr => ∃ (p : List UInt8) (Z : Nat), z = .int .u64 (Z : Int) ∧ Hid (Z < 18446744073709551616) ∧ Hid (p.length + (dig Z).length ≤ 10) ∧ Hid (p ++ dig Z = enc n) ∧ OwnB wr w.heap.size v p ∧ w.heap.size ≤ wr.heap.size ∧ Below w.heap.size w wr)
      (fun z _ _ => (intOf z).toNat)
    case atStart => exact ⟨[], zig n, by rw [HT.out], HZ.out, (by show _ ≤ _; simp; exact HE.out), rfl, OwnB.nil _ _, Nat.le_refl _, Below.refl _ _⟩
    case round =>
      obtain ⟨p, Z, rfl, HZ2, HP, HD, ho, hbr, hbel⟩ := hrel
      clear h h' hn
      have hZb := HZ2.out
      by_cases hz : 128 ≤ Z
      · go_wp2_with (at_builtin; refine wpList_push rfl (.tmp 17) (.tmp 22) rfl w.heap.size _ _ rfl ho _ (UInt8.ofNat (Z % 128 + 128)) ?c2a hbr ?c2b rfl ?_; rotate_left 2; intro v1 w1 ho1 hb1)
        case c2a => rw [ofNat_toNat (by omega)]; omega
        case c2b => have h2 := HP.out; omega
        go_roundw
        case rel =>
          refine ⟨p ++ [UInt8.ofNat (Z % 128 + 128)], Z / 128, by go_num, ?_, ?_, ?_, ho1, Nat.le_trans hbr hb1.size, hbel.trans hb1⟩
          · have h1 := HZ2.out; show Z / 128 < _; omega
          · have h2 := HP.out
            rw [dig_more hz] at h2
            show _ + _ ≤ 10
            simp at h2 ⊢; omega
          · show _ ++ _ = _
            rw [← HD.out, dig_more hz, List.append_assoc]; rfl
        case measure => simp [intOf]; omega
      · go_wp2_with (at_builtin; refine wpList_push rfl (.tmp 26) (.tmp 29) rfl w.heap.size _ _ rfl ho _ (UInt8.ofNat Z) ?d2a hbr ?d2b rfl ?_; rotate_left 2; intro v1 w1 ho1 hb1)
        case d2a => rw [ofNat_toNat (by omega)]
        case d2b => have h2 := HP.out; omega
        go_ret
        refine ⟨v1, rfl, ?_, hbel.trans hb1⟩
        rw [← HD.out, dig_one (by omega)]
        exact ho1

theorem rint_f (n : Int) (w : World) (h : -9223372036854775808 ≤ n) (h' : n ≤ 9223372036854775807) :
    Calls Tryd.prog 54 #[.int .i64 n] w fun e w' => ∃ B cB, e = .returned (.slice B (enc n).length cB) ∧ Rd w' B (bc (enc n)) ∧ Below w.heap.size w w' := by
  refine (rint_any n w h h').mono ?_
  rintro y w' ⟨v, rfl, ho, hb⟩
  obtain ⟨B, cB, rfl, hr, _⟩ := own_out ho
  exact ⟨B, cB, rfl, hr, hb⟩

set_option maxHeartbeats 400000 in
theorem rbytes_any (s : ByteArray) (w : World) (hs : s.size ≤ 1099511627776) :
    Calls Tryd.prog 45 #[.string s] w fun e w' => ∃ v, e = .returned v ∧ OwnB w' w.heap.size v (encB s.data.toList) ∧ Below w.heap.size w w' := by
  have hsz : s.data.toList.length = s.size := Array.length_toList (xs := s.data)
  have HE := Lib.hid (show enc s.size ++ s.data.toList = encB s.data.toList by unfold encB; rw [hsz])
  have hle := enc_le (n := (s.size : Int)) (by omega) (by omega)
  clear hsz
  go_enter Tryd.func45, Tryd.ntmps45
  go_wp2_with fail
  refine (rint_any _ _ (by omega) (by omega)).mono ?_
  rintro e w1 ⟨v1, rfl, ho1, hb1⟩
  go_wp2_with (at_builtin; refine wpList_pushStr rfl (.tmp 5) (.tmp 6) rfl w.heap.size _ _ rfl ho1 s hb1.size ?c1 rfl ?_; rotate_left 1; intro v2 w2 ho2 hb2)
  go_ret
  exact ⟨v2, rfl, by rw [← HE.out]; exact ho2, hb1.trans hb2⟩
  case c1 => omega
theorem rbytes_f (s : ByteArray) (w : World) (hs : s.size ≤ 1099511627776) :
    Calls Tryd.prog 45 #[.string s] w fun e w' => ∃ B cB, e = .returned (.slice B (encB s.data.toList).length cB) ∧ Rd w' B (bc (encB s.data.toList)) ∧ Below w.heap.size w w' := by
  refine (rbytes_any s w hs).mono ?_
  rintro y w' ⟨v, rfl, ho, hb⟩
  obtain ⟨B, cB, rfl, hr, _⟩ := own_out ho
  exact ⟨B, cB, rfl, hr, hb⟩
end Go.Proofs.YtoendbdpkkjjkaaDoor
