/- Contracts of appendNumber and padding. -/
import Derived.Test.YtoendbdpkkjjkaaDoorHRot
import Derived.Laws.MakeOwn
import Derived.Laws.NewBlocks
namespace Go.Proofs.YtoendbdpkkjjkaaDoor
open Go.RowKit Hm

/-- The last k bytes of a number, the most significant one first. -/
def numB (n : Nat) : Nat → List UInt8
  | 0 => []
  | k + 1 => UInt8.ofNat (n / 2 ^ (8 * k)) :: numB n k
theorem numB_len (n : Nat) : ∀ k, (numB n k).length = k
  | 0 => rfl
  | k + 1 => by simp [numB, numB_len n k]
theorem numB8 (n : Nat) : numB n 8 = be8 n := by simp [numB, be8]
theorem numB4 (x : UInt32) : numB x.toNat 4 = w4 x := by simp [numB, w4]

set_option maxRecDepth 100000 in
set_option maxHeartbeats 400000 in
theorem appendNumber_any (base : Nat) (v : Value) (l : List UInt8) (n size : Nat) (w : World) (hn : n < 18446744073709551616) (hs : size ≤ 8)
    (hown : OwnB w base v l) (hb : base ≤ w.heap.size) (hl : l.length ≤ 1099511627776) :
    Calls Tryd.prog 56 #[v, .int .u64 n, .int .i64 size] w fun e w' => ∃ v', e = .returned v' ∧ OwnB w' base v' (l ++ numB n size) ∧ Below base w w' := by
  have HN := Lib.hid hn
  go_enter Tryd.func56, Tryd.ntmps56
  go_wp2
  go_loopw [0, 7] (fun v z wr => ∃ (p : List UInt8) (k : Nat), z = .int .i64 ((k : Int) - 1) ∧ k ≤ size ∧ Hid (p.length ≤ 8) ∧ Hid (p ++ numB n k = numB n size) ∧ OwnB wr base v (l ++ p) ∧ base ≤ wr.heap.size ∧ Below base w wr)
    (fun _ z _ => (intOf z + 1).toNat)
  case atStart => exact ⟨[], size, rfl, Nat.le_refl _, (by simp : ([] : List UInt8).length ≤ 8), rfl, by simpa using hown, hb, Below.refl _ _⟩
  case round =>
    obtain ⟨p, k, rfl, hk, HP, HD, ho, hbr, hbel⟩ := hrel
    have HL := Lib.hid hl
    clear hown hb hl hn
    rcases k with _ | k
    · go_wp2
      go_ret
      refine ⟨_, rfl, ?_, hbel⟩
      have := HD.out
      simp only [numB, List.append_nil] at this
      rw [← this]; exact ho
    · obtain ⟨z, hz⟩ : ∃ z : Int, ((k + 1 : Nat) : Int) - 1 = z := ⟨_, rfl⟩
      rw [hz]
      have hz0 : 0 ≤ z := by omega
      have hz1 : z ≤ 7 := by omega
      have HZ := Lib.hid hz
      clear hz
      go_wp2_with (at_builtin; refine wpList_push rfl (.tmp 14) (.tmp 20) rfl base _ _ rfl ho _ (UInt8.ofNat (n / 2 ^ (8 * k))) ?c1 hbr ?c2 rfl ?_; rotate_left 2; intro v1 w1 ho1 hb1)
      case c1 =>
        have h1 := HZ.out
        have e : (8 * z).toNat = 8 * k := by omega
        rw [e, UInt8.toNat_ofNat']
        simp
      case c2 => have h1 := HL.out; have h2 := HP.out; simp; omega
      go_roundw
      case rel =>
        have h1 := HZ.out
        have h2 := HD.out
        refine ⟨p ++ [UInt8.ofNat (n / 2 ^ (8 * k))], k, ?_, by omega, ?_, ?_, by rw [← List.append_assoc]; exact ho1, Nat.le_trans hbr hb1.size, hbel.trans hb1⟩
        · go_num
        · have h3 := congrArg List.length h2
          rw [List.length_append, numB_len, numB_len] at h3
          show _ ≤ 8
          simp; omega
        · show _ ++ _ = _
          rw [← h2]
          simp [numB]
      case measure => have h1 := HZ.out; simp [intOf]; omega
end Go.Proofs.YtoendbdpkkjjkaaDoor
