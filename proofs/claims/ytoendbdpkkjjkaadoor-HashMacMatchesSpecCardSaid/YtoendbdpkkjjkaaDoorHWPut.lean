/- Contracts of wire's appendBytes and Bytes. -/
import Derived.Test.YtoendbdpkkjjkaaDoorHWInt
namespace Go.Proofs.YtoendbdpkkjjkaaDoor
open Go.RowKit Wm

def encB (x : List UInt8) : List UInt8 := enc x.length ++ x
theorem encB_len (x : List UInt8) : (encB x).length = (enc x.length).length + x.length := by simp [encB]

/-- 'append(b, s...)', s a string. -/
theorem wpList_pushStr {w : World} {ops : Array Oper} {rest : List Oper} {o : Oper} {a : Act} {Q : Exit → Act → World → Prop} (hgd : o.guard = none) (sl x : Operand)
    (ho : o.op = .call { callee := .builtin .append, args := #[sl, x], argTypes := #[22, 9] })
    (base : Nat) (v : Value) (l : List UInt8) (hs : a.eval sl = v) (hown : OwnB w base v l) (s : ByteArray) (hb : base ≤ w.heap.size) (hl : l.length + s.size ≤ 70368744177664)
    (hx : a.eval x = .string s)
    (h : ∀ v' w', OwnB w' base v' (l ++ s.data.toList) → Below base w w' → wpList Tryd.prog ops Q rest (a.put o.dst v') w') :
    wpList Tryd.prog ops Q (o :: rest) a w := by
  obtain ⟨i0, hi, hz0, hz1, hz2⟩ := info_parts u8_info
  have hsz : s.size = s.data.toList.length := (Array.length_toList (xs := s.data)).symm
  refine Go.Lib.wpList_append_own_string w hgd sl x 22 9 ho base 5 i0 Tryd.underlying22 Tryd.underlying9 hi hz0 hz1 hz2 v l.length (bc l) hs hown s hx (by unfold maxLen; omega) (by omega) hb ?_
  intro v' w' h1 h2 _
  refine h v' w' ?_ ?_
  · unfold OwnB
    rw [List.length_append, bc_app, ← hsz]
    exact h1
  · exact (Below.refl base w).grown h2 hb (fun k hk => (World.ownsRow.lt hown k hk).1)

set_option maxHeartbeats 400000 in
theorem appendBytes_any (base : Nat) (v : Value) (l : List UInt8) (s : ByteArray) (w : World)
    (hown : OwnB w base v l) (hb : base ≤ w.heap.size) (hl : l.length ≤ 1099511627776) (hs : s.size ≤ 1099511627776) :
    Calls Tryd.prog 64 #[v, .string s] w fun e w' => ∃ v', e = .returned v' ∧ OwnB w' base v' (l ++ encB s.data.toList) ∧ Below base w w' := by
  have hsz : s.data.toList.length = s.size := Array.length_toList (xs := s.data)
  have HE := Lib.hid (show l ++ enc s.size ++ s.data.toList = l ++ encB s.data.toList by unfold encB; rw [hsz, List.append_assoc])
  have hle := enc_le (n := (s.size : Int)) (by omega) (by omega)
  clear hsz
  go_enter Tryd.func64, Tryd.ntmps64
  go_wp2_with fail
  refine (appendInt_any base _ l _ _ (by omega) (by omega) hown hb hl).mono ?_
  rintro e w1 ⟨v1, rfl, ho1, hb1⟩
  go_wp2_with (at_builtin; refine wpList_pushStr rfl (.tmp 8) (.tmp 9) rfl base _ _ rfl ho1 s (Nat.le_trans hb hb1.size) ?c1 rfl ?_; rotate_left 1; intro v2 w2 ho2 hb2)
  go_ret
  exact ⟨v2, rfl, by rw [← HE.out]; exact ho2, hb1.trans hb2⟩
  case c1 => simp; omega

set_option maxHeartbeats 400000 in
theorem bytes_any (s : ByteArray) (w : World) (hs : s.size ≤ 1099511627776) :
    Calls Tryd.prog 57 #[.string s] w fun e w' => ∃ v, e = .returned v ∧ OwnB w' w.heap.size v (encB s.data.toList) ∧ Below w.heap.size w w' := by
  go_enter Tryd.func57, Tryd.ntmps57
  go_wp2_with (go_at_call 64; refine (appendBytes_any w.heap.size _ [] _ _ (OwnB.nil _ _) (Nat.le_refl _) (by simp) hs).mono ?_; rintro e w' ⟨v, rfl, ho, hb⟩)
  go_ret
  exact ⟨v, rfl, ho, hb⟩

end Go.Proofs.YtoendbdpkkjjkaaDoor
