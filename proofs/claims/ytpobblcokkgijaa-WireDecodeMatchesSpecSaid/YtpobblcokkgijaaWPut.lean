/- Contracts of wire's appendBytes, Bytes, putList (at int and string), Ints and Strings. -/
import Derived.Test.YtpobblcokkgijaaWLen
namespace Go.Proofs.Ytpobblcokkgijaa
open Go.RowKit Wm

def encB (x : List UInt8) : List UInt8 := enc x.length ++ x
theorem encB_len (x : List UInt8) : (encB x).length = (enc x.length).length + x.length := by simp [encB]

/-- 'append(b, s...)', s a string. -/
theorem wpList_pushStr {w : World} {ops : Array Oper} {rest : List Oper} {o : Oper} {a : Act} {Q : Exit → Act → World → Prop} (hgd : o.guard = none) (sl x : Operand)
    (ho : o.op = .call { callee := .builtin .append, args := #[sl, x], argTypes := #[28, 9] })
    (base : Nat) (v : Value) (l : List UInt8) (hs : a.eval sl = v) (hown : OwnB w base v l) (s : ByteArray) (hb : base ≤ w.heap.size) (hl : l.length + s.size ≤ 70368744177664)
    (hx : a.eval x = .string s)
    (h : ∀ v' w', OwnB w' base v' (l ++ s.data.toList) → Below base w w' → wpList Try.prog ops Q rest (a.put o.dst v') w') :
    wpList Try.prog ops Q (o :: rest) a w := by
  obtain ⟨i0, hi, hz0, hz1, hz2⟩ := info_parts u8_info
  have hsz : s.size = s.data.toList.length := (Array.length_toList (xs := s.data)).symm
  refine Go.Lib.wpList_append_own_string w hgd sl x 28 9 ho base 5 i0 Try.underlying28 Try.underlying9 hi hz0 hz1 hz2 v l.length (bc l) hs hown s hx (by unfold maxLen; omega) (by omega) hb ?_
  intro v' w' h1 h2 _
  refine h v' w' ?_ ?_
  · unfold OwnB
    rw [List.length_append, bc_app, ← hsz]
    exact h1
  · exact (Below.refl base w).grown h2 hb (fun k hk => (World.ownsRow.lt hown k hk).1)

set_option maxHeartbeats 400000 in
theorem appendBytes_any (base : Nat) (v : Value) (l : List UInt8) (s : ByteArray) (w : World)
    (hown : OwnB w base v l) (hb : base ≤ w.heap.size) (hl : l.length ≤ 1099511627776) (hs : s.size ≤ 1099511627776) :
    Calls Try.prog 39 #[v, .string s] w fun e w' => ∃ v', e = .returned v' ∧ OwnB w' base v' (l ++ encB s.data.toList) ∧ Below base w w' := by
  have hsz : s.data.toList.length = s.size := Array.length_toList (xs := s.data)
  have HE := Lib.hid (show l ++ enc s.size ++ s.data.toList = l ++ encB s.data.toList by unfold encB; rw [hsz, List.append_assoc])
  have hle := enc_le (n := (s.size : Int)) (by omega) (by omega)
  clear hsz
  go_enter Try.func39, Try.ntmps39
  go_wp2_with fail
  refine (appendInt_any base _ l _ _ (by omega) (by omega) hown hb hl).mono ?_
  rintro e w1 ⟨v1, rfl, ho1, hb1⟩
  go_wp2_with (at_builtin; refine wpList_pushStr rfl (.tmp 8) (.tmp 9) rfl base _ _ rfl ho1 s (Nat.le_trans hb hb1.size) ?c1 rfl ?_; rotate_left 1; intro v2 w2 ho2 hb2)
  go_ret
  exact ⟨v2, rfl, by rw [← HE.out]; exact ho2, hb1.trans hb2⟩
  case c1 => simp; omega

set_option maxHeartbeats 400000 in
theorem bytes_any (s : ByteArray) (w : World) (hs : s.size ≤ 1099511627776) :
    Calls Try.prog 16 #[.string s] w fun e w' => ∃ v, e = .returned v ∧ OwnB w' w.heap.size v (encB s.data.toList) ∧ Below w.heap.size w w' := by
  go_enter Try.func16, Try.ntmps16
  go_wp2_with (go_at_call 39; refine (appendBytes_any w.heap.size _ [] _ _ (OwnB.nil _ _) (Nat.le_refl _) (by simp) hs).mono ?_; rintro e w' ⟨v, rfl, ho, hb⟩)
  go_ret
  exact ⟨v, rfl, ho, hb⟩

/-- The encoding of a list, element by element. -/
def encL {α : Type} (f : α → List UInt8) (l : List α) : List UInt8 := enc l.length ++ l.flatMap f
def encI (l : List Int) : List UInt8 := encL enc l
def encS (l : List ByteArray) : List UInt8 := encL (fun s => encB s.data.toList) l
theorem encL_part {α : Type} (f : α → List UInt8) (l : List α) (k : Nat) : (enc l.length ++ (l.take k).flatMap f).length ≤ (encL f l).length := by
  unfold encL
  rw [List.length_append, List.length_append]
  have : l.flatMap f = (l.take k).flatMap f ++ (l.drop k).flatMap f := by rw [← List.flatMap_append, List.take_append_drop]
  rw [this, List.length_append]; omega
theorem encL_step {α : Type} (f : α → List UInt8) (l : List α) (k : Nat) (h : k < l.length) : enc l.length ++ (l.take k).flatMap f ++ f l[k] = enc l.length ++ (l.take (k + 1)).flatMap f := by
  rw [List.take_succ_eq_append_getElem h, List.flatMap_append, List.append_assoc]
  simp
theorem encL_end {α : Type} (f : α → List UInt8) (l : List α) (k : Nat) (h : ¬ k < l.length) : enc l.length ++ (l.take k).flatMap f = encL f l := by
  rw [List.take_of_length_le (by omega)]; rfl

set_option maxRecDepth 100000 in
set_option maxHeartbeats 400000 in
theorem putInts_any (A : Option Addr) (c : Nat) (zs : List Int) (w : World) (hr : Rd w A (zs.map (Value.int .i64))) (hz : ∀ z ∈ zs, -9223372036854775808 ≤ z ∧ z ≤ 9223372036854775807) (hl : zs.length ≤ 1099511627776) (ht : (encI zs).length ≤ 1099511627776) :
    Calls Try.prog 40 #[.slice A zs.length c, .func (.func 38) #[] #[]] w fun e w' => ∃ v, e = .returned v ∧ OwnB w' w.heap.size v (encI zs) ∧ Below w.heap.size w w' := by
  have HZ := Lib.hid hz
  have HR := Lib.hid hr
  have HT := Lib.hid ht
  clear hz hr ht
  go_enter Try.func40, Try.ntmps40
  go_wp2_with fail
  refine (appendInt_any w.heap.size _ [] _ _ (by omega) (by omega) (OwnB.nil _ _) (Nat.le_refl _) (by simp)).mono ?_
  rintro e w1 ⟨v1, rfl, ho1, hb1⟩
  go_wp2
  go_loopw [5, 13] (fun b i wr => ∃ k : Nat, i = .int .i64 k ∧ k ≤ zs.length ∧ OwnB wr w.heap.size b (enc zs.length ++ (zs.take k).flatMap enc) ∧ w.heap.size ≤ wr.heap.size ∧ Below w.heap.size w wr)
    (fun _ i _ => zs.length - (intOf i).toNat)
  case atStart => exact ⟨0, rfl, by omega, by simpa using ho1, hb1.size, hb1⟩
  case round =>
    obtain ⟨k, rfl, hk, ho, hbs, hb⟩ := hrel
    clear ho1 hb1
    by_cases hlt : k < zs.length
    · have hR1 := HR.out.below hb
      obtain ⟨bb, off, hA, hcell⟩ := hR1.at_ (k := k) (u := .int .i64 zs[k]) (by simp [hlt])
      clear hR1
      subst hA
      have hzk := HZ.out zs[k] (List.getElem_mem hlt)
      have HP := Lib.hid (Nat.le_trans (encL_part enc zs k) HT.out)
      have HS := Lib.hid (encL_step enc zs k hlt)
      obtain ⟨z, hze⟩ : ∃ z, zs[k] = z := ⟨_, rfl⟩
      rw [hze] at hcell hzk HS
      clear hze
      go_wp2_with (go_at_call 38; refine (appendInt_any w.heap.size _ _ _ _ hzk.1 hzk.2 ho hbs HP.out).mono ?_; rintro e w2 ⟨v2, rfl, ho2, hb2⟩)
      go_roundw
      case rel => exact ⟨k + 1, by go_num, by omega, by rw [← HS.out]; exact ho2, Nat.le_trans hbs hb2.size, hb.trans hb2⟩
      case measure => simp [intOf]; omega
    · have HE := Lib.hid (encL_end enc zs k hlt)
      go_wp2
      go_ret
      exact ⟨_, rfl, by unfold encI; rw [← HE.out]; exact ho, hb⟩

set_option maxHeartbeats 400000 in
theorem ints_any (A : Option Addr) (c : Nat) (zs : List Int) (w : World) (hr : Rd w A (zs.map (Value.int .i64))) (hz : ∀ z ∈ zs, -9223372036854775808 ≤ z ∧ z ≤ 9223372036854775807) (hl : zs.length ≤ 1099511627776) (ht : (encI zs).length ≤ 1099511627776) :
    Calls Try.prog 18 #[.slice A zs.length c] w fun e w' => ∃ v, e = .returned v ∧ OwnB w' w.heap.size v (encI zs) ∧ Below w.heap.size w w' := by
  have HC := Lib.hid (putInts_any A c zs w hr hz hl ht)
  clear hr hz ht
  go_enter Try.func18, Try.ntmps18
  go_wp2_with (go_at_call 40; refine HC.out.mono ?_; rintro e w' ⟨v, rfl, ho, hb⟩)
  go_ret
  exact ⟨v, rfl, ho, hb⟩

set_option maxRecDepth 100000 in
set_option maxHeartbeats 400000 in
theorem putStrs_any (A : Option Addr) (c : Nat) (ss : List ByteArray) (w : World) (hr : Rd w A (ss.map Value.string)) (hz : ∀ s ∈ ss, s.size ≤ 1099511627776) (hl : ss.length ≤ 1099511627776) (ht : (encS ss).length ≤ 1099511627776) :
    Calls Try.prog 41 #[.slice A ss.length c, .func (.func 39) #[] #[]] w fun e w' => ∃ v, e = .returned v ∧ OwnB w' w.heap.size v (encS ss) ∧ Below w.heap.size w w' := by
  have HZ := Lib.hid hz
  have HR := Lib.hid hr
  have HT := Lib.hid ht
  clear hz hr ht
  go_enter Try.func41, Try.ntmps41
  go_wp2_with fail
  refine (appendInt_any w.heap.size _ [] _ _ (by omega) (by omega) (OwnB.nil _ _) (Nat.le_refl _) (by simp)).mono ?_
  rintro e w1 ⟨v1, rfl, ho1, hb1⟩
  go_wp2
  go_loopw [5, 13] (fun b i wr => ∃ k : Nat, i = .int .i64 k ∧ k ≤ ss.length ∧ OwnB wr w.heap.size b (enc ss.length ++ (ss.take k).flatMap (fun s => encB s.data.toList)) ∧ w.heap.size ≤ wr.heap.size ∧ Below w.heap.size w wr)
    (fun _ i _ => ss.length - (intOf i).toNat)
  case atStart => exact ⟨0, rfl, by omega, by simpa using ho1, hb1.size, hb1⟩
  case round =>
    obtain ⟨k, rfl, hk, ho, hbs, hb⟩ := hrel
    clear ho1 hb1
    by_cases hlt : k < ss.length
    · have hR1 := HR.out.below hb
      obtain ⟨bb, off, hA, hcell⟩ := hR1.at_ (k := k) (u := .string ss[k]) (by simp [hlt])
      clear hR1
      subst hA
      have hzk := HZ.out ss[k] (List.getElem_mem hlt)
      have HP := Lib.hid (Nat.le_trans (encL_part (fun s : ByteArray => encB s.data.toList) ss k) HT.out)
      have HS := Lib.hid (encL_step (fun s : ByteArray => encB s.data.toList) ss k hlt)
      obtain ⟨z, hze⟩ : ∃ z, ss[k] = z := ⟨_, rfl⟩
      rw [hze] at hcell hzk HS
      clear hze
      go_wp2_with (go_at_call 39; refine (appendBytes_any w.heap.size _ _ _ _ ho hbs HP.out hzk).mono ?_; rintro e w2 ⟨v2, rfl, ho2, hb2⟩)
      go_roundw
      case rel => exact ⟨k + 1, by go_num, by omega, by rw [← HS.out]; exact ho2, Nat.le_trans hbs hb2.size, hb.trans hb2⟩
      case measure => simp [intOf]; omega
    · have HE := Lib.hid (encL_end (fun s : ByteArray => encB s.data.toList) ss k hlt)
      go_wp2
      go_ret
      exact ⟨_, rfl, by unfold encS; rw [← HE.out]; exact ho, hb⟩

set_option maxHeartbeats 400000 in
theorem strs_any (A : Option Addr) (c : Nat) (ss : List ByteArray) (w : World) (hr : Rd w A (ss.map Value.string)) (hz : ∀ s ∈ ss, s.size ≤ 1099511627776) (hl : ss.length ≤ 1099511627776) (ht : (encS ss).length ≤ 1099511627776) :
    Calls Try.prog 20 #[.slice A ss.length c] w fun e w' => ∃ v, e = .returned v ∧ OwnB w' w.heap.size v (encS ss) ∧ Below w.heap.size w w' := by
  have HC := Lib.hid (putStrs_any A c ss w hr hz hl ht)
  clear hr hz ht
  go_enter Try.func20, Try.ntmps20
  go_wp2_with (go_at_call 41; refine HC.out.mono ?_; rintro e w' ⟨v, rfl, ho, hb⟩)
  go_ret
  exact ⟨v, rfl, ho, hb⟩
end Go.Proofs.Ytpobblcokkgijaa
