/- Contracts of the reference's encoders Int and Bytes. -/
import Derived.Test.YtfbemmeonkceiaaDoorMD
import Derived.Deep.QuietTactic
import Derived.BigQuiet
import Derived.Deep.AppendSrc
namespace Go.Proofs.YtfbemmeonkceiaaDoor
open Go.RowKit Wm

theorem twice_in (n : Int) (h0 : 0 ≤ n) : ((n * 2 : Int)) = (zig n : Nat) := by unfold zig; rw [if_neg (by omega)]; omega
theorem twice_neg (n : Int) (h0 : n < 0) : (-1 - n) * 2 + 1 = ((zig n : Nat) : Int) := by unfold zig; rw [if_pos h0]; omega

set_option maxRecDepth 100000 in
set_option maxHeartbeats 2000000 in
theorem rint_any (n : Int) (w : World) (h : -9223372036854775808 ≤ n) (h' : n ≤ 9223372036854775807) :
    Calls Tryd.prog 100 #[.int .i64 n] w fun e w' => ∃ v, e = .returned v ∧ OwnB w' w.heap.size v (enc n) ∧ Below w.heap.size w w' := by
  have HE := Lib.hid (enc_le h h')
  have HZ := Lib.hid (zig_lt h h')
  by_cases hn : n < 0
  · have HT := Lib.hid (twice_neg n hn)
    go_enter Tryd.func100, Tryd.ntmps100
    go_wp2
    go_loopw [3, 4] (fun z v wr => ∃ (p : List UInt8) (Z : Nat), z = .int .u64 (Z : Int) ∧ Hid (Z < 18446744073709551616) ∧ Hid (p.length + (dig Z).length ≤ 10) ∧ Hid (p ++ dig Z = enc n) ∧ OwnB wr w.heap.size v p ∧ w.heap.size ≤ wr.heap.size ∧ Below w.heap.size w wr)
      (fun z _ _ => (intOf z).toNat)
    case atStart => exact ⟨[], zig n, by rw [HT.out], HZ.out, (by show _ ≤ _; simp; exact HE.out), rfl, OwnB.nil _ _, Nat.le_refl _, Below.refl _ _⟩
    case round =>
      obtain ⟨p, Z, rfl, HZ2, HP, HD, ho, hbr, hbel⟩ := hrel
      clear h h' hn
      have hZb := HZ2.out
      by_cases hz : 128 ≤ Z
      · go_wp2_with (at_builtin; refine wpList_push rfl (.tmp 17) (.tmp 22) rfl w.heap.size _ _ rfl ho _ (UInt8.ofNat (Z % 128 + 128)) ?c1a hbr ?c1b rfl ?_; rotate_left 2; intro v1 w1 ho1 hb1)
        case c1a => rw [ofNat_toNat (by omega)]; omega
        case c1b => have h2 := HP.out; omega
        go_roundw
        case rel =>
          refine ⟨p ++ [UInt8.ofNat (Z % 128 + 128)], Z / 128, by go_num, ?_, ?_, ?_, ho1, Nat.le_trans hbr hb1.size, hbel.trans hb1⟩
          · have h1 := HZ2.out; show Z / 128 < _; omega
          · have h2 := HP.out
            rw [dig_more hz] at h2
            show _ + _ ≤ 10
            simp at h2 ⊢; omega
          · show _ ++ _ = _
            rw [← HD.out, dig_more hz, List.append_assoc]; rfl
        case measure => simp [intOf]; omega
      · go_wp2_with (at_builtin; refine wpList_push rfl (.tmp 26) (.tmp 29) rfl w.heap.size _ _ rfl ho _ (UInt8.ofNat Z) ?d1a hbr ?d1b rfl ?_; rotate_left 2; intro v1 w1 ho1 hb1)
        case d1a => rw [ofNat_toNat (by omega)]
        case d1b => have h2 := HP.out; omega
        go_ret
        refine ⟨v1, rfl, ?_, hbel.trans hb1⟩
        rw [← HD.out, dig_one (by omega)]
        exact ho1
  · have HT := Lib.hid (twice_in n (by omega))
    go_enter Tryd.func100, Tryd.ntmps100
    go_wp2
    go_loopw [3, 4] (fun z v wr => ∃ (p : List UInt8) (Z : Nat), z = .int .u64 (Z : Int) ∧ Hid (Z < 18446744073709551616) ∧ Hid (p.length + (dig Z).length ≤ 10) ∧ Hid (p ++ dig Z = enc n) ∧ OwnB wr w.heap.size v p ∧ w.heap.size ≤ wr.heap.size ∧ Below w.heap.size w wr)
      (fun z _ _ => (intOf z).toNat)
    case atStart => exact ⟨[], zig n, by rw [HT.out], HZ.out, (by show _ ≤ _; simp; exact HE.out), rfl, OwnB.nil _ _, Nat.le_refl _, Below.refl _ _⟩
    case round =>
      obtain ⟨p, Z, rfl, HZ2, HP, HD, ho, hbr, hbel⟩ := hrel
      clear h h' hn
      have hZb := HZ2.out
      by_cases hz : 128 ≤ Z
      · go_wp2_with (at_builtin; refine wpList_push rfl (.tmp 17) (.tmp 22) rfl w.heap.size _ _ rfl ho _ (UInt8.ofNat (Z % 128 + 128)) ?c2a hbr ?c2b rfl ?_; rotate_left 2; intro v1 w1 ho1 hb1)
        case c2a => rw [ofNat_toNat (by omega)]; omega
        case c2b => have h2 := HP.out; omega
        go_roundw
        case rel =>
          refine ⟨p ++ [UInt8.ofNat (Z % 128 + 128)], Z / 128, by go_num, ?_, ?_, ?_, ho1, Nat.le_trans hbr hb1.size, hbel.trans hb1⟩
          · have h1 := HZ2.out; show Z / 128 < _; omega
          · have h2 := HP.out
            rw [dig_more hz] at h2
            show _ + _ ≤ 10
            simp at h2 ⊢; omega
          · show _ ++ _ = _
            rw [← HD.out, dig_more hz, List.append_assoc]; rfl
        case measure => simp [intOf]; omega
      · go_wp2_with (at_builtin; refine wpList_push rfl (.tmp 26) (.tmp 29) rfl w.heap.size _ _ rfl ho _ (UInt8.ofNat Z) ?d2a hbr ?d2b rfl ?_; rotate_left 2; intro v1 w1 ho1 hb1)
        case d2a => rw [ofNat_toNat (by omega)]
        case d2b => have h2 := HP.out; omega
        go_ret
        refine ⟨v1, rfl, ?_, hbel.trans hb1⟩
        rw [← HD.out, dig_one (by omega)]
        exact ho1

theorem rint_f (n : Int) (w : World) (h : -9223372036854775808 ≤ n) (h' : n ≤ 9223372036854775807) :
    Calls Tryd.prog 100 #[.int .i64 n] w fun e w' => ∃ B cB, e = .returned (.slice B (enc n).length cB) ∧ Rd w' B (bc (enc n)) ∧ Below w.heap.size w w' := by
  refine (rint_any n w h h').mono ?_
  rintro y w' ⟨v, rfl, ho, hb⟩
  obtain ⟨B, cB, rfl, hr, _⟩ := own_out ho
  exact ⟨B, cB, rfl, hr, hb⟩

set_option maxHeartbeats 400000 in
theorem rbytes_any (s : ByteArray) (w : World) (hs : s.size ≤ 1099511627776) :
    Calls Tryd.prog 85 #[.string s] w fun e w' => ∃ v, e = .returned v ∧ OwnB w' w.heap.size v (encB s.data.toList) ∧ Below w.heap.size w w' := by
  have hsz : s.data.toList.length = s.size := Array.length_toList (xs := s.data)
  have HE := Lib.hid (show enc s.size ++ s.data.toList = encB s.data.toList by unfold encB; rw [hsz])
  have hle := enc_le (n := (s.size : Int)) (by omega) (by omega)
  clear hsz
  go_enter Tryd.func85, Tryd.ntmps85
  go_wp2_with fail
  refine (rint_any _ _ (by omega) (by omega)).mono ?_
  rintro e w1 ⟨v1, rfl, ho1, hb1⟩
  go_wp2_with (at_builtin; refine wpList_pushStr rfl (.tmp 5) (.tmp 6) rfl w.heap.size _ _ rfl ho1 s hb1.size ?c1 rfl ?_; rotate_left 1; intro v2 w2 ho2 hb2)
  go_ret
  exact ⟨v2, rfl, by rw [← HE.out]; exact ho2, hb1.trans hb2⟩
  case c1 => omega
theorem rbytes_f (s : ByteArray) (w : World) (hs : s.size ≤ 1099511627776) :
    Calls Tryd.prog 85 #[.string s] w fun e w' => ∃ B cB, e = .returned (.slice B (encB s.data.toList).length cB) ∧ Rd w' B (bc (encB s.data.toList)) ∧ Below w.heap.size w w' := by
  refine (rbytes_any s w hs).mono ?_
  rintro y w' ⟨v, rfl, ho, hb⟩
  obtain ⟨B, cB, rfl, hr, _⟩ := own_out ho
  exact ⟨B, cB, rfl, hr, hb⟩
end Go.Proofs.YtfbemmeonkceiaaDoor

/- Encodings of different parts differ; contracts of the reference's Same, Input, Message, and of the law's clash. -/
namespace Go.Proofs.YtfbemmeonkceiaaDoor
open Go.RowKit Hm Wm

theorem encB_cancel {x y p q : List UInt8} (hx : x.length ≤ 1000000) (hy : y.length ≤ 1000000) (h : encB x ++ p = encB y ++ q) : x = y ∧ p = q := by
  unfold encB at h
  rw [List.append_assoc, List.append_assoc] at h
  have e1 := gi_enc (n := (x.length : Int)) (by omega) (by omega) (x ++ p)
  rw [h, gi_enc (n := (y.length : Int)) (by omega) (by omega) (y ++ q)] at e1
  have hl : x.length = y.length := by injection e1 with e1 _; omega
  rw [hl] at h
  exact List.append_inj (List.append_cancel_left h) hl
theorem encP_inj : ∀ (a b : List ByteArray), (∀ s ∈ a, s.size ≤ 400) → (∀ s ∈ b, s.size ≤ 400) → encP a = encP b → a = b
  | [], [], _, _, _ => rfl
  | [], s :: r, _, _, h => by
    have : encP (s :: r) = encB s.data.toList ++ encP r := rfl
    rw [this] at h
    have h1 := congrArg List.length h
    have h2 := enc_pos (s.data.toList.length : Int)
    have h3 : (encP []).length = 0 := rfl
    rw [List.length_append, encB_len, h3] at h1
    omega
  | s :: r, [], _, _, h => by
    have : encP (s :: r) = encB s.data.toList ++ encP r := rfl
    rw [this] at h
    have h1 := congrArg List.length h
    have h2 := enc_pos (s.data.toList.length : Int)
    have h3 : (encP []).length = 0 := rfl
    rw [List.length_append, encB_len, h3] at h1
    omega
  | s :: r, s' :: r', ha, hb, h => by
    have e1 : encP (s :: r) = encB s.data.toList ++ encP r := rfl
    have e2 : encP (s' :: r') = encB s'.data.toList ++ encP r' := rfl
    rw [e1, e2] at h
    have l1 : s.data.toList.length = s.size := Array.length_toList
    have l2 : s'.data.toList.length = s'.size := Array.length_toList
    have b1 := ha s List.mem_cons_self
    have b2 := hb s' List.mem_cons_self
    obtain ⟨h1, h2⟩ := encB_cancel (by omega) (by omega) h
    have hs : s = s' := by
      rw [← sb_of s, ← sb_of s', h1]
    rw [hs, encP_inj r r' (fun t ht => ha t (List.mem_cons_of_mem _ ht)) (fun t ht => hb t (List.mem_cons_of_mem _ ht)) h2]
theorem encP_len (ss : List ByteArray) (h : ∀ s ∈ ss, s.size ≤ 400) : (encP ss).length ≤ 410 * ss.length := by
  unfold encP
  induction ss with
  | nil => simp
  | cons a r ih =>
    have h1 := h a List.mem_cons_self
    have h2 := ih fun s hs => h s (List.mem_cons_of_mem _ hs)
    have h3 : a.data.toList.length = a.size := Array.length_toList
    have h4 := enc_le (n := (a.data.toList.length : Int)) (by omega) (by omega)
    rw [List.flatMap_cons, List.length_append, List.length_cons, encB_len]; omega

theorem toList_ne {x y : ByteArray} (h : x ≠ y) : (x.toList == y.toList) = false := by
  rw [beq_eq_false_iff_ne]
  intro e
  apply h
  have h1 : x.data.toList = y.data.toList := by rw [← ByteArray.toList_eq, ← ByteArray.toList_eq]; exact e
  rw [← sb_of x, ← sb_of y, h1]
theorem take_same {α : Type} {a b : List α} {k : Nat} {x : α} (h : a.take k = b.take k) (ha : a[k]? = some x) (hb : b[k]? = some x) : a.take (k + 1) = b.take (k + 1) := by
  obtain ⟨h1, h2⟩ := List.getElem?_eq_some_iff.1 ha
  obtain ⟨h3, h4⟩ := List.getElem?_eq_some_iff.1 hb
  rw [List.take_succ_eq_append_getElem h1, List.take_succ_eq_append_getElem h3, h, h2, h4]

/-- An own row of bytes is appended to, the source read as bytes. -/
theorem wpList_pushB {w : World} {ops : Array Oper} {rest : List Oper} {o : Oper} {a : Act} {Q : Exit → Act → World → Prop} (hgd : o.guard = none) (s x : Operand)
    (ho : o.op = .call { callee := .builtin .append, args := #[s, x], argTypes := #[75, 75] })
    (base : Nat) (v : Value) (l : List UInt8) (hs : a.eval s = v) (hown : OwnB w base v l) (B : Option Addr) (c : Nat) (r : List UInt8) (hx : a.eval x = .slice B r.length c) (hr : Rd w B (bc r)) (hb : base ≤ w.heap.size) (hl : l.length + r.length ≤ 70368744177664)
    (h : ∀ v' w', OwnB w' base v' (l ++ r) → Below base w w' → wpList Tryd.prog ops Q rest (a.put o.dst v') w') :
    wpList Tryd.prog ops Q (o :: rest) a w := by
  obtain ⟨i0, hi, hz0, hz1, hz2⟩ := info_parts u8_info
  by_cases hrn : r = []
  · subst hrn
    have hrun : (Builtin.append_ #[75, 75] o.type #[v, .slice B 0 c]).run Tryd.prog w = .ok v w := by
      have hu : Tryd.prog.underlying 75 = some (.slice 5) := Tryd.underlying75
      rcases hown.2 with ⟨rfl, _⟩ | ⟨g, cap, cur, rfl, _, _, hnc, _⟩
      · cases B <;> simp [Builtin.append_, run_underlying hu, sizeOf, typeInfo, hi, Builtin.lenOf, Builtin.firstCells, loadCells, loadCellsFrom]
      · cases B <;> simp [Builtin.append_, run_underlying hu, sizeOf, typeInfo, hi, Builtin.lenOf, Builtin.firstCells, hnc, storeCells, loadCells, loadCellsFrom]
    refine wpList_plain hgd fun K hK => ?_
    unfold Oper.wp execOp
    simp only [ho, resolve, invoke, builtin, Sem.run_bind, Sem.run_pure, Result.andThen_ok, List.map_toArray, List.map_cons, List.map_nil, hs, hx, List.length_nil, hrun]
    exact hK _ _ (h v w (by rw [List.append_nil]; exact hown) (Below.refl _ _))
  · have hrne : bc r ≠ [] := by intro e; apply hrn; have := bc_len r; rw [e] at this; exact List.eq_nil_of_length_eq_zero this.symm
    obtain ⟨b, rfl, hd⟩ := hr.news hrne
    refine wpList_append_own _ hgd s x 75 ho base 5 i0 (.int .u8 0) 1 1 Tryd.underlying75 hi hz0 hz1 hz2 rfl (by decide) v l.length (bc l) hs hown
      b r.length c (bc r) hx (by rw [bc_len, Nat.mul_one]) hd (bc_one _) (by unfold maxLen; omega) (by omega) hb ?_
    intro v' w' h1 h2 _
    refine h v' w' ?_ ?_
    · unfold OwnB
      rw [List.length_append, bc_app]
      exact h1
    · exact (Below.refl base w).grown h2 hb (fun k hk => (World.ownsRow.lt hown k hk).1)

/-- A row of bytes that was just made. -/
theorem own_row (w : World) (l : List UInt8) (hl : l.length ≤ 1000000) : OwnB (w.alloc (.cells (bc l).toArray 5)) w.heap.size (.slice (some ⟨w.heap.size, 0, none⟩) l.length l.length) l :=
  ⟨by rw [bc_len]; omega, .inr ⟨w.heap.size, l.length, (bc l).toArray, rfl, Nat.le_refl _, heap_alloc_new w _, Nat.le_refl _, by unfold maxLen; omega, by simp [bc_len], by rw [Nat.mul_one]; exact List.take_of_length_le (by rw [bc_len]; exact Nat.le_refl _)⟩⟩

set_option maxRecDepth 100000 in
set_option maxHeartbeats 1000000 in
theorem input_any (tag : Int) (A : Option Addr) (c : Nat) (ss : List ByteArray) (w : World) (hr : Rd w A (ss.map Value.string)) (h12 : ss.length ≤ 12) (hs : ∀ s ∈ ss, s.size ≤ 400) :
    Calls Tryd.prog 69 #[.int .i64 tag, .slice A ss.length c] w fun e w' => ∃ v, e = .returned v ∧ OwnB w' w.heap.size v (tagB tag :: encP ss) ∧ Below w.heap.size w w' := by
  have HR := Lib.hid hr
  have HSS := Lib.hid hs
  have H12 := Lib.hid h12
  have HT := Lib.hid (tagB_cells tag)
  clear hr hs
  go_enter Tryd.func69, Tryd.ntmps69
  go_wp2_with fail
  rw [HT.out]
  have hO := own_row w [tagB tag] (by simp)
  have hB := (Below.refl w.heap.size w).alloc (Nat.le_refl _) (.cells (bc [tagB tag]).toArray 5)
  have hz : w.heap.size ≤ (w.alloc (.cells (bc [tagB tag]).toArray 5)).heap.size := hB.size
  generalize w.alloc (.cells (bc [tagB tag]).toArray 5) = w1 at hO hB hz ⊢
  go_loopw [5, 6] (fun v i wr => ∃ k : Nat, i = .int .i64 k ∧ k ≤ ss.length ∧ Hid (OwnB wr w.heap.size v (tagB tag :: encP (ss.take k))) ∧ Hid (Below w.heap.size w wr))
    (fun _ i _ => ss.length - (intOf i).toNat)
  case atStart => exact ⟨0, rfl, Nat.zero_le _, hO, hB⟩
  case round =>
    clear hO hB hz
    obtain ⟨k, rfl, hk, HO, HB⟩ := hrel
    by_cases hlt : k < ss.length
    · obtain ⟨z, hz⟩ : ∃ z, ss[k]? = some z := ⟨ss[k], List.getElem?_eq_getElem hlt⟩
      obtain ⟨bb, off, hA, hcell⟩ := (HR.out.below HB.out).at_ (k := k) (u := .string z) (by simp [hz])
      subst hA
      have bk : (k : Int) < (ss.length : Int) := by omega
      have HZ := Lib.hid (HSS.out z (List.mem_of_getElem? hz))
      have HJ := Lib.hid (encP_take ss k z hz)
      have HL := Lib.hid (show (encP (ss.take k)).length ≤ 4920 by
        have := encP_len (ss.take k) fun s hs => HSS.out s (List.mem_of_mem_take hs)
        rw [List.length_take] at this
        have := H12.out
        omega)
      have HEL := Lib.hid (show (encB z.data.toList).length ≤ 410 by
        have h1 : z.data.toList.length = z.size := Array.length_toList
        have h2 := HZ.out
        have h4 := enc_le (n := (z.data.toList.length : Int)) (by omega) (by omega)
        rw [encB_len]; omega)
      clear hz
      go_wp2_with fail
      refine (rbytes_f z _ (by have := HZ.out; omega)).mono ?_
      rintro e w2 ⟨B, cB, rfl, hrb, hb2⟩
      have HO2 := Lib.hid (OwnB.kept HO.out hb2)
      have HB2 := Lib.hid (HB.out.trans (hb2.mono HB.out.size))
      have HRB := Lib.hid hrb
      clear HO HB hrb hb2 hcell
      go_wp2_with (at_builtin; refine wpList_pushB rfl (.tmp 16) (.tmp 21) rfl w.heap.size _ _ rfl HO2.out B cB _ rfl HRB.out HB2.out.size (by have h1 := HL.out; have h2 := HEL.out; rw [List.length_cons]; omega) ?_; intro v3 w3 ho3 hb3; rw [List.cons_append, HJ.out] at ho3; have HO3 := Lib.hid ho3; have HB3 := Lib.hid (HB2.out.trans hb3); clear ho3 hb3 HO2 HB2 HRB)
      go_roundw
      case rel => exact ⟨k + 1, by go_num, by omega, HO3.out, HB3.out⟩
      case measure => simp [intOf]; omega
    · obtain rfl : k = ss.length := by omega
      have ho := HO.out
      rw [List.take_length] at ho
      have HO2 := Lib.hid ho
      clear ho HO
      go_wp2
      go_ret
      exact ⟨_, rfl, HO2.out, HB.out⟩

end Go.Proofs.YtfbemmeonkceiaaDoor

/- The reference's padded message and the words of a block. -/
namespace Go.Proofs.YtfbemmeonkceiaaDoor
open Go.RowKit Hm Wm

theorem rrot_z (x : UInt32) (z : Int) (w : World) (h0 : 0 < z) (h1 : z < 32) : Calls Tryd.prog 99 #[.int .u32 x.toNat, .int .i64 z] w fun e w' => e = .returned (.int .u32 (rotr x z.toNat).toNat) ∧ ∃ k, w' = w.drewN k := by
  have h := rrotr_any x z.toNat w (by omega) (by omega)
  rwa [show ((z.toNat : Nat) : Int) = z from by omega] at h
theorem wp_forget1 {P : Program} {c : Code} {Q : Exit → Act → World → Prop} {a : Act} {w : World} (n : Nat) (h : ∀ w9 : World, w9 = w.drewN n → Code.wp P c Q a w9) : Code.wp P c Q a (w.drewN n) := h _ rfl
theorem be_len (n : Nat) : (numB n 8).length = 8 := numB_len n 8
theorem numB_at (n i : Nat) (h : i < 8) : (numB n 8)[i]? = some (UInt8.ofNat (n / 2 ^ (56 - 8 * i))) := by
  rw [numB8]
  unfold be8
  match i, h with
  | 0, _ => simp
  | 1, _ => simp
  | 2, _ => simp
  | 3, _ => simp
  | 4, _ => simp
  | 5, _ => simp
  | 6, _ => simp
  | 7, _ => simp

set_option maxRecDepth 100000 in
set_option maxHeartbeats 1000000 in
theorem padded_any (A : Option Addr) (c : Nat) (m : List UInt8) (w : World) (hr : Rd w A (bc m)) (hl : m.length ≤ 1000000) :
    Calls Tryd.prog 97 #[.slice A m.length c] w fun e w' => ∃ v, e = .returned v ∧ OwnB w' w.heap.size v (full m) ∧ Below w.heap.size w w' := by
  obtain ⟨z, hz⟩ : ∃ z, z = (119 - m.length % 64) % 64 := ⟨_, rfl⟩
  have HZ := Lib.hid hz
  have HML := Lib.hid hl
  have HP := Lib.hid (pad_eq m.length z hz)
  have hb0 := (Below.refl w.heap.size w).alloc (Nat.le_refl _) (.cells #[] 5)
  have HO := Lib.hid (own_empty w 0 #[] rfl (by omega))
  have HB := Lib.hid hb0
  have HR1 := Lib.hid (hr.below hb0)
  clear hr hb0 hz
  go_enter Tryd.func97, Tryd.ntmps97
  go_wp2_with (first | (at_builtin; refine wpList_pushB rfl (.tmp 6) (.tmp 7) rfl w.heap.size _ [] rfl HO.out A c m rfl HR1.out HB.out.size (by have := HML.out; simp; omega) ?_; intro v1 w1 ho1 hb1; rw [List.nil_append] at ho1; have HO1 := Lib.hid ho1; have HB1 := Lib.hid (HB.out.trans hb1); clear ho1 hb1 HO HB HR1) | (at_builtin; refine wpList_push rfl (.tmp 9) (.tmp 10) rfl w.heap.size v1 m rfl HO1.out _ 128 rfl HB1.out.size (by have := HML.out; omega) rfl ?_; intro v2 w2 ho2 hb2; have HO2 := Lib.hid ho2; have HB2 := Lib.hid (HB1.out.trans hb2); clear ho2 hb2 HO1 HB1))
  go_loopw [3] (fun v wr => ∃ (j L : Nat) (cp : Nat) (ad : Option Addr), v = .slice ad L cp ∧ L = m.length + 1 + j ∧ j ≤ z ∧ Hid (OwnB wr w.heap.size (.slice ad L cp) (m ++ [128] ++ List.replicate j 0)) ∧ Hid (Below w.heap.size w wr))
    (fun v _ => m.length + 1 + z - sliceLen v)
  case atStart =>
    obtain ⟨ad, cp, hv, _, _⟩ := own_out HO2.out
    have ho := HO2.out
    rw [show (m ++ [(128 : UInt8)]).length = m.length + 1 from by simp] at hv
    subst hv
    exact ⟨0, _, cp, ad, rfl, by omega, Nat.zero_le _, (by show OwnB _ _ _ _; simpa using ho), HB2.out⟩
  case round =>
    clear HO2 HB2
    obtain ⟨j, L, cp, ad, rfl, hL, hj, HO, HB⟩ := hrel
    have bL : (L : Int) ≤ 2000000 := by have := HZ.out; omega
    by_cases hjz : j < z
    · have hne : (((L : Int) % 64) == 56) = false := by have := HZ.out; simp; omega
      have hne2 : (((L : Int) % 64) != 56) = true := by unfold bne; rw [hne]; rfl
      have HLL := Lib.hid hL
      clear hL
      go_wp2_with (at_builtin; refine wpList_push rfl (.tmp 16) (.tmp 17) rfl w.heap.size _ (m ++ [128] ++ List.replicate j 0) rfl HO.out _ 0 rfl HB.out.size (by have := HML.out; have := HZ.out; simp; omega) rfl ?_; intro v3 w3 ho3 hb3; have HO3 := Lib.hid ho3; have HB3 := Lib.hid (HB.out.trans hb3); clear ho3 hb3 HO HB)
      obtain ⟨ad3, cp3, hv, _, _⟩ := own_out HO3.out
      have ho := HO3.out
      have hl3 := HLL.out
      have hl4 : (m ++ [(128 : UInt8)] ++ List.replicate j 0 ++ [0]).length = L + 1 := by (simp; omega)
      rw [hl4] at hv
      clear hl4
      rw [List.append_assoc, ← List.replicate_succ'] at ho
      subst hv
      have HO4 := Lib.hid ho
      clear ho HO3 hl3
      go_roundw
      case rel => exact ⟨j + 1, L + 1, cp3, ad3, rfl, by have := HLL.out; omega, by omega, HO4.out, HB3.out⟩
      case measure => have := HLL.out; simp [sliceLen]; omega
    · have hne : (((L : Int) % 64) == 56) = true := by have := HZ.out; simp; omega
      have hne2 : (((L : Int) % 64) != 56) = false := by unfold bne; rw [hne]; rfl
      obtain rfl : j = z := by omega
      clear hL hjz
      go_wp2_with fail
      obtain ⟨N, hN⟩ : ∃ N, 8 * m.length = N := ⟨_, rfl⟩
      have hNi : 8 * (m.length : Int) = (N : Int) := by omega
      rw [hN] at HP
      rw [hNi]
      have bN : (N : Int) ≤ 8000000 := by omega
      have HNL := Lib.hid (show N < 18446744073709551616 by omega)
      have HPM := HP
      rw [Nat.mod_eq_of_lt HNL.out] at HPM
      clear hN hNi HP
      go_loopw [3, 5] (fun v i wr => ∃ k : Nat, i = .int .i64 k ∧ k ≤ 8 ∧ Hid (OwnB wr w.heap.size v (m ++ [128] ++ List.replicate j 0 ++ (numB N 8).take k)) ∧ Hid (Below w.heap.size w wr))
        (fun _ i _ => 8 - (intOf i).toNat)
      case atStart => exact ⟨0, rfl, by omega, (by show OwnB _ _ _ _; simpa using HO.out), HB.out⟩
      case round =>
        clear HO HB
        obtain ⟨k, rfl, hk, HO, HB⟩ := hrel
        by_cases hlt : k < 8
        · have hst : (numB N 8).take k ++ [UInt8.ofNat (N / 2 ^ (56 - 8 * k))] = (numB N 8).take (k + 1) := by
            obtain ⟨h1, h2⟩ := List.getElem?_eq_some_iff.1 (numB_at N k hlt)
            rw [List.take_succ_eq_append_getElem h1, h2]
          have HST := Lib.hid hst
          obtain ⟨sh, hsh⟩ : ∃ sh : Nat, 56 - 8 * k = sh := ⟨_, rfl⟩
          have esh : (56 : Int) - 8 * (k : Int) = (sh : Int) := by omega
          have bsh : (sh : Int) ≤ 56 := by omega
          rw [hsh] at HST
          clear hst hsh
          go_wp2_with (at_builtin; refine wpList_push rfl (.tmp 27) (.tmp 34) rfl w.heap.size _ (m ++ [128] ++ List.replicate j 0 ++ (numB N 8).take k) rfl HO.out _ (UInt8.ofNat (N / 2 ^ sh)) ?c1 HB.out.size ?c2 rfl ?_; rotate_left 2; intro v3 w3 ho3 hb3; rw [List.append_assoc, HST.out] at ho3; have HO3 := Lib.hid ho3; have HB3 := Lib.hid (HB.out.trans hb3); clear ho3 hb3 HO HB)
          case c1 => rw [UInt8.toNat_ofNat']; simp
          case c2 => have h1 := HML.out; have h2 := HZ.out; simp; omega
          go_roundw
          case rel => exact ⟨k + 1, by go_num, by omega, HO3.out, HB3.out⟩
          case measure => simp [intOf]; omega
        · obtain rfl : k = 8 := by omega
          have ho := HO.out
          rw [List.take_of_length_le (by rw [be_len]; exact Nat.le_refl _)] at ho
          have hf : m ++ [128] ++ List.replicate j 0 ++ numB N 8 = full m := by
            unfold full
            rw [← HPM.out]
            simp
          rw [hf] at ho
          have HO2 := Lib.hid ho
          clear ho HO hf
          go_wp2
          go_ret
          exact ⟨_, rfl, HO2.out, HB.out⟩
end Go.Proofs.YtfbemmeonkceiaaDoor

/- The reference's words of a block. -/
namespace Go.Proofs.YtfbemmeonkceiaaDoor
open Go.RowKit Hm Wm

theorem be4_wrapped (a b c d : UInt8) : bits .or .u32 (bits .or .u32 (bits .or .u32 (IntKind.u32.wrap (IntKind.u32.wrap (a.toNat : Int) * 16777216)) (IntKind.u32.wrap (IntKind.u32.wrap (b.toNat : Int) * 65536))) (IntKind.u32.wrap (IntKind.u32.wrap (c.toNat : Int) * 256))) (IntKind.u32.wrap (d.toNat : Int)) = ((be4 a b c d).toNat : Int) := by
  have ha := a.toNat_lt
  have hb := b.toNat_lt
  have hc := c.toNat_lt
  have hd := d.toNat_lt
  rw [← be4_eq]
  simp only [wrap_u32]
  congr 1
  · congr 1
    · congr 1 <;> omega
    · omega
  · omega
theorem word_eq (l : List UInt8) (k : Nat) (hl : l.length = 64) (hk : k < 16) : ∃ a b c d : UInt8, l[4 * k]? = some a ∧ l[4 * k + 1]? = some b ∧ l[4 * k + 2]? = some c ∧ l[4 * k + 3]? = some d ∧ be4 a b c d = word l k := by
  refine ⟨l[4 * k]'(by omega), l[4 * k + 1]'(by omega), l[4 * k + 2]'(by omega), l[4 * k + 3]'(by omega), List.getElem?_eq_getElem _, List.getElem?_eq_getElem _, List.getElem?_eq_getElem _, List.getElem?_eq_getElem _, ?_⟩
  have g : ∀ i (h : i < l.length), l.getD i 0 = l[i] := fun i h => by rw [List.getD_eq_getElem?_getD, List.getElem?_eq_getElem h]; rfl
  unfold word
  rw [g _ (by omega), g _ (by omega), g _ (by omega), g _ (by omega)]

set_option maxRecDepth 100000 in
set_option maxHeartbeats 4000000 in
theorem words_any (A : Option Addr) (c : Nat) (l : List UInt8) (w : World) (hl : l.length = 64) (hr : Rd w A (bc l)) :
    Calls Tryd.prog 98 #[.slice A 64 c] w fun e w' => e = .returned (.agg (wc (sch l 64)).toArray) ∧ Below w.heap.size w w' := by
  have HL := Lib.hid hl
  obtain ⟨bb, off, rfl, hcells⟩ := hr (by intro e; have := bc_len l; rw [e, hl] at this; cases this)
  have HC := Lib.hid hcells
  have HBB := Lib.hid (show bb < w.heap.size from World.block_lt_of_cell? w _ (hcells 0 _ (bc_at (by omega))))
  have hb0 := Blk.new w 130 (zw 64)
  have HB1 := Lib.hid (hb0.alloc (.cells (zw 64).toArray 130))
  have hb2 := Blk.new (w.alloc (.cells (zw 64).toArray 130)) 130 (zw 64)
  rw [size_alloc] at hb2
  have HB2 := Lib.hid hb2
  have HBW := Lib.hid (((Below.refl w.heap.size w).alloc (Nat.le_refl _) (.cells (zw 64).toArray 130)).alloc (by simp) (.cells (zw 64).toArray 130))
  clear hl hr hcells hb0 hb2
  go_enter Tryd.func98, Tryd.ntmps98
  go_wp2_with (first | (refine wpList_alloc_zero rfl 130 rfl (zw 64) w64_zero ?_))
  go_loopw [4] (fun i wr => ∃ k : Nat, i = .int .i64 k ∧ k ≤ 16 ∧ Hid (Blk wr w.heap.size 130 (zw 64)) ∧ Hid (Blk wr (w.heap.size + 1) 130 (wc (sch l k) ++ zw (64 - k))) ∧ Hid (Below w.heap.size w wr))
    (fun i _ => 16 - (intOf i).toNat)
  case atStart => exact ⟨0, rfl, by omega, HB1.out, HB2.out, HBW.out⟩
  case round =>
    obtain ⟨k, rfl, hk, H1, H2, HB⟩ := hrel
    clear HB1 HB2 HBW
    by_cases hlt : k < 16
    · obtain ⟨a, b, c1, d, ha, hb, hc, hd, hwd⟩ := word_eq l k HL.out hlt
      have HWD := Lib.hid hwd
      have cell : ∀ (i : Nat) (x : UInt8), l[i]? = some x → wr.cell? ⟨bb, off + i, none⟩ = some (.int .u8 x.toNat) := fun i x hx => by
        rw [HB.out.cell (p := ⟨bb, off + i, none⟩) HBB.out]
        exact HC.out i _ (by simp [bc, hx])
      obtain ⟨i0, e0⟩ : ∃ i0 : Nat, 4 * k = i0 := ⟨_, rfl⟩
      obtain ⟨i1, e1⟩ : ∃ i1 : Nat, 4 * k + 1 = i1 := ⟨_, rfl⟩
      obtain ⟨i2, e2⟩ : ∃ i2 : Nat, 4 * k + 2 = i2 := ⟨_, rfl⟩
      obtain ⟨i3, e3⟩ : ∃ i3 : Nat, 4 * k + 3 = i3 := ⟨_, rfl⟩
      rw [e0] at ha
      rw [e1] at hb
      rw [e2] at hc
      rw [e3] at hd
      have c0 := cell _ a ha
      have c1' := cell _ b hb
      have c2 := cell _ c1 hc
      have c3 := cell _ d hd
      have w0 : IntKind.i64.wrap (4 * (k : Int)) = (i0 : Int) := by rw [show 4 * (k : Int) = (i0 : Int) from by omega]; exact IntWalk.i64_in _ (by omega)
      have w1 : IntKind.i64.wrap ((i0 : Int) + 1) = (i1 : Int) := by rw [show (i0 : Int) + 1 = (i1 : Int) from by omega]; exact IntWalk.i64_in _ (by omega)
      have w2 : IntKind.i64.wrap ((i0 : Int) + 2) = (i2 : Int) := by rw [show (i0 : Int) + 2 = (i2 : Int) from by omega]; exact IntWalk.i64_in _ (by omega)
      have w3 : IntKind.i64.wrap ((i0 : Int) + 3) = (i3 : Int) := by rw [show (i0 : Int) + 3 = (i3 : Int) from by omega]; exact IntWalk.i64_in _ (by omega)
      have b0 : (i0 : Int) < 64 := by omega
      have b1 : (i1 : Int) < 64 := by omega
      have b2 : (i2 : Int) < 64 := by omega
      have b3 : (i3 : Int) < 64 := by omega
      have bk : (k : Int) < 16 := by omega
      have bk2 : (k : Int) < 64 := by omega
      clear hwd ha hb hc hd cell e0 e1 e2 e3
      go_wp2_with fail
      refine wp_still_tail 35 (by kernel_rfl) (by kernel_rfl) ?_
      have d0 : wr.drew.cell? ⟨bb, off + i0, none⟩ = some (.int .u8 a.toNat) := c0
      have d1 : wr.drew.cell? ⟨bb, off + i1, none⟩ = some (.int .u8 b.toNat) := c1'
      have d2 : wr.drew.cell? ⟨bb, off + i2, none⟩ = some (.int .u8 c1.toNat) := c2
      have d3 : wr.drew.cell? ⟨bb, off + i3, none⟩ = some (.int .u8 d.toNat) := c3
      have K1 : Hid (Blk wr.drew w.heap.size 130 (zw 64)) := H1.out.drew
      have K2 : Hid (Blk wr.drew (w.heap.size + 1) 130 (wc (sch l k) ++ zw (64 - k))) := H2.out.drew
      have KB : Hid (Below w.heap.size w wr.drew) := HB.out.drew
      generalize wr.drew = w8 at d0 d1 d2 d3 K1 K2 KB ⊢
      clear c0 c1' c2 c3 H1 H2 HB
      simp only [List.take_succ_cons, List.take_zero, List.drop_succ_cons, List.drop_zero]
      repeat still_step
      refine wpStill_nil ?_
      rw [be4_wrapped, HWD.out]
      have hc : w8.cell? ⟨w.heap.size + 1, k, none⟩ = some (.int .u32 0) := by
        rw [K2.out.cell k, List.getElem?_append_right (by rw [wc_len, sch_len]; exact Nat.le_refl _), wc_len, sch_len, Nat.sub_self]
        obtain ⟨e, he⟩ : ∃ e, 64 - k = e + 1 := ⟨63 - k, by omega⟩
        rw [he]; rfl
      have hf : w8.frozen? ⟨w.heap.size + 1, k, none⟩ = false := K2.out.frozen k
      have hs2 : w.heap.size + 1 < w8.heap.size := K2.out.lt
      clear d0 d1 d2 d3 w0 w1 w2 w3 b0 b1 b2 b3
      go_wp2
      go_roundw
      case rel =>
        refine ⟨k + 1, by go_num, by omega, ?_, ?_, ?_⟩
        · exact K1.out.far (p := ⟨w.heap.size + 1, k, none⟩) (by show w.heap.size ≠ w.heap.size + 1; omega) _
        · have := K2.out.set_ k (.int .u32 (word l k).toNat)
          rw [sch_fill l k (word l k) (by rw [if_pos hlt]) (by omega)] at this
          exact this
        · exact KB.out.setCell (p := ⟨w.heap.size + 1, k, none⟩) (by show w.heap.size ≤ w.heap.size + 1; omega) _
      case measure => simp [intOf]; omega
    · have G2 := H2.out
      rw [show k = 16 from by omega] at G2
      have H2' := Lib.hid G2
      clear G2 H2
      go_wp2_with fail
      go_loopw [5] (fun i wr => ∃ t : Nat, i = .int .i64 t ∧ 16 ≤ t ∧ t ≤ 64 ∧ Hid (Blk wr w.heap.size 130 (zw 64)) ∧ Hid (Blk wr (w.heap.size + 1) 130 (wc (sch l t) ++ zw (64 - t))) ∧ Hid (Below w.heap.size w wr))
        (fun i _ => 64 - (intOf i).toNat)
      case atStart => exact ⟨16, rfl, by omega, by omega, H1.out, H2'.out, HB.out⟩
      case round =>
        clear H1 H2' HB
        obtain ⟨t, rfl, ht, ht2, H1, H2, HB⟩ := hrel
        by_cases hlt : t < 64
        · obtain ⟨i15, h15⟩ : ∃ i : Nat, t = i + 15 := ⟨t - 15, by omega⟩
          obtain ⟨i2, h2⟩ : ∃ i : Nat, t = i + 2 := ⟨t - 2, by omega⟩
          obtain ⟨i16, h16⟩ : ∃ i : Nat, t = i + 16 := ⟨t - 16, by omega⟩
          obtain ⟨i7, h7⟩ : ∃ i : Nat, t = i + 7 := ⟨t - 7, by omega⟩
          have hcell : ∀ i, i < t → ∃ x : UInt32, (sch l t).getD i 0 = x ∧ wr.cell? ⟨w.heap.size + 1, i, none⟩ = some (.int .u32 x.toNat) := by
            intro i hi
            have hls := sch_len l t
            refine ⟨_, rfl, ?_⟩
            rw [H2.out.cell i, List.getElem?_append_left (by rw [wc_len, sch_len]; exact hi), wc_at (by rw [sch_len]; exact hi)]
            simp [hls, hi]
          obtain ⟨x15, e15, c15⟩ := hcell i15 (by omega)
          obtain ⟨x2, e2, c2⟩ := hcell i2 (by omega)
          obtain ⟨x16, e16, c16⟩ := hcell i16 (by omega)
          obtain ⟨x7, e7, c7⟩ := hcell i7 (by omega)
          have HN : Hid (nextW (sch l t) t = x16 + (rotr x15 7 ^^^ rotr x15 18 ^^^ UInt32.ofNat (x15.toNat / 2 ^ 3)) + x7 + (rotr x2 17 ^^^ rotr x2 19 ^^^ UInt32.ofNat (x2.toNat / 2 ^ 10))) := by
            show nextW _ _ = _
            unfold nextW
            rw [show t - 16 = i16 from by omega, show t - 15 = i15 from by omega, show t - 7 = i7 from by omega, show t - 2 = i2 from by omega, e15, e2, e16, e7]
          have w15 : IntKind.i64.wrap ((t : Int) - 15) = (i15 : Int) := by rw [show (t : Int) - 15 = (i15 : Int) from by omega]; exact IntWalk.i64_in _ (by omega)
          have w2 : IntKind.i64.wrap ((t : Int) - 2) = (i2 : Int) := by rw [show (t : Int) - 2 = (i2 : Int) from by omega]; exact IntWalk.i64_in _ (by omega)
          have w16 : IntKind.i64.wrap ((t : Int) - 16) = (i16 : Int) := by rw [show (t : Int) - 16 = (i16 : Int) from by omega]; exact IntWalk.i64_in _ (by omega)
          have w7 : IntKind.i64.wrap ((t : Int) - 7) = (i7 : Int) := by rw [show (t : Int) - 7 = (i7 : Int) from by omega]; exact IntWalk.i64_in _ (by omega)
          have b15 : (i15 : Int) < 64 := by omega
          have b2 : (i2 : Int) < 64 := by omega
          have b16 : (i16 : Int) < 64 := by omega
          have b7 : (i7 : Int) < 64 := by omega
          have HH := Lib.hid (And.intro h15 (And.intro h2 (And.intro h16 h7)))
          clear hcell h15 h2 h16 h7 e15 e2 e16 e7
          go_wp2_with fail
          go_quiet ((go_at_call 99; exact Calls.quiet_of (rrot_z _ _ _ (by omega) (by omega))))
          go_wp2_with fail
          refine wp_forget1 _ ?_
          intro w9 hw9
          have c2' : w9.cell? ⟨w.heap.size + 1, i2, none⟩ = some (.int .u32 x2.toNat) := by rw [hw9]; exact c2
          have c16' : w9.cell? ⟨w.heap.size + 1, i16, none⟩ = some (.int .u32 x16.toNat) := by rw [hw9]; exact c16
          have c7' : w9.cell? ⟨w.heap.size + 1, i7, none⟩ = some (.int .u32 x7.toNat) := by rw [hw9]; exact c7
          have J1 : Hid (Blk w9 w.heap.size 130 (zw 64)) := by rw [hw9]; exact H1.out
          have J2 : Hid (Blk w9 (w.heap.size + 1) 130 (wc (sch l t) ++ zw (64 - t))) := by rw [hw9]; exact H2.out
          have JB : Hid (Below w.heap.size w w9) := by rw [hw9]; exact drewN_below HB.out _
          clear hw9 c15 c2 c16 c7 H1 H2 HB
          go_quiet ((go_at_call 99; exact Calls.quiet_of (rrot_z _ _ _ (by omega) (by omega))))
          go_wp2_with fail
          refine wp_forget1 _ ?_
          intro wx hwx
          refine wp_still_tail 15 (by kernel_rfl) (by kernel_rfl) ?_
          have d16 : wx.drew.cell? ⟨w.heap.size + 1, i16, none⟩ = some (.int .u32 x16.toNat) := by rw [hwx]; exact c16'
          have d7 : wx.drew.cell? ⟨w.heap.size + 1, i7, none⟩ = some (.int .u32 x7.toNat) := by rw [hwx]; exact c7'
          have K1 : Hid (Blk wx.drew w.heap.size 130 (zw 64)) := by rw [hwx]; exact J1.out
          have K2 : Hid (Blk wx.drew (w.heap.size + 1) 130 (wc (sch l t) ++ zw (64 - t))) := by rw [hwx]; exact J2.out
          have KB : Hid (Below w.heap.size w wx.drew) := by rw [hwx]; exact (drewN_below JB.out _).drew
          generalize wx.drew = w8 at d16 d7 K1 K2 KB ⊢
          have bt : (t : Int) < 64 := by omega
          clear hwx wx c2' c16' c7' J1 J2 JB
          simp only [List.take_succ_cons, List.take_zero, List.drop_succ_cons, List.drop_zero]
          repeat still_step
          refine wpStill_nil ?_
          have hc : w8.cell? ⟨w.heap.size + 1, t, none⟩ = some (.int .u32 0) := by
            rw [K2.out.cell t, List.getElem?_append_right (by rw [wc_len, sch_len]; exact Nat.le_refl _), wc_len, sch_len, Nat.sub_self]
            obtain ⟨e, he⟩ : ∃ e, 64 - t = e + 1 := ⟨63 - t, by omega⟩
            rw [he]; rfl
          have hf : w8.frozen? ⟨w.heap.size + 1, t, none⟩ = false := K2.out.frozen t
          have hs2 : w.heap.size + 1 < w8.heap.size := K2.out.lt
          clear d16 d7
          go_wp2
          go_roundw
          case rel =>
            have hv := K2.out.set_ t (.int .u32 (nextW (sch l t) t).toNat)
            rw [sch_fill l t _ (by rw [if_neg (by omega)]) hlt] at hv
            refine ⟨t + 1, by go_num, by omega, by omega, ?_, ?_, ?_⟩
            · exact K1.out.far (p := ⟨w.heap.size + 1, t, none⟩) (by show w.heap.size ≠ w.heap.size + 1; omega) _
            · rw [HN.out] at hv
              show Blk _ _ _ _
              simp only [xor_u32, shr3_u32, shr10_u32, add4m_u32]
              exact hv
            · exact KB.out.setCell (p := ⟨w.heap.size + 1, t, none⟩) (by show w.heap.size ≤ w.heap.size + 1; omega) _
          case measure => simp [intOf]; omega
        · obtain rfl : t = 64 := by omega
          have h2 := H2.out
          rw [show zw (64 - 64) = [] from rfl, List.append_nil] at h2
          have HS := Lib.hid h2
          clear h2 H2
          go_wp2_with (first | (refine wpList_load_all rfl _ (.tmp 3) rfl (w.heap.size + 1) _ (wc (sch l 64)) _ rfl HS.out w64_under rfl (by rw [w64_size, wc_len, sch_len]) ?_) | (refine wpList_store_all rfl _ (.tmp 2) (.tmp 100) rfl w.heap.size _ (zw 64) (wc (sch l 64)) rfl rfl H1.out (by rw [wc_len, zw_len, sch_len]) (by rw [w64_size, wc_len, sch_len]) (wc_one _) ?_; intro w3 HB3 ho3))
          exact bodyPost_ret (results_blk rfl _ _ w.heap.size _ (wc (sch l 64)) _ rfl HB3.out w64_under rfl (by rw [w64_size, wc_len, sch_len])) rfl ⟨rfl, HB.out.trans (ho3.below (Nat.le_refl _))⟩
end Go.Proofs.YtfbemmeonkceiaaDoor

/- The reference's hash. -/
namespace Go.Proofs.YtfbemmeonkceiaaDoor
open Go.RowKit Hm Wm

theorem a8_size : (Tryd.prog.info? 102).map (·.size) = some 8 := by kernel_rfl
theorem a8_under : Tryd.prog.underlying 102 = some (.array 8 101) := by kernel_rfl
theorem a8_zero : (Tryd.prog.info? 102).map (·.zero) = some (some (.agg (zw 8).toArray)) := by kernel_rfl
theorem run_build_ini (w : World) : (Instr.build 102 #[(0, .int .u32 1779033703), (1, .int .u32 3144134277), (2, .int .u32 1013904242), (3, .int .u32 2773480762), (4, .int .u32 1359893119), (5, .int .u32 2600822924), (6, .int .u32 528734635), (7, .int .u32 1541459225)]).run Tryd.prog w = .ok (.agg (wc ini.toL).toArray) w := by kernel_rfl
theorem run_build_8 (v : H8) (w : World) : (Instr.build 102 #[(0, .int .u32 v.a.toNat), (1, .int .u32 v.b.toNat), (2, .int .u32 v.c.toNat), (3, .int .u32 v.d.toNat), (4, .int .u32 v.e.toNat), (5, .int .u32 v.f.toNat), (6, .int .u32 v.g.toNat), (7, .int .u32 v.h.toNat)]).run Tryd.prog w = .ok (.agg (wc v.toL).toArray) w := by
  kernel_rfl
theorem flip_u32 (x : UInt32) : bits .xor .u32 (x.toNat : Int) 4294967295 = ((~~~x).toNat : Int) := by
  have h := xor_u32 x 0xffffffff
  rw [show ((0xffffffff : UInt32).toNat : Int) = 4294967295 from rfl] at h
  rw [h]
  congr 2
  exact UInt32.xor_neg_one
theorem range_only {w w' : World} {g b o : Nat} {xs : List Value} (h : w.rangeAt b o xs) (ho : Only g w w') (hb : b ≠ g) : w'.rangeAt b o xs := fun j v hv => by
  rw [World.cell?_of_block (w := w) (ho.block b hb)]; exact h j v hv

/-- A hash value is put together and stored at once. -/
theorem wpList_rebuild {w : World} {ops : Array Oper} {rest : List Oper} {o1 o2 : Oper} {a : Act} {Q : Exit → Act → World → Prop} (V' : H8) (h1 : o1.guard = none) (h2 : o2.guard = none) (d p : Tmp) (hd : o1.dst = some d) (hn : o2.dst = none)
    (x0 x1 x2 x3 x4 x5 x6 x7 : Operand) (ho1 : o1.op = .build 102 #[(0, x0), (1, x1), (2, x2), (3, x3), (4, x4), (5, x5), (6, x6), (7, x7)]) (ho2 : o2.op = .store 102 (.tmp p) (.tmp d))
    (e0 : a.eval x0 = .int .u32 V'.a.toNat) (e1 : a.eval x1 = .int .u32 V'.b.toNat) (e2 : a.eval x2 = .int .u32 V'.c.toNat) (e3 : a.eval x3 = .int .u32 V'.d.toNat) (e4 : a.eval x4 = .int .u32 V'.e.toNat) (e5 : a.eval x5 = .int .u32 V'.f.toNat) (e6 : a.eval x6 = .int .u32 V'.g.toNat) (e7 : a.eval x7 = .int .u32 V'.h.toNat)
    (g : Nat) (l : List UInt32) (hl : l.length = 8) (hp : (a.put (some d) (.agg (wc V'.toL).toArray)).eval (.tmp p) = .pointer (some ⟨g, 0, none⟩)) (hv : (a.put (some d) (.agg (wc V'.toL).toArray)).eval (.tmp d) = .agg (wc V'.toL).toArray) (hb : Blk w g 102 (wc l))
    (h : ∀ w', Hid (Blk w' g 102 (wc V'.toL)) → Only g w w' → wpList Tryd.prog ops Q rest ((a.put (some d) (.agg (wc V'.toL).toArray)).put none undef) w') : wpList Tryd.prog ops Q (o1 :: o2 :: rest) a w := by
  refine wpList_plain h1 fun K hK => ?_
  unfold Oper.wp execOp
  simp only [ho1, Sem.run_bind, List.map_toArray, List.map_cons, List.map_nil, e0, e1, e2, e3, e4, e5, e6, e7, run_build_8, Result.andThen_ok]
  refine hK _ _ ?_
  rw [hd]
  refine wpList_store_all h2 102 (.tmp p) (.tmp d) ho2 g _ (wc l) (wc V'.toL) hp hv hb (by rw [wc_len, wc_len, hl, H8.toL_len]) (by rw [a8_size, wc_len, H8.toL_len]) (wc_one _) ?_
  intro w' hb' ho
  rw [hn]
  exact h w' hb' ho

theorem w4_at (x : UInt32) (r : Nat) (h : r < 4) : (w4 x)[r]? = some (UInt8.ofNat (x.toNat / 2 ^ (24 - 8 * r))) := by
  match r, h with
  | 0, _ => simp [w4]
  | 1, _ => simp [w4]
  | 2, _ => simp [w4]
  | 3, _ => simp [w4]
theorem flat_at : ∀ (l : List UInt32) (q r : Nat), r < 4 → (l.flatMap w4)[4 * q + r]? = (l[q]?).bind fun x => (w4 x)[r]?
  | [], q, r, _ => by simp
  | x :: l, 0, r, h => by
    have hl : (w4 x).length = 4 := rfl
    rw [List.flatMap_cons, Nat.mul_zero, Nat.zero_add, List.getElem?_append_left (by omega)]
    rfl
  | x :: l, q + 1, r, h => by
    have hl : (w4 x).length = 4 := rfl
    rw [List.flatMap_cons, List.getElem?_append_right (by omega), hl, show 4 * (q + 1) + r - 4 = 4 * q + r from by omega, flat_at l q r h]
    rfl
theorem bytes_at (S : H8) (k : Nat) (h : k < 32) : S.bytes[k]? = some (UInt8.ofNat ((S.toL.getD (k / 4) 0).toNat / 2 ^ (24 - 8 * (k % 4)))) := by
  have e := flat_at S.toL (k / 4) (k % 4) (by omega)
  rw [show 4 * (k / 4) + k % 4 = k from by omega] at e
  unfold H8.bytes
  rw [e, List.getElem?_eq_getElem (by rw [H8.toL_len]; omega)]
  show (w4 _)[k % 4]? = _
  rw [w4_at _ _ (by omega), List.getD_eq_getElem?_getD, List.getElem?_eq_getElem (by rw [H8.toL_len]; omega)]
  rfl
theorem bytes_fill (S : H8) (k : Nat) (b : UInt8) (h : k < 32) (hb : S.bytes[k]? = some b) : (bc (S.bytes.take k) ++ zb (32 - k)).set k (.int .u8 b.toNat) = bc (S.bytes.take (k + 1)) ++ zb (32 - (k + 1)) := by
  obtain ⟨h1, h2⟩ := List.getElem?_eq_some_iff.1 hb
  have hl : (bc (S.bytes.take k)).length = k := by rw [bc_len, List.length_take]; omega
  obtain ⟨e, he⟩ : ∃ e, 32 - k = e + 1 := ⟨31 - k, by omega⟩
  rw [List.set_append_right _ _ (by omega), hl, Nat.sub_self, he, show 32 - (k + 1) = e from by omega, List.take_succ_eq_append_getElem h1, bc_app, h2, List.append_assoc]
  rfl

set_option maxRecDepth 100000 in
set_option maxHeartbeats 4000000 in
theorem rsum_any (A : Option Addr) (c : Nat) (m : List UInt8) (w : World) (hr : Rd w A (bc m)) (hl : m.length ≤ 100000) (ht : w.rangeAt 4 0 (wc K)) :
    Calls Tryd.prog 84 #[.slice A m.length c] w fun e w' => e = .returned (.agg (bc (Hm.sum m)).toArray) ∧ Below w.heap.size w w' := by
  have HTAB := Lib.hid ht
  have hw0 : 4 < w.heap.size := World.block_lt_of_cell? w _ (ht 0 _ rfl)
  have hb0 := (Below.refl w.heap.size w).alloc (Nat.le_refl _) (.cells (zb 32).toArray 100)
  have HB0 := Lib.hid (Blk.new w 100 (zb 32))
  have HW0 := Lib.hid hb0
  have HR := Lib.hid hr
  have HL := Lib.hid hl
  clear hr ht hb0
  go_enter Tryd.func84, Tryd.ntmps84
  go_wp2_with (first | (refine wpList_alloc_zero rfl 100 rfl (zb 32) a32_zero ?_) | (refine wpList_var rfl rfl 102 3 rfl rfl rfl (.tmp 14) rfl (zw 8) (wc ini.toL) a8_zero rfl rfl (by rw [wc_len, zw_len, H8.toL_len]) (by rw [a8_size, wc_len, H8.toL_len]) (wc_one _) ?_; intro w1 K1 D1))
  have hsz : (w.alloc (.cells (zb 32).toArray 100)).heap.size = w.heap.size + 1 := by simp
  rw [hsz] at K1
  have B1 := Lib.hid (HW0.out.trans (D1.out.mono HW0.out.size))
  have Z1 := Lib.hid (HB0.out.next D1.out)
  have R1 := Lib.hid (HR.out.below B1.out)
  have hs1 : w.heap.size + 1 < w1.heap.size := K1.out.lt
  clear HB0 HW0 HR D1 hsz
  refine (padded_any A c m w1 R1.out (by have := HL.out; omega)).mono ?_
  rintro e w2 ⟨v2, rfl, ho2, hb2⟩
  obtain ⟨M, hM⟩ : ∃ M, full m = M := ⟨_, rfl⟩
  have hM64 : M.length % 64 = 0 := by rw [← hM]; exact full_mod m
  have hMge := full_ge m
  rw [hM] at ho2 hMge
  obtain ⟨bm, cm, rfl, hbm, hcm, hrm⟩ := ho2.at_ (by intro e; rw [e] at hMge; simp at hMge)
  obtain ⟨n, hn⟩ : ∃ n, M.length / 64 = n := ⟨_, rfl⟩
  obtain ⟨L, hL⟩ : ∃ L, M.length = L := ⟨_, rfl⟩
  have hMn : L = 64 * n := by omega
  rw [hL] at hcm ⊢
  have HMM := Lib.hid hM
  have HMN := Lib.hid hMn
  have HML := Lib.hid hL
  have bL : (L : Int) ≤ 200000 := by omega
  have HCM := Lib.hid hcm
  have HNB := Lib.hid (show n ≤ 2000 by have := HL.out; omega)
  have B2 := Lib.hid (B1.out.trans (hb2.mono B1.out.size))
  have Z2 := Lib.hid (Z1.out.next hb2)
  have K2 := Lib.hid (K1.out.next hb2)
  have RM2 := Lib.hid hrm
  have hbm2 : w.heap.size + 1 < bm := by omega
  have HSZ2 := Lib.hid hb2.size
  have bn : (n : Int) ≤ 2000 := by have := HNB.out; omega
  clear ho2 hb2 hrm hM hM64 hMge hMn hcm hL hn B1 Z1 K1 R1 hbm
  go_wp2_with fail
  go_loopw [5] (fun i wr => ∃ (j : Nat) (S : H8), i = .int .i64 ((64 * j : Nat) : Int) ∧ j ≤ n ∧ Hid (run ini M j = S) ∧ Hid (Blk wr w.heap.size 100 (zb 32)) ∧ Hid (Blk wr (w.heap.size + 1) 102 (wc S.toL)) ∧ Hid (Below w.heap.size w wr) ∧ Hid (wr.rangeAt bm 0 (bc M)))
    (fun i _ => L - (intOf i).toNat)
  case atStart => exact ⟨0, ini, rfl, Nat.zero_le _, rfl, Z2.out, K2.out, B2.out, RM2.out⟩
  case round =>
    clear Z2 K2 B2 RM2 hs1
    obtain ⟨j, S, rfl, hj, HS, H0, H1, HB, HRM⟩ := hrel
    by_cases hlt : j < n
    · obtain ⟨at0, hat⟩ : ∃ at0, 64 * j = at0 := ⟨_, rfl⟩
      rw [hat]
      have ba : (at0 : Int) < (L : Int) := by have h := HMN.out; omega
      have ba2 : (at0 : Int) + 64 ≤ (cm : Int) := by have h := HCM.out; have h2 := HMN.out; omega
      have ba4 : at0 + 64 ≤ L := by have h2 := HMN.out; omega
      have ba3 : (at0 : Int) ≤ 200000 := by omega
      have HAT := Lib.hid hat
      clear hat
      go_wp2_with fail
      obtain ⟨BL, hBL⟩ : ∃ BL, (M.drop at0).take 64 = BL := ⟨_, rfl⟩
      have hBLl : BL.length = 64 := by rw [← hBL, List.length_take, List.length_drop, HML.out]; omega
      have hrd : Rd wr (some ⟨bm, at0, none⟩) (bc BL) := fun _ => by
        refine ⟨bm, at0, rfl, fun k u hu => ?_⟩
        have h := HRM.out (at0 + k) u (by
          rw [← hBL, bc_take, bc_drop, List.getElem?_take] at hu
          split at hu
          · rwa [List.getElem?_drop] at hu
          · cases hu)
        rwa [Nat.zero_add] at h
      have HBL := Lib.hid hBL
      refine (words_any _ _ BL wr hBLl hrd).mono ?_
      rintro e w3 ⟨rfl, hb3⟩
      obtain ⟨ws, hws⟩ : ∃ ws, sch BL 64 = ws := ⟨_, rfl⟩
      have hwl : ws.length = 64 := by rw [← hws, sch_len]
      rw [hws]
      have HWS := Lib.hid hws
      have HWL := Lib.hid hwl
      have H03 := Lib.hid (H0.out.next hb3)
      have H13 := Lib.hid (H1.out.next hb3)
      have HB3 := Lib.hid (HB.out.trans (hb3.mono HB.out.size))
      have HRM3 := Lib.hid (range_below' HRM.out hb3)
      have hbm3 : bm < w3.heap.size := World.block_lt_of_cell? w3 _ (HRM3.out 0 _ (bc_at (by rw [HML.out]; omega)))
      have h13 : w.heap.size + 1 < w3.heap.size := H13.out.lt
      clear hBL hBLl hrd hb3 hws hwl H0 H1 HB HRM
      go_wp2_with (first | (refine wpList_var rfl rfl 130 6 rfl rfl rfl (.tmp 28) rfl (zw 64) (wc ws) w64_zero rfl rfl (by rw [wc_len, zw_len, HWL.out]) (by rw [w64_size, wc_len, HWL.out]) (wc_one _) ?_; intro w4 J4 D4; have H04 := Lib.hid (H03.out.next D4.out); have H14 := Lib.hid (H13.out.next D4.out); have HB4 := Lib.hid (HB3.out.trans (D4.out.mono HB3.out.size)); have HRM4 := Lib.hid (range_below' HRM3.out D4.out); have hs4 := J4.out.lt; clear H03 H13 HB3 HRM3 D4) | (refine wpList_load_all rfl _ (.tmp 3) rfl (w.heap.size + 1) _ (wc S.toL) _ rfl H14.out a8_under rfl (by rw [a8_size, wc_len, H8.toL_len]) ?_) | (refine wpList_var rfl rfl 102 7 rfl rfl rfl (.tmp 29) rfl (zw 8) (wc S.toL) a8_zero rfl rfl (by rw [wc_len, zw_len, H8.toL_len]) (by rw [a8_size, wc_len, H8.toL_len]) (wc_one _) ?_; intro w5 V5 D5; have H05 := Lib.hid (H04.out.next D5.out); have H15 := Lib.hid (H14.out.next D5.out); have HB5 := Lib.hid (HB4.out.trans (D5.out.mono HB4.out.size)); have HRM5 := Lib.hid (range_below' HRM4.out D5.out); have J5 := Lib.hid (J4.out.next D5.out); clear H04 H14 HB4 HRM4 D5 J4))
      obtain ⟨gw, hgw⟩ : ∃ gw, w3.heap.size = gw := ⟨_, rfl⟩
      obtain ⟨gv, hgv⟩ : ∃ gv, w4.heap.size = gv := ⟨_, rfl⟩
      rw [hgw] at J5 hs4 hbm3 h13 ⊢
      rw [hgv] at V5 hs4 ⊢
      clear hgw hgv
      go_loopw [8] (fun i wv => ∃ (t : Nat) (V : H8), i = .int .i64 t ∧ t ≤ 64 ∧ Hid (rounds ws S t = V) ∧ Hid (Blk wv gv 102 (wc V.toL)) ∧ Hid (Blk wv gw 130 (wc ws)) ∧ Hid (Blk wv w.heap.size 100 (zb 32)) ∧ Hid (Blk wv (w.heap.size + 1) 102 (wc S.toL)) ∧ Hid (Below w.heap.size w wv) ∧ Hid (wv.rangeAt bm 0 (bc M)))
        (fun i _ => 64 - (intOf i).toNat)
      case atStart => exact ⟨0, S, rfl, by omega, rfl, V5.out, J5.out, H05.out, H15.out, HB5.out, HRM5.out⟩
      case round =>
        clear V5 J5 H05 H15 HB5 HRM5
        obtain ⟨t, V, rfl, ht2, HV, HVB, HWB, H0, H1, HB, HRM⟩ := hrel
        by_cases htl : t < 64
        · have bt : (t : Int) < 64 := by omega
          obtain ⟨wt, hwt⟩ : ∃ wt, ws.getD t 0 = wt := ⟨_, rfl⟩
          obtain ⟨kt, hkt⟩ : ∃ kt, K.getD t 0 = kt := ⟨_, rfl⟩
          have ck : wr.cell? ⟨4, t, none⟩ = some (.int .u32 kt.toNat) := by
            rw [HB.out.cell (p := ⟨4, t, none⟩) hw0, ← hkt]
            exact rangeAt_at HTAB.out t htl
          have cw : wr.cell? ⟨gw, t, none⟩ = some (.int .u32 wt.toNat) := by
            rw [HWB.out.cell t, wc_at (by rw [HWL.out]; exact htl), ← hwt]
            simp [HWL.out, htl]
          have c0 : wr.cell? ⟨gv, 0, none⟩ = some (.int .u32 V.a.toNat) := HVB.out.cell 0
          have c1 : wr.cell? ⟨gv, 1, none⟩ = some (.int .u32 V.b.toNat) := HVB.out.cell 1
          have c2 : wr.cell? ⟨gv, 2, none⟩ = some (.int .u32 V.c.toNat) := HVB.out.cell 2
          have c3 : wr.cell? ⟨gv, 3, none⟩ = some (.int .u32 V.d.toNat) := HVB.out.cell 3
          have c4 : wr.cell? ⟨gv, 4, none⟩ = some (.int .u32 V.e.toNat) := HVB.out.cell 4
          have c5 : wr.cell? ⟨gv, 5, none⟩ = some (.int .u32 V.f.toNat) := HVB.out.cell 5
          have c6 : wr.cell? ⟨gv, 6, none⟩ = some (.int .u32 V.g.toNat) := HVB.out.cell 6
          have c7 : wr.cell? ⟨gv, 7, none⟩ = some (.int .u32 V.h.toNat) := HVB.out.cell 7
          have HR := Lib.hid (show rounds ws S (t + 1) = rnd V kt wt by rw [rounds_next, HV.out, hkt, hwt])
          clear hwt hkt
          go_wp2_with fail
          go_quiet ((go_at_call 99; exact Calls.quiet_of (rrot_z _ _ _ (by omega) (by omega))))
          simp only [xor_u32, and_u32, flip_u32, xsum_u32]
          generalize hX : V.h + (rotr V.e 6 ^^^ rotr V.e 11 ^^^ rotr V.e 25) + (V.e &&& V.f ^^^ ~~~V.e &&& V.g) + kt + wt = X
          have HX := Lib.hid hX
          clear hX ck cw c0 c1 c2 c3 c4 c5 c6 c7
          go_wp2_with fail
          refine wp_forget1 _ ?_
          intro w9 hw9
          have HVB9 := Lib.hid (show Blk w9 gv 102 (wc V.toL) by rw [hw9]; exact HVB.out)
          have HWB9 := Lib.hid (show Blk w9 gw 130 (wc ws) by rw [hw9]; exact HWB.out)
          have H09 := Lib.hid (show Blk w9 w.heap.size 100 (zb 32) by rw [hw9]; exact H0.out)
          have H19 := Lib.hid (show Blk w9 (w.heap.size + 1) 102 (wc S.toL) by rw [hw9]; exact H1.out)
          have HB9 := Lib.hid (show Below w.heap.size w w9 by rw [hw9]; exact drewN_below HB.out _)
          have HRM9 := Lib.hid (show w9.rangeAt bm 0 (bc M) by rw [hw9]; exact HRM.out)
          clear hw9 HVB HWB H0 H1 HB HRM
          have k0 : w9.cell? ⟨gv, 0, none⟩ = some (.int .u32 V.a.toNat) := HVB9.out.cell 0
          have k1 : w9.cell? ⟨gv, 1, none⟩ = some (.int .u32 V.b.toNat) := HVB9.out.cell 1
          have k2 : w9.cell? ⟨gv, 2, none⟩ = some (.int .u32 V.c.toNat) := HVB9.out.cell 2
          have k3 : w9.cell? ⟨gv, 3, none⟩ = some (.int .u32 V.d.toNat) := HVB9.out.cell 3
          have k4 : w9.cell? ⟨gv, 4, none⟩ = some (.int .u32 V.e.toNat) := HVB9.out.cell 4
          have k5 : w9.cell? ⟨gv, 5, none⟩ = some (.int .u32 V.f.toNat) := HVB9.out.cell 5
          have k6 : w9.cell? ⟨gv, 6, none⟩ = some (.int .u32 V.g.toNat) := HVB9.out.cell 6
          have k7 : w9.cell? ⟨gv, 7, none⟩ = some (.int .u32 V.h.toNat) := HVB9.out.cell 7
          go_quiet ((go_at_call 99; exact Calls.quiet_of (rrot_z _ _ _ (by omega) (by omega))))
          simp only [xor_u32, and_u32, add2m_u32]
          generalize hY : (rotr V.a 2 ^^^ rotr V.a 13 ^^^ rotr V.a 22) + (V.a &&& V.b ^^^ V.a &&& V.c ^^^ V.b &&& V.c) = Y
          have HY := Lib.hid hY
          clear hY k0 k1 k2 k3 k4 k5 k6 k7
          have HVBx := Lib.hid (HVB9.out.drewN nq)
          have HWBx := Lib.hid (HWB9.out.drewN nq)
          have H0x := Lib.hid (H09.out.drewN nq)
          have H1x := Lib.hid (H19.out.drewN nq)
          have HBx := Lib.hid (drewN_below HB9.out nq)
          have HRMx := Lib.hid (show (w9.drewN nq).rangeAt bm 0 (bc M) from HRM9.out)
          generalize w9.drewN nq = wx at HVBx HWBx H0x H1x HBx HRMx ⊢
          clear HVB9 HWB9 H09 H19 HB9 HRM9
          have k0 : wx.cell? ⟨gv, 0, none⟩ = some (.int .u32 V.a.toNat) := HVBx.out.cell 0
          have k1 : wx.cell? ⟨gv, 1, none⟩ = some (.int .u32 V.b.toNat) := HVBx.out.cell 1
          have k2 : wx.cell? ⟨gv, 2, none⟩ = some (.int .u32 V.c.toNat) := HVBx.out.cell 2
          have k3 : wx.cell? ⟨gv, 3, none⟩ = some (.int .u32 V.d.toNat) := HVBx.out.cell 3
          have k4 : wx.cell? ⟨gv, 4, none⟩ = some (.int .u32 V.e.toNat) := HVBx.out.cell 4
          have k5 : wx.cell? ⟨gv, 5, none⟩ = some (.int .u32 V.f.toNat) := HVBx.out.cell 5
          have k6 : wx.cell? ⟨gv, 6, none⟩ = some (.int .u32 V.g.toNat) := HVBx.out.cell 6
          have k7 : wx.cell? ⟨gv, 7, none⟩ = some (.int .u32 V.h.toNat) := HVBx.out.cell 7
          go_wp2_with (refine wpList_rebuild ⟨X + Y, V.a, V.b, V.c, V.d + X, V.e, V.f, V.g⟩ rfl rfl 117 7 rfl rfl (.tmp 100) (.tmp 102) (.tmp 104) (.tmp 106) (.tmp 110) (.tmp 112) (.tmp 114) (.tmp 116) rfl rfl ?q1 rfl rfl rfl ?q2 rfl rfl rfl gv V.toL (H8.toL_len V) rfl rfl HVBx.out ?_; rotate_left 2; intro wy HVBy hoy)
          have hv : (⟨X + Y, V.a, V.b, V.c, V.d + X, V.e, V.f, V.g⟩ : H8) = rnd V kt wt := by rw [← HX.out, ← HY.out]; rfl
          rw [hv] at HVBy
          clear hv k0 k1 k2 k3 k4 k5 k6 k7
          go_roundw
          case rel => exact ⟨t + 1, rnd V kt wt, by go_num, by omega, HR.out, HVBy.out, hoy.blk HWBx.out (by omega), hoy.blk H0x.out (by omega), hoy.blk H1x.out (by omega), HBx.out.trans (hoy.below (by omega)), range_only HRMx.out hoy (by omega)⟩
          case measure => simp [intOf]; omega
          all_goals (first | (simp only [add2m_u32]; done) | skip)
        · obtain rfl : t = 64 := by omega
          go_wp2_with fail
          rw [show ((64 : Nat) : Int) = 64 from rfl]
          go_loopw [11] (fun i wv => ∃ k : Nat, i = .int .i64 k ∧ k ≤ 8 ∧ Hid (Blk wv (w.heap.size + 1) 102 (wc (mix S V k))) ∧ Hid (Blk wv gv 102 (wc V.toL)) ∧ Hid (Blk wv w.heap.size 100 (zb 32)) ∧ Hid (Below w.heap.size w wv) ∧ Hid (wv.rangeAt bm 0 (bc M)))
            (fun i _ => 8 - (intOf i).toNat)
          case atStart => exact ⟨0, rfl, by omega, H1.out, HVB.out, H0.out, HB.out, HRM.out⟩
          case round =>
            clear HVB HWB H0 H1 HB HRM
            obtain ⟨k, rfl, hk, H1, HVB, H0, HB, HRM⟩ := hrel
            by_cases hkl : k < 8
            · have bk : (k : Int) < 8 := by omega
              go_wp2_with fail
              refine wp_still_tail 9 (by kernel_rfl) (by kernel_rfl) ?_
              have P1 := Lib.hid H1.out.drew
              have PV := Lib.hid HVB.out.drew
              have P0 := Lib.hid H0.out.drew
              have PB := Lib.hid HB.out.drew
              have PR := Lib.hid (show wr.drew.rangeAt bm 0 (bc M) from HRM.out)
              clear H1 HVB H0 HB HRM
              generalize wr.drew = w8 at P1 PV P0 PB PR ⊢
              have d0 := (P1.out.cell k).trans (mix_at S V k hkl)
              have d5 := (PV.out.cell k).trans (toL_at V k hkl)
              obtain ⟨x, hx⟩ : ∃ x, S.toL.getD k 0 = x := ⟨_, rfl⟩
              obtain ⟨y, hy⟩ : ∃ y, V.toL.getD k 0 = y := ⟨_, rfl⟩
              rw [hx] at d0
              rw [hy] at d5
              have e0 : w8.frozen? ⟨w.heap.size + 1, k, none⟩ = false := P1.out.frozen k
              have hs8 : w.heap.size + 1 < w8.heap.size := P1.out.lt
              have HX := Lib.hid hx
              have HY := Lib.hid hy
              clear hx hy
              simp only [List.take_succ_cons, List.take_zero, List.drop_succ_cons, List.drop_zero]
              repeat still_step
              refine wpStill_nil ?_
              go_wp2
              go_roundw
              case rel =>
                have hv := P1.out.set_ k (.int .u32 (S.toL.getD k 0 + V.toL.getD k 0).toNat)
                rw [mix_step S V k hkl, HX.out, HY.out, ← add2m_u32] at hv
                exact ⟨k + 1, by go_num, by omega, hv, PV.out.far (p := ⟨w.heap.size + 1, k, none⟩) (by show gv ≠ w.heap.size + 1; omega) _,
                  P0.out.far (p := ⟨w.heap.size + 1, k, none⟩) (by show w.heap.size ≠ w.heap.size + 1; omega) _, PB.out.setCell (p := ⟨w.heap.size + 1, k, none⟩) (by show w.heap.size ≤ w.heap.size + 1; omega) _,
                  fun j v hv => by
                    rw [World.cell?_setCell_other _ _ _ _ (by intro e; injection e with e1; omega)]
                    exact PR.out j v hv⟩
              case measure => simp [intOf]; omega
            · obtain rfl : k = 8 := by omega
              have hm : mix S V 8 = (run ini M (j + 1)).toL := by
                show (addH S V).toL = _
                rw [run, HS.out, HAT.out, HBL.out]
                unfold compress
                rw [HWS.out, HV.out]
              have h1 := H1.out
              rw [hm] at h1
              have H1' := Lib.hid h1
              clear h1 hm H1
              go_wp2
              go_roundw
              case rel => exact ⟨j + 1, run ini M (j + 1), by have h := HAT.out; go_num, by omega, rfl, H0.out, H1'.out, HB.out, HRM.out⟩
              case measure => have h := HMN.out; simp [intOf]; omega
    · obtain rfl : j = n := by omega
      have hfin : (Hm.sum m) = S.bytes := by
        unfold Hm.sum
        rw [HMM.out, HML.out, show L / 64 = j from by have := HMN.out; omega, HS.out]
      have HF := Lib.hid hfin
      have hn1 : (64 * j : Nat) = L := HMN.out.symm
      rw [hn1]
      clear hn1 hfin
      go_wp2_with (refine wpList_alloc_zero rfl 100 rfl (zb 32) a32_zero ?_)
      have O0 := Lib.hid (Blk.new wr 100 (zb 32))
      have Z0 := Lib.hid (H0.out.alloc (.cells (zb 32).toArray 100))
      have S0 := Lib.hid (H1.out.alloc (.cells (zb 32).toArray 100))
      have B0 := Lib.hid (HB.out.alloc HB.out.size (.cells (zb 32).toArray 100))
      have hsr : w.heap.size + 1 < wr.heap.size := H1.out.lt
      obtain ⟨go, hgo⟩ : ∃ go, wr.heap.size = go := ⟨_, rfl⟩
      rw [hgo] at O0 hsr ⊢
      clear HS H0 H1 HB HRM hgo
      go_loopw [13] (fun i wv => ∃ k : Nat, i = .int .i64 k ∧ k ≤ 32 ∧ Hid (Blk wv go 100 (bc (S.bytes.take k) ++ zb (32 - k))) ∧ Hid (Blk wv w.heap.size 100 (zb 32)) ∧ Hid (Blk wv (w.heap.size + 1) 102 (wc S.toL)) ∧ Hid (Below w.heap.size w wv))
        (fun i _ => 32 - (intOf i).toNat)
      case atStart => exact ⟨0, rfl, by omega, O0.out, Z0.out, S0.out, B0.out⟩
      case round =>
        clear O0 Z0 S0 B0
        obtain ⟨k, rfl, hk, HO, H0, H1, HB⟩ := hrel
        by_cases hkl : k < 32
        · obtain ⟨q, hq⟩ : ∃ q, k / 4 = q := ⟨_, rfl⟩
          obtain ⟨r, hr⟩ : ∃ r, k % 4 = r := ⟨_, rfl⟩
          obtain ⟨sh, hsh⟩ : ∃ sh, 24 - 8 * r = sh := ⟨_, rfl⟩
          have eq1 : (k : Int) / 4 = (q : Int) := by omega
          have eq2 : (k : Int) % 4 = (r : Int) := by omega
          have eq3 : (24 : Int) - 8 * (r : Int) = (sh : Int) := by omega
          have bq : (q : Int) < 8 := by omega
          have br : (r : Int) ≤ 3 := by omega
          have bs : (sh : Int) ≤ 24 := by omega
          have bk : (k : Int) < 32 := by omega
          obtain ⟨x, hx⟩ : ∃ x, S.toL.getD q 0 = x := ⟨_, rfl⟩
          have cx : wr.cell? ⟨w.heap.size + 1, q, none⟩ = some (.int .u32 x.toNat) := by
            rw [H1.out.cell q, ← hx]
            exact toL_at S q (by omega)
          have hb := bytes_at S k hkl
          rw [hq, hr, hsh, hx] at hb
          have hfill := bytes_fill S k _ hkl hb
          have HFILL := Lib.hid hfill
          have hc : wr.cell? ⟨go, k, none⟩ = some (.int .u8 0) := by
            have hl : (bc (S.bytes.take k)).length = k := by rw [bc_len, List.length_take]; have := S.bytes_len; omega
            rw [HO.out.cell k, List.getElem?_append_right (by omega), hl, Nat.sub_self]
            obtain ⟨e, he⟩ : ∃ e, 32 - k = e + 1 := ⟨31 - k, by omega⟩
            rw [he]; rfl
          have hf : wr.frozen? ⟨go, k, none⟩ = false := HO.out.frozen k
          have hsz : go < wr.heap.size := HO.out.lt
          clear hq hr hsh hx hb hfill
          go_wp2
          have eb : ((x.toNat : Int) / 2 ^ sh % 256) = ((UInt8.ofNat (x.toNat / 2 ^ sh)).toNat : Int) := by
            rw [UInt8.toNat_ofNat']; simp
          rw [eb]
          go_roundw
          case rel =>
            have hv := HO.out.set_ k (.int .u8 (UInt8.ofNat (x.toNat / 2 ^ sh)).toNat)
            rw [HFILL.out] at hv
            exact ⟨k + 1, by go_num, by omega, hv, H0.out.far (p := ⟨go, k, none⟩) (by show w.heap.size ≠ go; omega) _, H1.out.far (p := ⟨go, k, none⟩) (by show w.heap.size + 1 ≠ go; omega) _, HB.out.setCell (p := ⟨go, k, none⟩) (by show w.heap.size ≤ go; omega) _⟩
          case measure => simp [intOf]; omega
        · obtain rfl : k = 32 := by omega
          have ho := HO.out
          rw [List.take_of_length_le (by have := S.bytes_len; omega), show zb (32 - 32) = [] from rfl, List.append_nil, ← HF.out] at ho
          have HOF := Lib.hid ho
          clear ho HO
          go_wp2_with (first | (refine wpList_load_all rfl _ (.tmp 12) rfl go _ (bc (Hm.sum m)) _ rfl HOF.out a32_under rfl (by rw [a32_size, bc_len, sum_len]) ?_) | (refine wpList_store_all rfl _ (.tmp 2) (.tmp 147) rfl w.heap.size _ (zb 32) (bc (Hm.sum m)) rfl rfl H0.out (by rw [bc_len, zb_len, sum_len]) (by rw [a32_size, bc_len, sum_len]) (bc_one _) ?_; intro w3 HB3 ho3))
          exact bodyPost_ret (results_blk rfl _ _ w.heap.size _ (bc (Hm.sum m)) _ rfl HB3.out a32_under rfl (by rw [a32_size, bc_len, sum_len])) rfl ⟨rfl, HB.out.trans (ho3.below (Nat.le_refl _))⟩
end Go.Proofs.YtfbemmeonkceiaaDoor

/- The reference's block of a key, combined blocks and keyed hash. -/
namespace Go.Proofs.YtfbemmeonkceiaaDoor
open Go.RowKit Hm Wm

/-- An own row of bytes whose mark, if it bears one, lies behind its cells. -/
def OwnF (w : World) (base : Nat) (v : Value) (l : List UInt8) : Prop :=
  ∃ g cap cur fr, v = .slice (some ⟨g, 0, none⟩) l.length cap ∧ base ≤ g ∧ w.heap[g]? = some (.cells cur 5 fr) ∧ (fr.2 ≤ fr.1 ∨ cur.size ≤ fr.1) ∧ l.length ≤ cap ∧ cap ≤ maxLen ∧ cur.size = cap ∧ cur.toList.take l.length = bc l
theorem OwnF.next {w w' : World} {base : Nat} {v : Value} {l : List UInt8} (h : OwnF w base v l) (hb : Below w.heap.size w w') : OwnF w' base v l := by
  obtain ⟨g, cap, cur, fr, hv, hg, hh, rest⟩ := h
  exact ⟨g, cap, cur, fr, hv, hg, (hb.block g (Array.getElem?_eq_some_iff.1 hh).1).trans hh, rest⟩
theorem OwnF.out {w : World} {base : Nat} {v : Value} {l : List UInt8} (h : OwnF w base v l) : ∃ A c, v = .slice A l.length c ∧ Rd w A (bc l) ∧ l.length ≤ c := by
  obtain ⟨g, cap, cur, fr, rfl, _, hh, _, hle, _, hs, ht⟩ := h
  refine ⟨_, cap, rfl, fun _ => ⟨g, 0, rfl, fun k u hu => ?_⟩, hle⟩
  rw [cell_of_row w g (0 + k) cur _ fr hh, Nat.zero_add, ← Array.getElem?_toList]
  rw [← ht, List.getElem?_take] at hu
  split at hu
  · exact hu
  · cases hu
theorem run_pushF {w : World} (ty : TypeId) (base : Nat) (v : Value) (l : List UInt8) (h : OwnF w base v l) (b : UInt8) (hb : base ≤ w.heap.size) (hl : l.length ≤ 1000000) :
    ∃ v' w', (Builtin.append_ #[75, 75] ty #[v, .slice (some ⟨w.heap.size, 0, none⟩) 1 1]).run Tryd.prog (w.alloc (.cells #[.int .u8 b.toNat] 5)) = .ok v' w' ∧ OwnF w' base v' (l ++ [b]) ∧ Below base w w' := by
  obtain ⟨i0, hi, hz0, hz1, hz2⟩ := info_parts u8_info
  obtain ⟨g, cap, cur, fr, rfl, hg, hh, hfr, hle, hm, hs, ht⟩ := h
  have hu : Tryd.prog.underlying 75 = some (.slice 5) := Tryd.underlying75
  have hlt : g < w.heap.size := (Array.getElem?_eq_some_iff.1 hh).1
  obtain ⟨wa, hwa⟩ : ∃ wa, w.alloc (.cells #[.int .u8 b.toNat] 5) = wa := ⟨_, rfl⟩
  have hha : wa.heap[g]? = some (.cells cur 5 fr) := by rw [← hwa]; exact (Below.heap_alloc w _ g hlt).trans hh
  have hcn : wa.cell? ⟨w.heap.size, 0, none⟩ = some (.int .u8 b.toNat) := by rw [← hwa, cell_of_row _ w.heap.size 0 _ _ (0, 0) (heap_alloc_new w _)]; rfl
  have hnews : ∀ j u, [Value.int .u8 b.toNat][j]? = some u → wa.cell? ((⟨w.heap.size, 0, none⟩ : Addr).add j) = some u := by
    intro j u hj
    rcases j with _ | j
    · rw [Addr.add_mid, Nat.zero_add, hcn]; simpa using hj
    · simp at hj
  have hone : ∀ u ∈ [Value.int .u8 b.toNat], u.oneCell' = true := by intro u hu; simp at hu; subst hu; rfl
  have hba : Below base w wa := by rw [← hwa]; exact (Below.refl base w).alloc hb _
  have hsa : wa.heap.size = w.heap.size + 1 := by rw [← hwa]; simp
  rw [hwa]
  by_cases hroom : l.length + 1 ≤ cap
  · have hsrc : Src Tryd.prog i0.size 75 (.slice (some ⟨w.heap.size, 0, none⟩) 1 1) 1 [.int .u8 b.toNat] wa := Src.ofSlice wa hu ⟨w.heap.size, 0, none⟩ 1 1 _ (by rw [hz1]; rfl) hnews hone
    have hrun := run_append_room_src (P := Tryd.prog) wa 75 75 ty 5 i0 hu hi g 0 l.length cap _ 1 _ hsrc hroom
      (by
        intro j hj
        simp at hj
        subst hj
        rw [hz1, cell_of_row wa g _ cur _ fr hha]
        simp; omega)
      (by
        intro j hj
        simp at hj
        subst hj
        rw [hz1]
        simp [World.frozen?, hha]
        omega)
    rw [hz1, Nat.zero_add, Nat.mul_one] at hrun
    have hset : wa.setCells g l.length [.int .u8 b.toNat] = wa.setCell ⟨g, l.length, none⟩ (.int .u8 b.toNat) := rfl
    rw [hset] at hrun
    refine ⟨_, _, hrun, ⟨g, cap, cur.setIfInBounds l.length (.int .u8 b.toNat), fr, by rw [List.length_append]; rfl, hg, ?_, by rw [Array.size_setIfInBounds]; exact hfr, by rw [List.length_append]; exact hroom, hm, by rw [Array.size_setIfInBounds]; exact hs, ?_⟩, hba.setCell (p := ⟨g, l.length, none⟩) hg _⟩
    · simp [World.setCell, Array.getElem?_modify, hha]
    · rw [Array.toList_setIfInBounds, List.length_append, bc_app, ← ht]
      have hlc : l.length < cur.toList.length := by simp; omega
      show (cur.toList.set l.length _).take (l.length + 1) = _
      rw [List.take_succ_eq_append_getElem (by simp; omega), List.take_set_of_le (Nat.le_refl _)]
      simp [bc]
  · have holds : ∀ j u, (bc l)[j]? = some u → wa.cell? ((⟨g, 0, none⟩ : Addr).add j) = some u := by
      intro j u hj
      rw [Addr.add_mid, Nat.zero_add, cell_of_row wa g j cur _ fr hha, ← Array.getElem?_toList]
      rw [← ht, List.getElem?_take] at hj
      split at hj
      · exact hj
      · cases hj
    have hrun := run_append_grow (P := Tryd.prog) wa 75 ty 5 i0 _ hu hi hz0 ⟨g, 0, none⟩ l.length cap (bc l) (by rw [bc_len, hz1, Nat.mul_one]) holds ⟨w.heap.size, 0, none⟩ 1 1 [.int .u8 b.toNat] (by rw [hz1]; rfl) hnews (by omega) (by omega) (growslice_fits (by omega) (by rw [hz2]; omega))
    have hge := grownCap_ge wa (l.length + 1) cap 5
    have hcm := grownCap_le_maxLen wa (l.length + 1) cap 5 (by unfold maxLen; omega)
    refine ⟨_, _, hrun, ⟨wa.heap.size, _, _, (0, 0), by rw [List.length_append]; rfl, by omega, heap_alloc_new wa.drew _, Or.inl (Nat.le_refl _), by rw [List.length_append]; exact hge, hcm, ?_, ?_⟩, ?_⟩
    · simp [size_zeroCells, Value.cells, bc_len]; omega
    · simp only [Array.toList_append, List.append_assoc]
      rw [← List.append_assoc, List.length_append]
      show List.take _ ((bc l ++ bc [b]) ++ _) = _
      rw [← bc_app, List.take_append_of_le_length (by rw [bc_len, List.length_append]; exact Nat.le_refl _), List.take_of_length_le (by rw [bc_len, List.length_append]; exact Nat.le_refl _)]
    · exact (hba.drew).alloc (by show base ≤ wa.heap.size; omega) _
theorem wpList_pushF {w : World} {ops : Array Oper} {rest : List Oper} {o : Oper} {a : Act} {Q : Exit → Act → World → Prop} (hgd : o.guard = none) (s x : Operand)
    (ho : o.op = .call { callee := .builtin .append, args := #[s, x], argTypes := #[75, 75] })
    (base : Nat) (v : Value) (l : List UInt8) (hs : a.eval s = v) (hown : OwnF w base v l) (u : Int) (b : UInt8) (hu : u = b.toNat) (hb : base ≤ w.heap.size) (hl : l.length ≤ 1000000)
    (hx : a.eval x = .slice (some ⟨w.heap.size, 0, none⟩) 1 1)
    (h : ∀ v' w', OwnF w' base v' (l ++ [b]) → Below base w w' → wpList Tryd.prog ops Q rest (a.put o.dst v') w') :
    wpList Tryd.prog ops Q (o :: rest) a (w.alloc (.cells #[.int .u8 u] 5)) := by
  subst hu
  obtain ⟨v', w', hrun, h1, h2⟩ := run_pushF o.type base v l hown b hb hl
  refine wpList_plain hgd fun K hK => ?_
  unfold Oper.wp execOp
  simp only [ho, resolve, invoke, builtin, Sem.run_bind, Sem.run_pure, Result.andThen_ok, List.map_toArray, List.map_cons, List.map_nil, hs, hx, hrun]
  exact hK _ _ (h v' w' h1 h2)
/-- A string turned into bytes: what the call owns. -/
theorem run_bytesF (w : World) (s : ByteArray) (hs : s.size ≤ 1000000) : ∃ v w', (convert 9 75 (.string s)).run Tryd.prog w = .ok v w' ∧ OwnF w' w.heap.size v s.data.toList ∧ Below w.heap.size w w' := by
  have hl : s.data.toList.length = s.size := Array.length_toList
  have hge := grownCap_ge w s.size 0 5
  refine ⟨.slice (some ⟨w.heap.size, 0, none⟩) s.size (grownCap w s.size 0 5), Lib.bytesWorld w 5 s, Lib.run_convert_string_bytes w 9 75 5 s Tryd.underlying9 Tryd.underlying75 Tryd.underlying5, ?_, ?_⟩
  · refine ⟨w.heap.size, grownCap w s.size 0 5, Lib.bytesCells w 5 s, _, by rw [hl], Nat.le_refl _, Lib.bytesWorld_at_new w _ s, Or.inr (Nat.le_refl _), by rw [hl]; exact hge, grownCap_le_maxLen w s.size 0 5 (by unfold maxLen; omega), ?_, ?_⟩
    · have : s.data.size = s.size := rfl
      simp [Lib.bytesCells]; omega
    · simp only [Lib.bytesCells, Array.toList_append, Array.toList_map]
      rw [List.take_append_of_le_length (by simp), List.take_of_length_le (by simp)]
      rfl
  · exact ⟨rfl, rfl, rfl, by rw [Lib.bytesWorld_size]; omega, fun j hj => Lib.bytesWorld_at_old w _ s j hj⟩
theorem wpList_bytesF {w : World} {ops : Array Oper} {rest : List Oper} {o : Oper} {a : Act} {Q : Exit → Act → World → Prop} (hw : Region.wanted o (yielded ops a.tmps) = true) (x : Operand) (ho : o.op = .convert 9 75 x) (s : ByteArray) (hx : a.eval x = .string s) (hs : s.size ≤ 1000000)
    (h : ∀ v w', OwnF w' w.heap.size v s.data.toList → Below w.heap.size w w' → wpList Tryd.prog ops Q rest (a.put o.dst v) w') : wpList Tryd.prog ops Q (o :: rest) a w := by
  obtain ⟨v, w', hr, h1, h2⟩ := run_bytesF w s hs
  refine wpList_want hw fun K hK => ?_
  unfold Oper.wp execOp
  simp only [ho, hx, Sem.run_bind, hr, Result.andThen_ok]
  exact hK _ _ (h v w' h1 h2)
end Go.Proofs.YtfbemmeonkceiaaDoor

/- The reference's block of a key, combined blocks and keyed hash. -/
namespace Go.Proofs.YtfbemmeonkceiaaDoor
open Go.RowKit Hm Wm

end Go.Proofs.YtfbemmeonkceiaaDoor

/- The reference's Hmac, Short, Of, Mac. -/
namespace Go.Proofs.YtfbemmeonkceiaaDoor
open Go.RowKit Hm Wm

theorem dig_fill (h : List UInt8) (k : Nat) (b : UInt8) (hl : h.length = 32) (hk : k < 16) (hb : h[k]? = some b) : (bc (h.take k) ++ zb (16 - k)).set k (.int .u8 b.toNat) = bc (h.take (k + 1)) ++ zb (16 - (k + 1)) := by
  obtain ⟨h1, h2⟩ := List.getElem?_eq_some_iff.1 hb
  have hl2 : (bc (h.take k)).length = k := by rw [bc_len, List.length_take]; omega
  obtain ⟨e, he⟩ : ∃ e, 16 - k = e + 1 := ⟨15 - k, by omega⟩
  rw [List.set_append_right _ _ (by omega), hl2, Nat.sub_self, he, show 16 - (k + 1) = e from by omega, List.take_succ_eq_append_getElem h1, bc_app, h2, List.append_assoc]
  rfl

set_option maxRecDepth 100000 in
set_option maxHeartbeats 1000000 in
theorem rshort_any (A : Option Addr) (c : Nat) (m : List UInt8) (w : World) (hr : Rd w A (bc m)) (hl : m.length ≤ 100000) (ht : w.rangeAt 4 0 (wc K)) :
    Calls Tryd.prog 68 #[.slice A m.length c] w fun e w' => e = .returned (.agg (bc ((Hm.sum m).take 16)).toArray) ∧ Below w.heap.size w w' := by
  have hb := (Below.refl w.heap.size w).alloc (Nat.le_refl _) (.cells (zb 16).toArray 31)
  have HB0 := Lib.hid hb
  have HZ0 := Lib.hid (Blk.new w 31 (zb 16))
  have HT := Lib.hid (range_below' ht hb)
  have HR := Lib.hid (hr.below hb)
  have HML := Lib.hid hl
  clear hb ht hr hl
  go_enter Tryd.func68, Tryd.ntmps68
  go_wp2_with (refine wpList_alloc_zero rfl 31 rfl (zb 16) dg_zero ?_)
  refine (rsum_any A c m _ HR.out HML.out HT.out).mono ?_
  rintro e w1 ⟨rfl, hb1⟩
  obtain ⟨h, hh⟩ : ∃ h, Hm.sum m = h := ⟨_, rfl⟩
  have hl : h.length = 32 := by rw [← hh, sum_len]
  rw [hh]
  have HH := Lib.hid hh
  have HL := Lib.hid hl
  have B1 := Lib.hid (HB0.out.trans (hb1.mono HB0.out.size))
  have Z1 := Lib.hid (HZ0.out.next hb1)
  have hs1 : w.heap.size < w1.heap.size := Z1.out.lt
  clear hb1 hh hl HB0 HZ0 HR HT
  go_wp2_with (first | (refine wpList_var rfl rfl 100 3 rfl rfl rfl (.tmp 7) rfl (zb 32) (bc h) a32_zero rfl rfl (by rw [bc_len, zb_len, HL.out]) (by rw [a32_size, bc_len, HL.out]) (bc_one _) ?_; intro w2 K2 D2; have B2 := Lib.hid (B1.out.trans (D2.out.mono B1.out.size)); have Z2 := Lib.hid (Z1.out.next D2.out); have hs2 := K2.out.lt; clear B1 Z1 D2) | (refine wpList_var rfl rfl 31 4 rfl rfl rfl (.tmp 8) rfl (zb 16) (zb 16) dg_zero rfl rfl rfl (by rw [dg_size, zb_len]) (by intro v hv; exact bc_one _ v hv) ?_; intro w3 JO D3; have JB := Lib.hid (B2.out.trans (D3.out.mono B2.out.size)); have JR := Lib.hid (Z2.out.next D3.out); have JH := Lib.hid (K2.out.next D3.out); clear B2 Z2 K2 D3))
  obtain ⟨gh, hgh⟩ : ∃ gh, w1.heap.size = gh := ⟨_, rfl⟩
  obtain ⟨go, hgo⟩ : ∃ go, w2.heap.size = go := ⟨_, rfl⟩
  rw [hgh] at JH hs1 hs2 ⊢
  rw [hgo] at JO hs2 ⊢
  clear hgh hgo
  go_loopw [5] (fun i wr => ∃ k : Nat, i = .int .i64 k ∧ k ≤ 16 ∧ Hid (Blk wr go 31 (bc (h.take k) ++ zb (16 - k))) ∧ Hid (Blk wr gh 100 (bc h)) ∧ Hid (Blk wr w.heap.size 31 (zb 16)) ∧ Hid (Below w.heap.size w wr))
    (fun i _ => 16 - (intOf i).toNat)
  case atStart => exact ⟨0, rfl, by omega, JO.out, JH.out, JR.out, JB.out⟩
  case round =>
    clear JO JH JR JB
    obtain ⟨k, rfl, hk, HO, HHB, HR0, HB⟩ := hrel
    by_cases hlt : k < 16
    · have bk : (k : Int) < 16 := by omega
      have bk2 : (k : Int) < 32 := by omega
      obtain ⟨x, hx⟩ : ∃ x, h[k]? = some x := ⟨h[k]'(by rw [HL.out]; omega), List.getElem?_eq_getElem _⟩
      have HFILL := Lib.hid (dig_fill h k x HL.out hlt hx)
      have HX := Lib.hid hx
      clear hx
      have ch : wr.cell? ⟨gh, k, none⟩ = some (.int .u8 x.toNat) := by rw [HHB.out.cell k]; have := HX.out; simp [bc, this]
      have co : wr.cell? ⟨go, k, none⟩ = some (.int .u8 0) := by
        have hl : (bc (h.take k)).length = k := by rw [bc_len, List.length_take, HL.out]; omega
        rw [HO.out.cell k, List.getElem?_append_right (by omega), hl, Nat.sub_self]
        obtain ⟨e, he⟩ : ∃ e, 16 - k = e + 1 := ⟨15 - k, by omega⟩
        rw [he]; rfl
      have cf : wr.frozen? ⟨go, k, none⟩ = false := HO.out.frozen k
      have cs : go < wr.heap.size := HO.out.lt
      go_wp2
      go_roundw
      case rel =>
        have hv := HO.out.set_ k (.int .u8 x.toNat)
        rw [HFILL.out] at hv
        exact ⟨k + 1, by go_num, by omega, hv, HHB.out.far (p := ⟨go, k, none⟩) (by show gh ≠ go; omega) _, HR0.out.far (p := ⟨go, k, none⟩) (by show w.heap.size ≠ go; omega) _, HB.out.setCell (p := ⟨go, k, none⟩) (by show w.heap.size ≤ go; omega) _⟩
      case measure => simp [intOf]; omega
    · obtain rfl : k = 16 := by omega
      have ho := HO.out
      rw [show zb (16 - 16) = [] from rfl, List.append_nil] at ho
      obtain ⟨dg, hdg⟩ : ∃ dg, h.take 16 = dg := ⟨_, rfl⟩
      rw [hdg] at ho
      have hdl : dg.length = 16 := by rw [← hdg, List.length_take, HL.out]; rfl
      have HOF := Lib.hid ho
      have HDL := Lib.hid hdl
      have HDG := Lib.hid hdg
      clear ho HO hdl hdg
      go_wp2_with (first | (refine wpList_load_all rfl _ (.tmp 4) rfl go _ (bc dg) _ rfl HOF.out dg_under rfl (by rw [dg_size, bc_len, HDL.out]) ?_) | (refine wpList_store_all rfl _ (.tmp 2) (.tmp 18) rfl w.heap.size _ (zb 16) (bc dg) rfl rfl HR0.out (by rw [bc_len, zb_len, HDL.out]) (by rw [dg_size, bc_len, HDL.out]) (bc_one _) ?_; intro w3 HB3 ho3))
      exact bodyPost_ret (results_blk rfl _ _ w.heap.size _ (bc dg) _ rfl HB3.out dg_under rfl (by rw [dg_size, bc_len, HDL.out])) rfl ⟨by rw [HH.out, HDG.out], HB.out.trans (ho3.below (Nat.le_refl _))⟩

set_option maxRecDepth 100000 in
set_option maxHeartbeats 1000000 in
theorem rof_any (tag : Int) (A : Option Addr) (c : Nat) (ss : List ByteArray) (w : World) (hr : Rd w A (ss.map Value.string)) (h12 : ss.length ≤ 12) (hs : ∀ s ∈ ss, s.size ≤ 400) (ht : w.rangeAt 4 0 (wc K)) :
    Calls Tryd.prog 40 #[.int .i64 tag, .slice A ss.length c] w fun e w' => e = .returned (.agg (bc ((Hm.sum (tagB tag :: encP ss)).take 16)).toArray) ∧ Below w.heap.size w w' := by
  have hb := (Below.refl w.heap.size w).alloc (Nat.le_refl _) (.cells (zb 16).toArray 31)
  have HB0 := Lib.hid hb
  have HZ0 := Lib.hid (Blk.new w 31 (zb 16))
  have HT := Lib.hid ht
  have HR := Lib.hid (hr.below hb)
  have HSS := Lib.hid hs
  have H12 := Lib.hid h12
  clear hb ht hr hs
  go_enter Tryd.func40, Tryd.ntmps40
  go_wp2_with (refine wpList_alloc_zero rfl 31 rfl (zb 16) dg_zero ?_)
  refine (input_any tag A c ss _ HR.out H12.out HSS.out).mono ?_
  rintro e w1 ⟨v1, rfl, ho1, hb1⟩
  obtain ⟨X, hX⟩ : ∃ X, tagB tag :: encP ss = X := ⟨_, rfl⟩
  rw [hX] at ho1
  obtain ⟨A1, c1, rfl, hr1, _⟩ := own_out ho1
  have HXL := Lib.hid (show X.length ≤ 100000 by rw [← hX, List.length_cons]; have h1 := encP_len ss HSS.out; have h2 := H12.out; omega)
  have B1 := Lib.hid (HB0.out.trans (hb1.mono HB0.out.size))
  have Z1 := Lib.hid (HZ0.out.next hb1)
  have R1 := Lib.hid hr1
  have HX := Lib.hid hX
  clear ho1 hr1 hb1 hX HB0 HZ0 HR
  go_wp2_with fail
  refine (rshort_any A1 c1 X w1 R1.out HXL.out (range_below' HT.out B1.out)).mono ?_
  rintro e w2 ⟨rfl, hb2⟩
  obtain ⟨d, hd⟩ : ∃ d, (Hm.sum X).take 16 = d := ⟨_, rfl⟩
  have hdl : d.length = 16 := by rw [← hd, List.length_take, sum_len]; rfl
  rw [hd]
  have HD := Lib.hid hd
  have HDL := Lib.hid hdl
  have B2 := Lib.hid (B1.out.trans (hb2.mono B1.out.size))
  have Z2 := Lib.hid (Z1.out.next hb2)
  clear hb2 hd hdl B1 Z1 R1
  go_wp2_with (refine wpList_store_all rfl _ (.tmp 4) (.tmp 8) rfl w.heap.size _ (zb 16) (bc d) rfl rfl Z2.out (by rw [bc_len, zb_len, HDL.out]) (by rw [dg_size, bc_len, HDL.out]) (bc_one _) ?_; intro w3 HB3 ho3)
  exact bodyPost_ret (results_blk rfl _ _ w.heap.size _ (bc d) _ rfl HB3.out dg_under rfl (by rw [dg_size, bc_len, HDL.out])) rfl ⟨by rw [HX.out, HD.out], B2.out.trans (ho3.below (Nat.le_refl _))⟩

end Go.Proofs.YtfbemmeonkceiaaDoor
