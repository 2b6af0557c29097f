/- Encodings of different parts differ; contracts of the reference's Same, Input, Message, and of the law's clash. -/
import Derived.Test.YtoendbdpkkjjkaaDoorHFew
import Derived.Test.YtoendbdpkkjjkaaDoorHRefE
import Derived.Deep.QuietTactic
import Derived.BigQuiet
namespace Go.Proofs.YtoendbdpkkjjkaaDoor
open Go.RowKit Hm Wm

theorem encB_cancel {x y p q : List UInt8} (hx : x.length ≤ 1000000) (hy : y.length ≤ 1000000) (h : encB x ++ p = encB y ++ q) : x = y ∧ p = q := by
  unfold encB at h
  rw [List.append_assoc, List.append_assoc] at h
  have e1 := gi_enc (n := (x.length : Int)) (by omega) (by omega) (x ++ p)
  rw [h, gi_enc (n := (y.length : Int)) (by omega) (by omega) (y ++ q)] at e1
  have hl : x.length = y.length := by injection e1 with e1 _; omega
  rw [hl] at h
  exact List.append_inj (List.append_cancel_left h) hl
theorem encP_inj : ∀ (a b : List ByteArray), (∀ s ∈ a, s.size ≤ 400) → (∀ s ∈ b, s.size ≤ 400) → encP a = encP b → a = b
  | [], [], _, _, _ => rfl
  | [], s :: r, _, _, h => by
    have : encP (s :: r) = encB s.data.toList ++ encP r := rfl
    rw [this] at h
    have h1 := congrArg List.length h
    have h2 := enc_pos (s.data.toList.length : Int)
    have h3 : (encP []).length = 0 := rfl
    rw [List.length_append, encB_len, h3] at h1
    omega
  | s :: r, [], _, _, h => by
    have : encP (s :: r) = encB s.data.toList ++ encP r := rfl
    rw [this] at h
    have h1 := congrArg List.length h
    have h2 := enc_pos (s.data.toList.length : Int)
    have h3 : (encP []).length = 0 := rfl
    rw [List.length_append, encB_len, h3] at h1
    omega
  | s :: r, s' :: r', ha, hb, h => by
    have e1 : encP (s :: r) = encB s.data.toList ++ encP r := rfl
    have e2 : encP (s' :: r') = encB s'.data.toList ++ encP r' := rfl
    rw [e1, e2] at h
    have l1 : s.data.toList.length = s.size := Array.length_toList
    have l2 : s'.data.toList.length = s'.size := Array.length_toList
    have b1 := ha s List.mem_cons_self
    have b2 := hb s' List.mem_cons_self
    obtain ⟨h1, h2⟩ := encB_cancel (by omega) (by omega) h
    have hs : s = s' := by
      rw [← sb_of s, ← sb_of s', h1]
    rw [hs, encP_inj r r' (fun t ht => ha t (List.mem_cons_of_mem _ ht)) (fun t ht => hb t (List.mem_cons_of_mem _ ht)) h2]
theorem encP_len (ss : List ByteArray) (h : ∀ s ∈ ss, s.size ≤ 400) : (encP ss).length ≤ 410 * ss.length := by
  unfold encP
  induction ss with
  | nil => simp
  | cons a r ih =>
    have h1 := h a List.mem_cons_self
    have h2 := ih fun s hs => h s (List.mem_cons_of_mem _ hs)
    have h3 : a.data.toList.length = a.size := Array.length_toList
    have h4 := enc_le (n := (a.data.toList.length : Int)) (by omega) (by omega)
    rw [List.flatMap_cons, List.length_append, List.length_cons, encB_len]; omega

theorem toList_ne {x y : ByteArray} (h : x ≠ y) : (x.toList == y.toList) = false := by
  rw [beq_eq_false_iff_ne]
  intro e
  apply h
  have h1 : x.data.toList = y.data.toList := by rw [← ByteArray.toList_eq, ← ByteArray.toList_eq]; exact e
  rw [← sb_of x, ← sb_of y, h1]
theorem take_same {α : Type} {a b : List α} {k : Nat} {x : α} (h : a.take k = b.take k) (ha : a[k]? = some x) (hb : b[k]? = some x) : a.take (k + 1) = b.take (k + 1) := by
  obtain ⟨h1, h2⟩ := List.getElem?_eq_some_iff.1 ha
  obtain ⟨h3, h4⟩ := List.getElem?_eq_some_iff.1 hb
  rw [List.take_succ_eq_append_getElem h1, List.take_succ_eq_append_getElem h3, h, h2, h4]

set_option maxRecDepth 100000 in
set_option maxHeartbeats 400000 in
theorem rsame_any (A B : Option Addr) (c c' : Nat) (xs ys : List ByteArray) (w : World) (hl : Rd w A (xs.map Value.string)) (hr : Rd w B (ys.map Value.string)) (hx : xs.length ≤ 1099511627776) :
    Calls Tryd.prog 22 #[.slice A xs.length c, .slice B ys.length c'] w fun e w' => e = .returned (.bool (decide (xs = ys))) ∧ Below w.heap.size w w' := by
  have HL := Lib.hid hl
  have HR := Lib.hid hr
  clear hl hr
  by_cases hlen : xs.length = ys.length
  · have HEQ := Lib.hid hlen
    rw [← hlen]
    clear hlen
    go_enter Tryd.func22, Tryd.ntmps22
    go_wp2_with fail
    go_loopw [5] (fun i wr => ∃ k : Nat, i = .int .i64 k ∧ k ≤ xs.length ∧ Hid (xs.take k = ys.take k) ∧ Hid (Below w.heap.size w wr)) (fun i _ => xs.length - (intOf i).toNat)
    case atStart => exact ⟨0, rfl, Nat.zero_le _, rfl, Below.refl _ _⟩
    case round =>
      obtain ⟨k, rfl, hk, HT, HB⟩ := hrel
      by_cases hlt : k < xs.length
      · obtain ⟨x, ex⟩ : ∃ x, xs[k]? = some x := ⟨xs[k], List.getElem?_eq_getElem hlt⟩
        obtain ⟨y, ey⟩ : ∃ y, ys[k]? = some y := ⟨ys[k]'(by rw [← HEQ.out]; exact hlt), List.getElem?_eq_getElem _⟩
        obtain ⟨b1, o1, hA, h1⟩ := (HL.out.below HB.out).at_ (k := k) (u := .string x) (by simp [ex])
        obtain ⟨b2, o2, hB, h2⟩ := (HR.out.below HB.out).at_ (k := k) (u := .string y) (by simp [ey])
        subst hA hB
        have EX := Lib.hid ex
        have EY := Lib.hid ey
        have bk : (k : Int) < (xs.length : Int) := by omega
        clear ex ey
        by_cases hxy : x = y
        · subst hxy
          have HN := Lib.hid (take_same HT.out EX.out EY.out)
          go_wp2
          go_quiet (fail)
          go_wp2
          go_roundw
          case rel => exact ⟨k + 1, by go_num, by omega, HN.out, drewN_below HB.out _⟩
          case measure => simp [intOf]; omega
        · have hne := toList_ne hxy
          have HF := Lib.hid (show decide (xs = ys) = false by
            refine decide_eq_false ?_
            intro e
            apply hxy
            have h1 := EX.out
            rw [e, EY.out] at h1
            exact (Option.some.inj h1).symm)
          clear hxy
          go_wp2
          go_quiet (fail)
          go_wp2
          go_ret
          exact ⟨(show _ = _ by rw [HF.out]; rfl), drewN_below HB.out _⟩
      · obtain rfl : k = xs.length := by omega
        have HF := Lib.hid (show decide (xs = ys) = true by
          refine decide_eq_true ?_
          have h1 := HT.out
          rw [List.take_length, List.take_of_length_le (by rw [HEQ.out]; exact Nat.le_refl _)] at h1
          exact h1)
        go_wp2
        go_ret
        exact ⟨(show _ = _ by rw [HF.out]; rfl), HB.out⟩
  · have HF := Lib.hid (show decide (xs = ys) = false by
      refine decide_eq_false ?_
      intro e
      exact hlen (by rw [e]))
    have d1 : (((xs.length : Int) != (ys.length : Int))) = true := by simp; omega
    have d2 : decide (xs.length = ys.length) = false := decide_eq_false hlen
    go_enter Tryd.func22, Tryd.ntmps22
    go_wp2
    go_ret
    exact ⟨(show _ = _ by rw [HF.out]; rfl), Below.refl _ _⟩

set_option maxRecDepth 100000 in
set_option maxHeartbeats 1000000 in
theorem clash_any (l r : List UInt8) (w : World) (hl : l.length = 32) (hr : r.length = 32) :
    Calls Tryd.prog 24 #[.agg (bc l).toArray, .agg (bc r).toArray] w fun e w' => e = .returned (.bool (decide (l.take 16 = r.take 16))) ∧ Below w.heap.size w w' := by
  have HL := Lib.hid hl
  have HR := Lib.hid hr
  have HB0 := Lib.hid ((Blk.new w 24 (bc l)).alloc (.cells (bc r).toArray 24))
  have hb1 := Blk.new (w.alloc (.cells (bc l).toArray 24)) 24 (bc r)
  rw [size_alloc] at hb1
  have HB1 := Lib.hid hb1
  have HBW := Lib.hid (((Below.refl w.heap.size w).alloc (Nat.le_refl _) (.cells (bc l).toArray 24)).alloc (by simp) (.cells (bc r).toArray 24))
  clear hl hr hb1
  go_enter Tryd.func24, Tryd.ntmps24
  go_wp2_with fail
  go_loopw [5] (fun i wr => ∃ k : Nat, i = .int .i64 k ∧ k ≤ 16 ∧ Hid (l.take k = r.take k) ∧ Hid (Blk wr w.heap.size 24 (bc l)) ∧ Hid (Blk wr (w.heap.size + 1) 24 (bc r)) ∧ Hid (Below w.heap.size w wr)) (fun i _ => 16 - (intOf i).toNat)
  case atStart => exact ⟨0, rfl, by omega, rfl, HB0.out, HB1.out, HBW.out⟩
  case round =>
    obtain ⟨k, rfl, hk, HT, H0, H1, HB⟩ := hrel
    by_cases hlt : k < 16
    · obtain ⟨x, ex⟩ : ∃ x, l[k]? = some x := ⟨l[k]'(by rw [HL.out]; omega), List.getElem?_eq_getElem _⟩
      obtain ⟨y, ey⟩ : ∃ y, r[k]? = some y := ⟨r[k]'(by rw [HR.out]; omega), List.getElem?_eq_getElem _⟩
      have h1 : wr.cell? ⟨w.heap.size, k, none⟩ = some (.int .u8 x.toNat) := by rw [H0.out.cell k]; simp [bc, ex]
      have h2 : wr.cell? ⟨w.heap.size + 1, k, none⟩ = some (.int .u8 y.toNat) := by rw [H1.out.cell k]; simp [bc, ey]
      have bk : (k : Int) < 16 := by omega
      have bk2 : (k : Int) < 32 := by omega
      have EX := Lib.hid ex
      have EY := Lib.hid ey
      clear ex ey
      by_cases hxy : x = y
      · subst hxy
        have HN := Lib.hid (take_same HT.out EX.out EY.out)
        go_wp2
        go_quiet (fail)
        go_wp2
        go_roundw
        case rel => exact ⟨k + 1, by go_num, by omega, HN.out, H0.out.drewN _, H1.out.drewN _, drewN_below HB.out _⟩
        case measure => simp [intOf]; omega
      · have hne : ((x.toNat : Int) == (y.toNat : Int)) = false := by rw [u8_beq]; exact decide_eq_false hxy
        have hne2 : ((x.toNat : Int) != (y.toNat : Int)) = true := by unfold bne; rw [hne]; rfl
        have HF := Lib.hid (show decide (l.take 16 = r.take 16) = false by
          refine decide_eq_false ?_
          intro e
          apply hxy
          have h3 : (l.take 16)[k]? = (r.take 16)[k]? := by rw [e]
          rw [List.getElem?_take, List.getElem?_take, if_pos hlt, if_pos hlt, EX.out, EY.out] at h3
          exact Option.some.inj h3)
        clear hxy
        go_wp2
        go_quiet (fail)
        go_wp2
        go_ret
        exact ⟨(show _ = _ by rw [HF.out]; rfl), drewN_below HB.out _⟩
    · obtain rfl : k = 16 := by omega
      have HF := Lib.hid (decide_eq_true HT.out)
      go_wp2
      go_ret
      exact ⟨(show _ = _ by rw [HF.out]; rfl), HB.out⟩

/-- An own row of bytes is appended to, the source read as bytes. -/
theorem wpList_pushB {w : World} {ops : Array Oper} {rest : List Oper} {o : Oper} {a : Act} {Q : Exit → Act → World → Prop} (hgd : o.guard = none) (s x : Operand)
    (ho : o.op = .call { callee := .builtin .append, args := #[s, x], argTypes := #[22, 22] })
    (base : Nat) (v : Value) (l : List UInt8) (hs : a.eval s = v) (hown : OwnB w base v l) (B : Option Addr) (c : Nat) (r : List UInt8) (hx : a.eval x = .slice B r.length c) (hr : Rd w B (bc r)) (hb : base ≤ w.heap.size) (hl : l.length + r.length ≤ 70368744177664)
    (h : ∀ v' w', OwnB w' base v' (l ++ r) → Below base w w' → wpList Tryd.prog ops Q rest (a.put o.dst v') w') :
    wpList Tryd.prog ops Q (o :: rest) a w := by
  obtain ⟨i0, hi, hz0, hz1, hz2⟩ := info_parts u8_info
  by_cases hrn : r = []
  · subst hrn
    have hrun : (Builtin.append_ #[22, 22] o.type #[v, .slice B 0 c]).run Tryd.prog w = .ok v w := by
      have hu : Tryd.prog.underlying 22 = some (.slice 5) := Tryd.underlying22
      rcases hown.2 with ⟨rfl, _⟩ | ⟨g, cap, cur, rfl, _, _, hnc, _⟩
      · cases B <;> simp [Builtin.append_, run_underlying hu, sizeOf, typeInfo, hi, Builtin.lenOf, Builtin.firstCells, loadCells, loadCellsFrom]
      · cases B <;> simp [Builtin.append_, run_underlying hu, sizeOf, typeInfo, hi, Builtin.lenOf, Builtin.firstCells, hnc, storeCells, loadCells, loadCellsFrom]
    refine wpList_plain hgd fun K hK => ?_
    unfold Oper.wp execOp
    simp only [ho, resolve, invoke, builtin, Sem.run_bind, Sem.run_pure, Result.andThen_ok, List.map_toArray, List.map_cons, List.map_nil, hs, hx, List.length_nil, hrun]
    exact hK _ _ (h v w (by rw [List.append_nil]; exact hown) (Below.refl _ _))
  · have hrne : bc r ≠ [] := by intro e; apply hrn; have := bc_len r; rw [e] at this; exact List.eq_nil_of_length_eq_zero this.symm
    obtain ⟨b, rfl, hd⟩ := hr.news hrne
    refine wpList_append_own _ hgd s x 22 ho base 5 i0 (.int .u8 0) 1 1 Tryd.underlying22 hi hz0 hz1 hz2 rfl (by decide) v l.length (bc l) hs hown
      b r.length c (bc r) hx (by rw [bc_len, Nat.mul_one]) hd (bc_one _) (by unfold maxLen; omega) (by omega) hb ?_
    intro v' w' h1 h2 _
    refine h v' w' ?_ ?_
    · unfold OwnB
      rw [List.length_append, bc_app]
      exact h1
    · exact (Below.refl base w).grown h2 hb (fun k hk => (World.ownsRow.lt hown k hk).1)

/-- A row of bytes that was just made. -/
theorem own_row (w : World) (l : List UInt8) (hl : l.length ≤ 1000000) : OwnB (w.alloc (.cells (bc l).toArray 5)) w.heap.size (.slice (some ⟨w.heap.size, 0, none⟩) l.length l.length) l :=
  ⟨by rw [bc_len]; omega, .inr ⟨w.heap.size, l.length, (bc l).toArray, rfl, Nat.le_refl _, heap_alloc_new w _, Nat.le_refl _, by unfold maxLen; omega, by simp [bc_len], by rw [Nat.mul_one]; exact List.take_of_length_le (by rw [bc_len]; exact Nat.le_refl _)⟩⟩

set_option maxRecDepth 100000 in
set_option maxHeartbeats 1000000 in
theorem input_any (tag : Int) (A : Option Addr) (c : Nat) (ss : List ByteArray) (w : World) (hr : Rd w A (ss.map Value.string)) (h12 : ss.length ≤ 12) (hs : ∀ s ∈ ss, s.size ≤ 400) :
    Calls Tryd.prog 23 #[.int .i64 tag, .slice A ss.length c] w fun e w' => ∃ v, e = .returned v ∧ OwnB w' w.heap.size v (tagB tag :: encP ss) ∧ Below w.heap.size w w' := by
  have HR := Lib.hid hr
  have HSS := Lib.hid hs
  have H12 := Lib.hid h12
  have HT := Lib.hid (tagB_cells tag)
  clear hr hs
  go_enter Tryd.func23, Tryd.ntmps23
  go_wp2_with fail
  rw [HT.out]
  have hO := own_row w [tagB tag] (by simp)
  have hB := (Below.refl w.heap.size w).alloc (Nat.le_refl _) (.cells (bc [tagB tag]).toArray 5)
  have hz : w.heap.size ≤ (w.alloc (.cells (bc [tagB tag]).toArray 5)).heap.size := hB.size
  generalize w.alloc (.cells (bc [tagB tag]).toArray 5) = w1 at hO hB hz ⊢
  go_loopw [5, 6] (fun v i wr => ∃ k : Nat, i = .int .i64 k ∧ k ≤ ss.length ∧ Hid (OwnB wr w.heap.size v (tagB tag :: encP (ss.take k))) ∧ Hid (Below w.heap.size w wr))
    (fun _ i _ => ss.length - (intOf i).toNat)
  case atStart => exact ⟨0, rfl, Nat.zero_le _, hO, hB⟩
  case round =>
    clear hO hB hz
    obtain ⟨k, rfl, hk, HO, HB⟩ := hrel
    by_cases hlt : k < ss.length
    · obtain ⟨z, hz⟩ : ∃ z, ss[k]? = some z := ⟨ss[k], List.getElem?_eq_getElem hlt⟩
      obtain ⟨bb, off, hA, hcell⟩ := (HR.out.below HB.out).at_ (k := k) (u := .string z) (by simp [hz])
      subst hA
      have bk : (k : Int) < (ss.length : Int) := by omega
      have HZ := Lib.hid (HSS.out z (List.mem_of_getElem? hz))
      have HJ := Lib.hid (encP_take ss k z hz)
      have HL := Lib.hid (show (encP (ss.take k)).length ≤ 4920 by
        have := encP_len (ss.take k) fun s hs => HSS.out s (List.mem_of_mem_take hs)
        rw [List.length_take] at this
        have := H12.out
        omega)
      have HEL := Lib.hid (show (encB z.data.toList).length ≤ 410 by
        have h1 : z.data.toList.length = z.size := Array.length_toList
        have h2 := HZ.out
        have h4 := enc_le (n := (z.data.toList.length : Int)) (by omega) (by omega)
        rw [encB_len]; omega)
      clear hz
      go_wp2_with fail
      refine (rbytes_f z _ (by have := HZ.out; omega)).mono ?_
      rintro e w2 ⟨B, cB, rfl, hrb, hb2⟩
      have HO2 := Lib.hid (OwnB.kept HO.out hb2)
      have HB2 := Lib.hid (HB.out.trans (hb2.mono HB.out.size))
      have HRB := Lib.hid hrb
      clear HO HB hrb hb2 hcell
      go_wp2_with (at_builtin; refine wpList_pushB rfl (.tmp 16) (.tmp 21) rfl w.heap.size _ _ rfl HO2.out B cB _ rfl HRB.out HB2.out.size (by have h1 := HL.out; have h2 := HEL.out; rw [List.length_cons]; omega) ?_; intro v3 w3 ho3 hb3; rw [List.cons_append, HJ.out] at ho3; have HO3 := Lib.hid ho3; have HB3 := Lib.hid (HB2.out.trans hb3); clear ho3 hb3 HO2 HB2 HRB)
      go_roundw
      case rel => exact ⟨k + 1, by go_num, by omega, HO3.out, HB3.out⟩
      case measure => simp [intOf]; omega
    · obtain rfl : k = ss.length := by omega
      have ho := HO.out
      rw [List.take_length] at ho
      have HO2 := Lib.hid ho
      clear ho HO
      go_wp2
      go_ret
      exact ⟨_, rfl, HO2.out, HB.out⟩

set_option maxRecDepth 100000 in
set_option maxHeartbeats 1000000 in
theorem message_any (A : Option Addr) (c : Nat) (ss : List ByteArray) (w : World) (hr : Rd w A (ss.map Value.string)) (h12 : ss.length ≤ 12) (hs : ∀ s ∈ ss, s.size ≤ 400) :
    Calls Tryd.prog 28 #[.slice A ss.length c] w fun e w' => e = .returned (.string (sb (encP ss))) ∧ Below w.heap.size w w' := by
  have HR := Lib.hid hr
  have HSS := Lib.hid hs
  have H12 := Lib.hid h12
  clear hr hs
  go_enter Tryd.func28, Tryd.ntmps28
  go_wp2_with fail
  go_loopw [3, 4] (fun v i wr => ∃ k : Nat, i = .int .i64 k ∧ k ≤ ss.length ∧ Hid (OwnB wr w.heap.size v (encP (ss.take k))) ∧ Hid (Below w.heap.size w wr))
    (fun _ i _ => ss.length - (intOf i).toNat)
  case atStart => exact ⟨0, rfl, Nat.zero_le _, OwnB.nil _ _, Below.refl _ _⟩
  case round =>
    obtain ⟨k, rfl, hk, HO, HB⟩ := hrel
    by_cases hlt : k < ss.length
    · obtain ⟨z, hz⟩ : ∃ z, ss[k]? = some z := ⟨ss[k], List.getElem?_eq_getElem hlt⟩
      obtain ⟨bb, off, hA, hcell⟩ := (HR.out.below HB.out).at_ (k := k) (u := .string z) (by simp [hz])
      subst hA
      have bk : (k : Int) < (ss.length : Int) := by omega
      have HZ := Lib.hid (HSS.out z (List.mem_of_getElem? hz))
      have HJ := Lib.hid (encP_take ss k z hz)
      have HL := Lib.hid (show (encP (ss.take k)).length ≤ 4920 by
        have := encP_len (ss.take k) fun s hs => HSS.out s (List.mem_of_mem_take hs)
        rw [List.length_take] at this
        have := H12.out
        omega)
      have HEL := Lib.hid (show (encB z.data.toList).length ≤ 410 by
        have h1 : z.data.toList.length = z.size := Array.length_toList
        have h2 := HZ.out
        have h4 := enc_le (n := (z.data.toList.length : Int)) (by omega) (by omega)
        rw [encB_len]; omega)
      clear hz
      go_wp2_with fail
      refine (rbytes_f z _ (by have := HZ.out; omega)).mono ?_
      rintro e w2 ⟨B, cB, rfl, hrb, hb2⟩
      have HO2 := Lib.hid (OwnB.kept HO.out hb2)
      have HB2 := Lib.hid (HB.out.trans (hb2.mono HB.out.size))
      have HRB := Lib.hid hrb
      clear HO HB hrb hb2 hcell
      go_wp2_with (at_builtin; refine wpList_pushB rfl (.tmp 11) (.tmp 16) rfl w.heap.size _ _ rfl HO2.out B cB _ rfl HRB.out HB2.out.size (by have h1 := HL.out; have h2 := HEL.out; omega) ?_; intro v3 w3 ho3 hb3; rw [HJ.out] at ho3; have HO3 := Lib.hid ho3; have HB3 := Lib.hid (HB2.out.trans hb3); clear ho3 hb3 HO2 HB2 HRB)
      go_roundw
      case rel => exact ⟨k + 1, by go_num, by omega, HO3.out, HB3.out⟩
      case measure => simp [intOf]; omega
    · obtain rfl : k = ss.length := by omega
      have ho := HO.out
      rw [List.take_length] at ho
      obtain ⟨B, cB, rfl, hrb, _⟩ := own_out ho
      have hcv := run_str hrb cB
      clear ho HO hrb
      go_wp2
      go_ret
      exact ⟨rfl, HB.out⟩
end Go.Proofs.YtoendbdpkkjjkaaDoor
