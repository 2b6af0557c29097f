/- The reference: Clean, Valid and digit. -/
import Derived.Test.YtpmlihhofmblpaaGreatDoorMf
import Derived.Deep.LoopGhost
namespace Go.Proofs.YtpmlihhofmblpaaGreatDoor
open Go.RowKit Hm Wm Wn

def RcR (l : List UInt8) (kv : Value) : Prop := ∃ k : Nat, kv = .int .i64 k ∧ k ≤ l.length ∧ Hid ((l.drop k).dropWhile (· == 0) = l.dropWhile (· == 0))
set_option maxRecDepth 100000 in
set_option maxHeartbeats 400000 in
theorem rclean_any (s : ByteArray) (w : World) (hs : s.size ≤ 100000) : Calls Tryz.prog 59 #[.string s] w fun e w' => e = .returned (.string (cS (nB s))) ∧ w' = w := by
  obtain ⟨l, hl⟩ : ∃ l, s.data.toList = l := ⟨_, rfl⟩
  have hsl : s.size = l.length := by rw [← hl]; exact Array.length_toList.symm
  have hs1 : s = sb l := by rw [← hl]; exact (show sb s.data.toList = s by cases s; simp [sb]).symm
  have HV := Lib.hid (show cS (nB s) = sb (l.dropWhile (· == 0)) by unfold cS nB; rw [hl, clean_eq])
  have hlo := fun W k (h : k ≤ l.length) => run_str_lo W l k h
  rw [← hs1] at hlo
  have HLO := Lib.hid hlo
  have HL := Lib.hid hl
  rw [hsl] at hs
  have HS := Lib.hid hsl
  clear hlo hl hs1 hsl
  go_enter Tryz.func59, Tryz.ntmps59
  go_wp2
  go_loop [3] (RcR l) (fun kv => l.length - (intOf kv).toNat)
  case atStart => exact ⟨0, rfl, Nat.zero_le _, Lib.hid rfl⟩
  case round =>
    obtain ⟨k, rfl, hk, HD⟩ := hrel
    by_cases hlt : k < l.length
    · have d1 : decide ((k : Int) < (s.size : Int)) = true := decide_eq_true (by rw [HS.out]; omega)
      have d1' : decide (k < s.size) = true := decide_eq_true (by rw [HS.out]; exact hlt)
      have hc : s.data.toList[k]? = some l[k] := by rw [HL.out]; exact List.getElem?_eq_getElem hlt
      have hdc := List.drop_eq_getElem_cons hlt
      obtain ⟨c, hcc⟩ : ∃ c, l[k] = c := ⟨_, rfl⟩
      rw [hcc] at hc hdc
      have HIX := Lib.hid hc
      by_cases h0 : c = 0
      · have e1 : ((c.toNat : Int) == 0) = true := by rw [h0]; rfl
        have HD2 := Lib.hid (show (l.drop (k + 1)).dropWhile (· == 0) = l.dropWhile (· == 0) by rw [← HD.out, hdc, h0]; rfl)
        clear hc hdc hcc h0 HD
        go_wp2_with (first | (refine wpList_dst 11 rfl ?_; refine wpList_runG 11 rfl rfl _ (exec_indexS (.tmp 9) (.tmp 10) rfl s k c HIX.out rfl rfl) ?_))
        go_round
        case rel => exact ⟨k + 1, by go_num, by omega, HD2⟩
        case measure => simp [intOf]; omega
      · have e1 : ((c.toNat : Int) == 0) = false := by
          rw [beq_eq_false_iff_ne]
          intro h
          exact h0 (UInt8.toNat_inj.1 (by simpa using h))
        have HE := Lib.hid (show l.drop k = l.dropWhile (· == 0) by
          rw [← HD.out, hdc, List.dropWhile_cons_of_neg (by simpa using h0)])
        have HR := Lib.hid (fun W => HLO.out W k hk)
        clear hc hdc hcc h0 HD
        go_wp2_with (first | (refine wpList_dst 11 rfl ?_; refine wpList_runG 11 rfl rfl _ (exec_indexS (.tmp 9) (.tmp 10) rfl s k c HIX.out rfl rfl) ?_) | (refine wpList_dst 18 rfl ?_; refine wpList_run 18 rfl rfl _ (exec_sLo (.tmp 16) (.tmp 17) rfl s _ k HR.out rfl rfl) ?_))
        go_ret
        exact ⟨by rw [HV.out, ← HE.out]; rfl, rfl⟩
    · obtain rfl : k = l.length := by omega
      have d1 : decide ((l.length : Int) < (s.size : Int)) = false := decide_eq_false (by rw [HS.out]; omega)
      have d1' : decide (l.length < s.size) = false := decide_eq_false (by rw [HS.out]; omega)
      have HE := Lib.hid (show l.drop l.length = l.dropWhile (· == 0) by rw [← HD.out, List.drop_length]; rfl)
      have HR := Lib.hid (fun W => HLO.out W l.length hk)
      clear HD
      go_wp2_with (first | (refine wpList_dst 18 rfl ?_; refine wpList_run 18 rfl rfl _ (exec_sLo (.tmp 16) (.tmp 17) rfl s _ l.length HR.out rfl rfl) ?_))
      go_ret
      exact ⟨by rw [HV.out, ← HE.out, List.drop_length]; rfl, rfl⟩
theorem rcleanC (x z : ByteArray) (w : World) (hx : x.size ≤ 100000) (h : cS (nB x) = z) : Calls Tryz.prog 59 #[.string x] w fun e w' => e = .returned (.string z) ∧ w' = w := by
  subst h; exact rclean_any x w hx
theorem validB_iff (s : ByteArray) : validB s = decide (s = cS (nB s)) := by
  by_cases h : s = cS (nB s)
  · rw [decide_eq_true h, h]; exact validB_cS _
  · rw [decide_eq_false h]
    cases hv : validB s
    · rfl
    · refine absurd (cS_of (s := s) ?_).symm h
      unfold validB at hv
      unfold CanB
      cases hl : s.data.toList with
      | nil => simp
      | cons b r =>
        rw [hl] at hv
        simpa using hv
set_option maxRecDepth 100000 in
set_option maxHeartbeats 400000 in
theorem rvalid_any (s : ByteArray) (w : World) (hs : s.size ≤ 100000) : Calls Tryz.prog 71 #[.string s] w fun e w' => e = .returned (.bool (validB s)) ∧ w' = w := by
  have HC := Lib.hid (rclean_any s w hs)
  have HE := Lib.hid (fun W => run_eqS s (cS (nB s)) (validB s) (validB_iff s).symm W)
  clear hs
  go_enter Tryz.func71, Tryz.ntmps71
  go_wp2_with fail
  refine HC.out.mono ?_
  rintro e w1 ⟨rfl, hw⟩
  obtain rfl : w = w1 := hw.symm
  go_wp2_with (refine wpList_dst 6 rfl ?_; refine wpList_run 6 rfl rfl _ (exec_bin .eql 9 _ (.tmp 3) (.tmp 5) rfl _ _ _ rfl rfl rfl (HE.out _)) ?_)
  go_ret
  exact ⟨rfl, rfl⟩
theorem numB_app (p q : List UInt8) : numB (p ++ q) = numB p * 256 ^ q.length + numB q := by
  show (p ++ q).foldl _ 0 = _
  rw [List.foldl_append]
  exact fold_numB q (numB p)
theorem numB_at {l : List UInt8} {k : Nat} (h : k < l.length) : numB l / 256 ^ k % 256 = (l[l.length - 1 - k]'(by omega)).toNat := by
  have hd : (l.drop (l.length - 1 - k + 1)).length = k := by rw [List.length_drop]; omega
  have e : l = l.take (l.length - 1 - k) ++ (l[l.length - 1 - k]'(by omega) :: l.drop (l.length - 1 - k + 1)) := by
    conv => lhs; rw [← List.take_append_drop (l.length - 1 - k) l, List.drop_eq_getElem_cons (show l.length - 1 - k < l.length by omega)]
  have h1 := numB_lt (l.drop (l.length - 1 - k + 1))
  have h2 := UInt8.toNat_lt (l[l.length - 1 - k]'(by omega))
  rw [hd] at h1
  generalize hc : (l[l.length - 1 - k]'(by omega)) = c at *
  conv => lhs; rw [e]
  rw [numB_app, numB_cons, List.length_cons, hd, Nat.pow_succ, ← Nat.add_assoc]
  rw [show numB (l.take (l.length - 1 - k)) * (256 ^ k * 256) + c.toNat * 256 ^ k = 256 ^ k * (numB (l.take (l.length - 1 - k)) * 256 + c.toNat) by
    rw [Nat.mul_add, Nat.mul_comm (256 ^ k) c.toNat, Nat.mul_left_comm (256 ^ k)]]
  rw [Nat.mul_add_div (Nat.pow_pos (by decide)), Nat.div_eq_of_lt h1]
  omega
theorem numB_over {s : ByteArray} {k : Nat} (h : s.size ≤ k) : nB s / 256 ^ k % 256 = 0 := by
  rw [Nat.div_eq_of_lt (Nat.lt_of_lt_of_le (nB_lt s) (Nat.pow_le_pow_right (by decide) h))]
theorem run_subN (x y : Nat) (h : y ≤ x) (hx : x ≤ 1000000) (w : World) : (binOp .sub 3 (.int .i64 x) (.int .i64 y)).run Tryz.prog w = .ok (.int .i64 ((x - y : Nat) : Int)) w := by
  simp [binOp, go_sem]
  simp [IntKind.wrap, IntKind.bits, IntKind.signed]; omega
theorem run_cvBI (c : UInt8) (w : World) : (convert 5 3 (.int .u8 c.toNat)).run Tryz.prog w = .ok (.int .i64 (c.toNat : Int)) w := by
  have := UInt8.toNat_lt c
  simp [convert, go_sem]
  simp [IntKind.wrap, IntKind.bits, IntKind.signed]; omega
set_option maxRecDepth 100000 in
set_option maxHeartbeats 400000 in
theorem rdigit_any (s : ByteArray) (k : Nat) (w : World) (hs : s.size ≤ 100000) (hk : k ≤ 100000) : Calls Tryz.prog 61 #[.string s, .int .i64 k] w fun e w' => e = .returned (.int .i64 ((nB s / 256 ^ k % 256 : Nat) : Int)) ∧ w' = w := by
  by_cases h : k < s.size
  · have hl : s.data.toList.length = s.size := Array.length_toList
    have hc : s.data.toList[s.size - 1 - k]? = some (s.data.toList[s.data.toList.length - 1 - k]'(by omega)) := by rw [← hl]; exact List.getElem?_eq_getElem (by omega)
    have hn := numB_at (l := s.data.toList) (k := k) (by omega)
    obtain ⟨c, hcc⟩ : ∃ c, (s.data.toList[s.data.toList.length - 1 - k]'(by omega)) = c := ⟨_, rfl⟩
    rw [hcc] at hc hn
    have HIX := Lib.hid hc
    have HV := Lib.hid (show nB s / 256 ^ k % 256 = c.toNat from hn)
    have H1 := Lib.hid (fun W => run_subN s.size 1 (by omega) (by omega) W)
    have H2 := Lib.hid (fun W => run_subN (s.size - 1) k (by omega) (by omega) W)
    have H3 := Lib.hid (fun W => run_cvBI c W)
    have d1 : decide ((s.size : Int) ≤ (k : Int)) = false := decide_eq_false (by omega)
    have d1' : decide (s.size ≤ k) = false := decide_eq_false (by omega)
    clear hl hc hn hcc h hs hk
    go_enter Tryz.func61, Tryz.ntmps61
    go_wp2_with (first
      | (refine wpList_dst 12 rfl ?_; refine wpList_run 12 rfl rfl _ (exec_bin .sub 3 _ (.tmp 11) (.const (.int .i64 1)) rfl _ _ _ rfl rfl rfl (H1.out _)) ?_)
      | (refine wpList_dst 14 rfl ?_; refine wpList_run 14 rfl rfl _ (exec_bin .sub 3 _ (.tmp 12) (.tmp 13) rfl _ _ _ rfl rfl rfl (H2.out _)) ?_)
      | (refine wpList_dst 15 rfl ?_; refine wpList_run 15 rfl rfl _ (exec_indexS (.tmp 9) (.tmp 14) rfl s (s.size - 1 - k) c HIX.out rfl rfl) ?_)
      | (refine wpList_dst 16 rfl ?_; refine wpList_run 16 rfl rfl _ (exec_convert 5 3 (.tmp 15) rfl _ _ rfl (H3.out _)) ?_))
    go_ret
    exact ⟨by rw [HV.out]; rfl, rfl⟩
  · have HV := Lib.hid (numB_over (s := s) (k := k) (by omega))
    have d1 : decide ((s.size : Int) ≤ (k : Int)) = true := decide_eq_true (by omega)
    have d1' : decide (s.size ≤ k) = true := decide_eq_true (by omega)
    clear h hs hk
    go_enter Tryz.func61, Tryz.ntmps61
    go_wp2
    go_ret
    exact ⟨by rw [HV.out]; rfl, rfl⟩
end Go.Proofs.YtpmlihhofmblpaaGreatDoor

/- The reference: rows of ints, number and Add. -/
namespace Go.Proofs.YtpmlihhofmblpaaGreatDoor
open Go.RowKit Hm Wm Wn

def ic (l : List Nat) : List Value := l.map fun (n : Nat) => Value.int .i64 (n : Int)
theorem ic_len (l : List Nat) : (ic l).length = l.length := List.length_map _
theorem ic_app (l r : List Nat) : ic (l ++ r) = ic l ++ ic r := List.map_append
def RdI (w : World) (A : Option Addr) (l : List Nat) : Prop := Rd w A (ic l)
theorem RdI.next {w w' : World} {A : Option Addr} {l : List Nat} (h : RdI w A l) (hb : Below w.heap.size w w') : RdI w' A l := Rd.below h hb
theorem RdI.cell {w : World} {A : Option Addr} {l : List Nat} (h : RdI w A l) {k v : Nat} (hk : l[k]? = some v) : ∃ b off, A = some ⟨b, off, none⟩ ∧ w.cell? ⟨b, off + k, none⟩ = some (.int .i64 (v : Int)) :=
  Rd.at_ h (by unfold ic; rw [List.getElem?_map, hk]; rfl)
def OwnI (w : World) (base : Nat) (v : Value) (l : List Nat) : Prop := w.ownsRow base 3 1 v l.length (ic l)
theorem OwnI.nil (w : World) (base : Nat) : OwnI w base (.slice none 0 0) [] := World.ownsRow_nil _ _ _ _
theorem OwnI.kept {w w' : World} {base : Nat} {v : Value} {l : List Nat} (h : OwnI w base v l) (hb : Below w.heap.size w w') : OwnI w' base v l := own_below h hb
theorem OwnI.form {w : World} {base : Nat} {v : Value} {l : List Nat} (h : OwnI w base v l) : ∃ A c, v = .slice A l.length c ∧ RdI w A l := by
  obtain ⟨A, c, rfl⟩ := row_form h
  exact ⟨A, c, rfl, Rd.of_row h⟩
theorem in_info : (Tryz.prog.info? 3).map (fun i => (i.zero, i.size, i.bytes)) = some (some (.int .i64 0), 1, 8) := by kernel_rfl
theorem il_under : Tryz.prog.underlying 119 = some (.slice 3) := Tryz.underlying119
theorem wpList_pushI {w : World} {ops : Array Oper} {rest : List Oper} {o : Oper} {a : Act} {Q : Exit → Act → World → Prop} (hgd : o.guard = none) (s x : Operand)
    (ho : o.op = .call { callee := .builtin .append, args := #[s, x], argTypes := #[119, 119] })
    (base : Nat) (v : Value) (l : List Nat) (hs : a.eval s = v) (hown : OwnI w base v l) (d : Nat) (hb : base ≤ w.heap.size) (hl : l.length ≤ 1000000)
    (hx : a.eval x = .slice (some ⟨w.heap.size, 0, none⟩) 1 1)
    (h : ∀ v' w', OwnI w' base v' (l ++ [d]) → Below base w w' → wpList Tryz.prog ops Q rest (a.put o.dst v') w') :
    wpList Tryz.prog ops Q (o :: rest) a (w.alloc (.cells #[.int .i64 (d : Int)] 3)) := by
  obtain ⟨i0, hi, hz0, hz1, hz2⟩ := info_parts in_info
  refine wpList_append_own _ hgd s x 119 ho base 3 i0 (.int .i64 0) 1 8 il_under hi hz0 hz1 hz2 rfl (by decide) v l.length (ic l) hs (World.ownsRow.alloc hown _)
    ⟨w.heap.size, 0, none⟩ 1 1 [.int .i64 (d : Int)] hx rfl (cell_one_new _ _ _) ?_ ?_ ?_ ?_ ?_
  · intro u hu; simp at hu; subst hu; rfl
  · unfold maxLen; omega
  · omega
  · simp; omega
  · intro v' w' h1 h2 _
    refine h v' w' ?_ ?_
    · unfold OwnI
      rw [List.length_append, ic_app]
      exact h1
    · exact (((Below.refl base w).alloc hb _).grown h2 (by simp; omega) (fun k hk => (World.ownsRow.lt hown k hk).1))
/-- The number with some bytes, the lowest one first. -/
def v256 : List Nat → Nat
  | [] => 0
  | d :: r => d + 256 * v256 r
theorem v256_app (l r : List Nat) : v256 (l ++ r) = v256 l + 256 ^ l.length * v256 r := by
  induction l with
  | nil => simp [v256]
  | cons d l ih => rw [List.cons_append, v256, v256, ih, List.length_cons, Nat.pow_succ, Nat.mul_add, ← Nat.mul_assoc, Nat.mul_comm 256 (256 ^ l.length)]; omega
theorem v256_snoc (l : List Nat) (d : Nat) : v256 (l ++ [d]) = v256 l + 256 ^ l.length * d := by rw [v256_app]; simp [v256]
def Byt (l : List Nat) : Prop := ∀ d ∈ l, d < 256
theorem v256_lt {l : List Nat} (h : Byt l) : v256 l < 256 ^ l.length := by
  induction l with
  | nil => simp [v256]
  | cons d l ih =>
    have h1 := h d (by simp)
    have h2 := ih fun x hx => h x (by simp [hx])
    rw [v256, List.length_cons, Nat.pow_succ]
    omega
theorem v256_bytes : ∀ {l : List Nat}, Byt l → numB (l.reverse.map UInt8.ofNat) = v256 l
  | [], _ => rfl
  | d :: r, h => by
    rw [List.reverse_cons, List.map_append, List.map_cons, List.map_nil, numB_snoc, v256_bytes (fun x hx => h x (by simp [hx])), v256]
    have : (UInt8.ofNat d).toNat = d := by rw [UInt8.toNat_ofNat']; exact Nat.mod_eq_of_lt (h d (by simp))
    omega
theorem run_cvIB (n : Nat) (w : World) (h : n < 256) : (convert 3 5 (.int .i64 n)).run Tryz.prog w = .ok (.int .u8 ((UInt8.ofNat n).toNat : Int)) w := by
  have hm : (UInt8.ofNat n).toNat = n := by rw [UInt8.toNat_ofNat']; exact Nat.mod_eq_of_lt h
  rw [hm]
  simp [convert, go_sem]
  simp [IntKind.wrap, IntKind.bits, IntKind.signed]; omega
theorem run_addN (x y z : Nat) (w : World) (h : x + y = z) (hz : z ≤ 1000000000) : (binOp .add 3 (.int .i64 x) (.int .i64 y)).run Tryz.prog w = .ok (.int .i64 (z : Int)) w := by
  simp [binOp, go_sem]
  simp [IntKind.wrap, IntKind.bits, IntKind.signed]; omega
theorem run_rem256 (x : Nat) (w : World) (hz : x ≤ 9223372036854775807) : (binOp .rem 3 (.int .i64 x) (.int .i64 256)).run Tryz.prog w = .ok (.int .i64 ((x % 256 : Nat) : Int)) w := by
  simp [binOp, go_sem]
  rw [Int.tmod_eq_emod_of_nonneg (by omega)]
theorem run_quo256 (x : Nat) (w : World) (hz : x ≤ 9223372036854775807) : (binOp .quo 3 (.int .i64 x) (.int .i64 256)).run Tryz.prog w = .ok (.int .i64 ((x / 256 : Nat) : Int)) w := by
  simp [binOp, go_sem]
  simp [IntKind.wrap, IntKind.bits, IntKind.signed]; omega
def RnR (w : World) (l : List Nat) (ov kv : Value) (wr : World) : Prop :=
  ∃ k : Nat, kv = .int .i64 ((k : Int) - 1) ∧ k ≤ l.length ∧ Hid (OwnB wr w.heap.size ov ((l.drop k).reverse.map UInt8.ofNat)) ∧ Hid (Below w.heap.size w wr)
set_option maxRecDepth 100000 in
set_option maxHeartbeats 400000 in
theorem rnumber_any (A : Option Addr) (c : Nat) (l : List Nat) (w : World) (hr : RdI w A l) (hl : l.length ≤ 100000) (hB : Byt l) : Calls Tryz.prog 98 #[.slice A l.length c] w fun e w' => e = .returned (.string (cS (v256 l))) ∧ Below w.heap.size w w' := by
  have HR := Lib.hid hr
  have HBY := Lib.hid hB
  clear hr hB
  go_enter Tryz.func98, Tryz.ntmps98
  go_wp2
  go_loopw [3, 4] (RnR w l) (fun _ kv _ => (intOf kv + 1).toNat)
  case atStart => exact ⟨l.length, by go_num, Nat.le_refl _, Lib.hid (by rw [List.drop_length]; exact OwnB.nil _ _), Lib.hid (Below.refl _ _)⟩
  case round =>
    obtain ⟨k, rfl, hk, HO, HW⟩ := hrel
    cases k with
    | zero =>
      have d1 : decide ((0 : Int) ≤ ((0 : Nat) : Int) - 1) = false := by decide
      obtain ⟨A2, c2, hv, -, -⟩ := HO.out.form
      subst hv
      have hbv := v256_bytes HBY.out
      have hbn : (l.reverse.map UInt8.ofNat).length = l.length := by simp
      rw [List.drop_zero] at HO ⊢
      obtain ⟨bl, hbl⟩ : ∃ bl, l.reverse.map UInt8.ofNat = bl := ⟨_, rfl⟩
      rw [hbl] at HO hbv hbn ⊢
      obtain ⟨n, hn⟩ : ∃ n, bl.length = n := ⟨_, rfl⟩
      have hrd := HO.out.rd
      have hst := run_str (w := wr) hrd c2
      obtain ⟨z, hz⟩ : ∃ z, sb bl = z := ⟨_, rfl⟩
      have hrc := rcleanC z (cS (v256 l)) wr (by rw [← hz, sb_size]; omega) (by unfold nB; rw [← hz, sb_list, hbv])
      rw [hn, hz] at hst
      rw [hn]
      have HST := Lib.hid hst
      have HRC := Lib.hid hrc
      clear hst hrc HO hrd hbv hbn hbl hn hz
      go_wp2_with (refine wpList_dst 21 rfl ?_; refine wpList_run 21 rfl rfl _ (exec_convert 50 9 (.tmp 20) rfl _ _ rfl HST.out) ?_)
      refine HRC.out.mono ?_
      rintro e w2 ⟨rfl, hw⟩
      obtain rfl : wr = w2 := hw.symm
      go_wp2
      go_ret
      exact ⟨rfl, HW.out⟩
    | succ i =>
      have d1 : decide ((0 : Int) ≤ ((i + 1 : Nat) : Int) - 1) = true := decide_eq_true (by omega)
      rw [show ((i + 1 : Nat) : Int) - 1 = (i : Int) by omega] at d1 ⊢
      have hv : l[i]? = some l[i] := List.getElem?_eq_getElem (by omega)
      have hdr : l.drop i = l[i] :: l.drop (i + 1) := List.drop_eq_getElem_cons (by omega)
      have hlt := HBY.out l[i] (List.getElem_mem (by omega))
      obtain ⟨v, hve⟩ : ∃ v, l[i] = v := ⟨_, rfl⟩
      rw [hve] at hv hdr hlt
      obtain ⟨b, off, rfl, hcell⟩ := (HR.out.next HW.out).cell hv
      have HCV := Lib.hid (fun W => run_cvIB v W hlt)
      have HDR := Lib.hid (show (l.drop i).reverse.map UInt8.ofNat = (l.drop (i + 1)).reverse.map UInt8.ofNat ++ [UInt8.ofNat v] by rw [hdr]; simp)
      have HLL := Lib.hid (show ((l.drop (i + 1)).reverse.map UInt8.ofNat).length ≤ 70368744177664 by simp; omega)
      obtain ⟨z, hz⟩ : ∃ z, UInt8.ofNat v = z := ⟨_, rfl⟩
      rw [hz] at HCV HDR
      clear hv hdr hlt hve hz
      go_wp2_with (first
        | (refine wpList_dst 17 rfl ?_; refine wpList_run 17 rfl rfl _ (exec_convert 3 5 (.tmp 16) rfl _ _ rfl (HCV.out _)) ?_)
        | (refine wpList_dst 19 rfl ?_; refine wpList_push rfl (.tmp 12) (.tmp 18) rfl w.heap.size _ _ rfl HO.out _ z rfl HW.out.size HLL.out rfl ?_; intro v' w' ho hb; have HO2 := Lib.hid ho; have HW2 := Lib.hid (HW.out.trans hb); clear ho hb))
      go_roundw
      case rel => exact ⟨i, by go_num, by omega, Lib.hid (by rw [HDR.out]; exact HO2.out), HW2⟩
      case measure => simp [intOf]
end Go.Proofs.YtpmlihhofmblpaaGreatDoor

/- The reference: Add and Cmp. -/
namespace Go.Proofs.YtpmlihhofmblpaaGreatDoor
open Go.RowKit Hm Wm Wn

theorem radd_step {L : List Nat} {a b k c n : Nat} (hl : L.length = k) (h : v256 L + 256 ^ k * c = a % 256 ^ k + b % 256 ^ k) (hn : a / 256 ^ k % 256 + b / 256 ^ k % 256 + c = n) :
    v256 (L ++ [n % 256]) + 256 ^ (k + 1) * (n / 256) = a % 256 ^ (k + 1) + b % 256 ^ (k + 1) := by
  rw [v256_snoc, hl, byte_step a k, byte_step b k, Nat.pow_succ, Nat.mul_assoc (256 ^ k) 256]
  have e : 256 ^ k * (n % 256) + 256 ^ k * (256 * (n / 256)) = 256 ^ k * n := by rw [← Nat.mul_add, Nat.mod_add_div]
  have e2 : 256 ^ k * n = 256 ^ k * (a / 256 ^ k % 256) + 256 ^ k * (b / 256 ^ k % 256) + 256 ^ k * c := by rw [← hn, Nat.mul_add, Nat.mul_add]
  omega
theorem byt_snoc {L : List Nat} {d : Nat} (h : Byt L) (hd : d < 256) : Byt (L ++ [d]) := fun x hx => by
  rcases List.mem_append.1 hx with h1 | h1
  · exact h x h1
  · rw [List.mem_singleton.1 h1]; exact hd
def RaR (w : World) (a b M : Nat) (ov cv kv : Value) (wr : World) : Prop :=
  ∃ (k c : Nat) (L : List Nat), cv = .int .i64 c ∧ kv = .int .i64 k ∧ k ≤ M + 1 ∧ Hid (OwnI wr w.heap.size ov L) ∧ Hid (L.length = k) ∧ Hid (Byt L) ∧ Hid (c ≤ 1) ∧ Hid (v256 L + 256 ^ k * c = a % 256 ^ k + b % 256 ^ k) ∧ Hid (Below w.heap.size w wr)
theorem run_leqM (x m : Int) (b : Bool) (h : decide (x ≤ m) = b) (w : World) : (binOp .leq 3 (.int .i64 x) (.int .i64 m)).run Tryz.prog w = .ok (.bool b) w := by
  subst h
  simp [binOp, go_sem]
set_option maxRecDepth 100000 in
set_option maxHeartbeats 1000000 in
theorem radd_any (s t : ByteArray) (w : World) (hs : s.size ≤ 50000) (ht : t.size ≤ 50000) : Calls Tryz.prog 69 #[.string s, .string t] w fun e w' => e = .returned (.string (cS (nB s + nB t))) ∧ Below w.heap.size w w' := by
  obtain ⟨M, hM⟩ : ∃ M, M = max s.size t.size := ⟨_, rfl⟩
  have hMM : max (s.size : Int) (t.size : Int) = (M : Int) := by omega
  have hM5 : M ≤ 50000 := by omega
  have HP := Lib.hid (show nB s < 256 ^ M ∧ nB t < 256 ^ M from ⟨Nat.lt_of_lt_of_le (nB_lt s) (Nat.pow_le_pow_right (by decide) (by omega)), Nat.lt_of_lt_of_le (nB_lt t) (Nat.pow_le_pow_right (by decide) (by omega))⟩)
  have HD1 := Lib.hid (fun k W (h : k ≤ 100000) => rdigit_any s k W (by omega) h)
  have HD2 := Lib.hid (fun k W (h : k ≤ 100000) => rdigit_any t k W (by omega) h)
  have HMM := Lib.hid hMM
  generalize nB s = a at HP HD1 ⊢
  generalize nB t = b at HP HD2 ⊢
  clear hM hMM hs ht
  go_enter Tryz.func69, Tryz.ntmps69
  go_wp2
  go_loopw [5, 6, 7] (RaR w a b M) (fun _ _ kv _ => M + 1 - (intOf kv).toNat)
  case atStart => exact ⟨0, 0, [], rfl, rfl, by omega, Lib.hid (OwnI.nil _ _), Lib.hid rfl, Lib.hid (fun _ h => by cases h), Lib.hid (by omega), Lib.hid (by simp [v256, Nat.mod_one]), Lib.hid (Below.refl _ _)⟩
  case round =>
    obtain ⟨k, c, L, rfl, rfl, hk, HO, HL, HB, HC, HV, HW⟩ := hrel
    by_cases hlt : k ≤ M
    · have HLE := Lib.hid (fun W => run_leqM k (max (s.size : Int) (t.size : Int)) true (decide_eq_true (by rw [HMM.out]; omega)) W)
      obtain ⟨da, hda⟩ : ∃ d, a / 256 ^ k % 256 = d := ⟨_, rfl⟩
      obtain ⟨db, hdb⟩ : ∃ d, b / 256 ^ k % 256 = d := ⟨_, rfl⟩
      obtain ⟨n1, hn1⟩ : ∃ n, da + db = n := ⟨_, rfl⟩
      obtain ⟨n, hn⟩ : ∃ n, n1 + c = n := ⟨_, rfl⟩
      have hC := HC.out
      have h1 : da < 256 := by omega
      have h2 : db < 256 := by omega
      have hst := radd_step HL.out HV.out (show a / 256 ^ k % 256 + b / 256 ^ k % 256 + c = n by rw [hda, hdb, hn1, hn])
      have HF1 := Lib.hid (fun W => HD1.out k W (by omega))
      have HF2 := Lib.hid (fun W => HD2.out k W (by omega))
      rw [hda] at HF1
      rw [hdb] at HF2
      have HA1 := Lib.hid (fun W => run_addN da db n1 W hn1 (by omega))
      have HA2 := Lib.hid (fun W => run_addN n1 c n W hn (by omega))
      have HRM := Lib.hid (fun W => run_rem256 n W (by omega))
      have HQU := Lib.hid (fun W => run_quo256 n W (by omega))
      obtain ⟨d, hd⟩ : ∃ d, n % 256 = d := ⟨_, rfl⟩
      obtain ⟨q, hq⟩ : ∃ q, n / 256 = q := ⟨_, rfl⟩
      rw [hd] at HRM hst
      rw [hq] at HQU hst
      have HST := Lib.hid hst
      have HB2 := Lib.hid (byt_snoc (d := d) HB.out (by omega))
      have HC2 := Lib.hid (show q ≤ 1 by omega)
      have HL2 := Lib.hid (show (L ++ [d]).length = k + 1 by rw [List.length_append, HL.out]; rfl)
      have HLL := Lib.hid (show L.length ≤ 1000000 by rw [HL.out]; omega)
      clear hda hdb hn1 hn hC h1 h2 hst hd hq HV HB HC
      go_wp2_with (first | (refine wpList_dst 15 rfl ?_; refine wpList_run 15 rfl rfl _ (exec_bin .leq 3 _ (.tmp 9) (.tmp 14) rfl _ _ _ rfl rfl rfl (HLE.out _)) ?_))
      refine (HF1.out wr).mono ?_
      rintro e w2 ⟨rfl, hw⟩
      obtain rfl : wr = w2 := hw.symm
      clear hw
      go_wp2_with fail
      refine (HF2.out wr).mono ?_
      rintro e w2 ⟨rfl, hw⟩
      obtain rfl : wr = w2 := hw.symm
      clear hw
      go_wp2_with (first
        | (refine wpList_dst 24 rfl ?_; refine wpList_run 24 rfl rfl _ (exec_bin .add 3 _ (.tmp 20) (.tmp 23) rfl _ _ _ rfl rfl rfl (HA1.out _)) ?_)
        | (refine wpList_dst 26 rfl ?_; refine wpList_run 26 rfl rfl _ (exec_bin .add 3 _ (.tmp 24) (.tmp 25) rfl _ _ _ rfl rfl rfl (HA2.out _)) ?_)
        | (refine wpList_dst 29 rfl ?_; refine wpList_run 29 rfl rfl _ (exec_bin .rem 3 _ (.tmp 28) (.const (.int .i64 256)) rfl _ _ _ rfl rfl rfl (HRM.out _)) ?_)
        | (refine wpList_dst 31 rfl ?_; refine wpList_pushI rfl (.tmp 27) (.tmp 30) rfl w.heap.size _ L rfl HO.out d HW.out.size HLL.out rfl ?_; intro v' w3 ho hb; have HO2 := Lib.hid ho; have HW2 := Lib.hid (HW.out.trans hb); clear ho hb)
        | (refine wpList_dst 33 rfl ?_; refine wpList_run 33 rfl rfl _ (exec_bin .quo 3 _ (.tmp 32) (.const (.int .i64 256)) rfl _ _ _ rfl rfl rfl (HQU.out _)) ?_))
      go_roundw
      case rel => exact ⟨k + 1, q, L ++ [d], rfl, by go_num, by omega, HO2, HL2, HB2, HC2, HST, HW2⟩
      case measure => simp [intOf]; omega
    · obtain rfl : k = M + 1 := by omega
      have HLE := Lib.hid (fun W => run_leqM ((M + 1 : Nat) : Int) (max (s.size : Int) (t.size : Int)) false (decide_eq_false (by rw [HMM.out]; omega)) W)
      have hv : v256 L = a + b := by
        have h1 := HV.out
        have h2 := HP.out
        have h3 : 256 ^ (M + 1) = 256 ^ M * 256 := Nat.pow_succ ..
        rw [Nat.mod_eq_of_lt (by omega), Nat.mod_eq_of_lt (by omega)] at h1
        have hc : c = 0 := by
          rcases Nat.eq_zero_or_pos c with h | h
          · exact h
          · have : c = 1 := by have := HC.out; omega
            subst this
            omega
        subst hc
        omega
      obtain ⟨A, cc, hov, hri⟩ := HO.out.form
      subst hov
      have hnum := rnumber_any A cc L wr hri (by rw [HL.out]; omega) HB.out
      rw [hv] at hnum
      have HN := Lib.hid hnum
      clear hv hri hnum HV HO
      go_wp2_with (first | (refine wpList_dst 15 rfl ?_; refine wpList_run 15 rfl rfl _ (exec_bin .leq 3 _ (.tmp 9) (.tmp 14) rfl _ _ _ rfl rfl rfl (HLE.out _)) ?_))
      refine HN.out.mono ?_
      rintro e w2 ⟨rfl, hb⟩
      have HW2 := Lib.hid (HW.out.trans (hb.mono HW.out.size))
      clear hb
      go_wp2
      go_ret
      exact ⟨rfl, HW2.out⟩
end Go.Proofs.YtpmlihhofmblpaaGreatDoor

/- The reference: Cmp and Sub. -/
namespace Go.Proofs.YtpmlihhofmblpaaGreatDoor
open Go.RowKit Hm Wm Wn

theorem less_num : ∀ (l r : List UInt8), l.length = r.length → Op.bytesLess l r = decide (numB l < numB r)
  | [], [], _ => by simp [Op.bytesLess, numB]
  | [], _ :: _, h => by simp at h
  | _ :: _, [], h => by simp at h
  | b :: l, c :: r, h => by
    simp only [List.length_cons, Nat.add_right_cancel_iff] at h
    have h1 := numB_lt l
    have h2 := numB_lt r
    rw [← h] at h2
    rw [numB_cons, numB_cons, ← h]
    unfold Op.bytesLess
    rw [less_num l r h]
    generalize 256 ^ l.length = p at *
    by_cases hbc : b < c
    · have h3 : b.toNat < c.toNat := UInt8.lt_iff_toNat_lt.1 hbc
      have h4 : (b.toNat + 1) * p ≤ c.toNat * p := Nat.mul_le_mul_right _ (by omega)
      rw [Nat.add_mul, Nat.one_mul] at h4
      rw [decide_eq_true hbc, Bool.true_or]
      exact (decide_eq_true (by omega)).symm
    · rw [decide_eq_false hbc, Bool.false_or]
      by_cases he : b = c
      · subst he
        rw [beq_self_eq_true, Bool.true_and]
        exact decide_eq_decide.2 (by omega)
      · have h3 : c.toNat < b.toNat := by
          have e1 : ¬ b.toNat < c.toNat := fun h => hbc (UInt8.lt_iff_toNat_lt.2 h)
          have e2 : b.toNat ≠ c.toNat := fun h => he (UInt8.toNat_inj.1 h)
          omega
        have h4 : (c.toNat + 1) * p ≤ b.toNat * p := Nat.mul_le_mul_right _ (by omega)
        rw [Nat.add_mul, Nat.one_mul] at h4
        rw [show (b == c) = false by rw [beq_eq_false_iff_ne]; exact he, Bool.false_and]
        exact (decide_eq_false (by omega)).symm
theorem run_lssS (x y : ByteArray) (b : Bool) (h : Op.bytesLess x.data.toList y.data.toList = b) (w : World) : (binOp .lss 9 (.string x) (.string y)).run Tryz.prog w = .ok (.bool b) w := by
  rw [binOp_string_lss, Lib.toList_data, Lib.toList_data, h]
  rfl
set_option maxRecDepth 100000 in
set_option maxHeartbeats 1000000 in
theorem rcmp_any (s t : ByteArray) (w : World) (hs : s.size ≤ 100000) (ht : t.size ≤ 100000) : Calls Tryz.prog 75 #[.string s, .string t] w fun e w' => e = .returned (.int .i64 (cmpN (nB s) (nB t))) ∧ w' = w := by
  have HC1 := Lib.hid (fun W => rclean_any s W hs)
  have HC2 := Lib.hid (fun W => rclean_any t W ht)
  generalize nB s = a at HC1 ⊢
  generalize nB t = b at HC2 ⊢
  clear hs ht
  by_cases hab : a = b
  · subst hab
    have HV := Lib.hid (show cmpN a a = 0 by unfold cmpN; rw [if_neg (Nat.lt_irrefl _), if_neg (Nat.lt_irrefl _)])
    obtain ⟨X, hX⟩ : ∃ X, cS a = X := ⟨_, rfl⟩
    rw [hX] at HC1 HC2
    clear hX
    go_enter Tryz.func75, Tryz.ntmps75
    go_wp2_with fail
    refine (HC1.out w).mono ?_
    rintro e w1 ⟨rfl, hw⟩
    obtain rfl : w = w1 := hw.symm
    go_wp2_with fail
    refine (HC2.out w).mono ?_
    rintro e w1 ⟨rfl, hw⟩
    obtain rfl : w = w1 := hw.symm
    go_wp2
    go_ret
    exact ⟨by rw [HV.out]; rfl, rfl⟩
  · have hne : cS a ≠ cS b := fun h => hab (cS_inj h)
    have hlo : (cS a).size < (cS b).size → a < b := fun h => by rw [cS_size, cS_size] at h; exact cmp_less h
    have hhi : (cS b).size < (cS a).size → b < a := fun h => by rw [cS_size, cS_size] at h; exact cmp_less h
    have heq : (cS a).size = (cS b).size → Op.bytesLess (cS a).data.toList (cS b).data.toList = decide (a < b) := fun h => by
      rw [less_num _ _ (by rw [Array.length_toList, Array.length_toList]; exact h)]
      have e1 : numB (cS a).data.toList = a := nB_cS a
      have e2 : numB (cS b).data.toList = b := nB_cS b
      rw [e1, e2]
    obtain ⟨X, hX⟩ : ∃ X, cS a = X := ⟨_, rfl⟩
    obtain ⟨Y, hY⟩ : ∃ Y, cS b = Y := ⟨_, rfl⟩
    rw [hX] at HC1 hne hlo hhi heq
    rw [hY] at HC2 hne hlo hhi heq
    have HE := Lib.hid (fun W => run_eqS X Y false (decide_eq_false hne) W)
    clear hX hY hne
    rcases Nat.lt_trichotomy X.size Y.size with hl | hl | hl
    · have HV := Lib.hid (show cmpN a b = -1 by unfold cmpN; rw [if_pos (hlo hl)])
      have c1 : decide ((X.size : Int) < (Y.size : Int)) = true := decide_eq_true (by omega)
      have c1' : decide (X.size < Y.size) = true := decide_eq_true hl
      clear hlo hhi heq hl hab
      go_enter Tryz.func75, Tryz.ntmps75
      go_wp2_with fail
      refine (HC1.out w).mono ?_
      rintro e w1 ⟨rfl, hw⟩
      obtain rfl : w = w1 := hw.symm
      go_wp2_with fail
      refine (HC2.out w).mono ?_
      rintro e w1 ⟨rfl, hw⟩
      obtain rfl : w = w1 := hw.symm
      go_wp2_with (first | (refine wpList_dst 13 rfl ?_; refine wpList_run 13 rfl rfl _ (exec_bin .eql 9 _ (.tmp 11) (.tmp 12) rfl _ _ _ rfl rfl rfl (HE.out _)) ?_))
      go_ret
      exact ⟨by rw [HV.out]; rfl, rfl⟩
    · have hq := heq hl
      have c1 : decide ((X.size : Int) < (Y.size : Int)) = false := decide_eq_false (by omega)
      have c1' : decide (X.size < Y.size) = false := decide_eq_false (by omega)
      have c2 : ((X.size : Int) == (Y.size : Int)) = true := by rw [beq_iff_eq]; omega
      have c2' : (X.size == Y.size) = true := by rw [beq_iff_eq]; exact hl
      by_cases hlt : a < b
      · rw [decide_eq_true hlt] at hq
        have HL := Lib.hid (fun W => run_lssS X Y true hq W)
        have HV := Lib.hid (show cmpN a b = -1 by unfold cmpN; rw [if_pos hlt])
        clear hlo hhi heq hl hab hq hlt
        go_enter Tryz.func75, Tryz.ntmps75
        go_wp2_with fail
        refine (HC1.out w).mono ?_
        rintro e w1 ⟨rfl, hw⟩
        obtain rfl : w = w1 := hw.symm
        go_wp2_with fail
        refine (HC2.out w).mono ?_
        rintro e w1 ⟨rfl, hw⟩
        obtain rfl : w = w1 := hw.symm
        go_wp2_with (first | (refine wpList_dst 13 rfl ?_; refine wpList_run 13 rfl rfl _ (exec_bin .eql 9 _ (.tmp 11) (.tmp 12) rfl _ _ _ rfl rfl rfl (HE.out _)) ?_) | (refine wpList_dst 28 rfl ?_; refine wpList_runG 28 rfl rfl _ (exec_bin .lss 9 _ (.tmp 26) (.tmp 27) rfl _ _ _ rfl rfl rfl (HL.out _)) ?_))
        go_ret
        exact ⟨by rw [HV.out]; rfl, rfl⟩
      · rw [decide_eq_false hlt] at hq
        have HL := Lib.hid (fun W => run_lssS X Y false hq W)
        have HV := Lib.hid (show cmpN a b = 1 by unfold cmpN; rw [if_neg hlt, if_pos (by omega)])
        clear hlo hhi heq hl hab hq hlt
        go_enter Tryz.func75, Tryz.ntmps75
        go_wp2_with fail
        refine (HC1.out w).mono ?_
        rintro e w1 ⟨rfl, hw⟩
        obtain rfl : w = w1 := hw.symm
        go_wp2_with fail
        refine (HC2.out w).mono ?_
        rintro e w1 ⟨rfl, hw⟩
        obtain rfl : w = w1 := hw.symm
        go_wp2_with (first | (refine wpList_dst 13 rfl ?_; refine wpList_run 13 rfl rfl _ (exec_bin .eql 9 _ (.tmp 11) (.tmp 12) rfl _ _ _ rfl rfl rfl (HE.out _)) ?_) | (refine wpList_dst 28 rfl ?_; refine wpList_runG 28 rfl rfl _ (exec_bin .lss 9 _ (.tmp 26) (.tmp 27) rfl _ _ _ rfl rfl rfl (HL.out _)) ?_))
        go_ret
        exact ⟨by rw [HV.out]; rfl, rfl⟩
    · have HV := Lib.hid (show cmpN a b = 1 by unfold cmpN; rw [if_neg (by have := hhi hl; omega), if_pos (hhi hl)])
      have c1 : decide ((X.size : Int) < (Y.size : Int)) = false := decide_eq_false (by omega)
      have c1' : decide (X.size < Y.size) = false := decide_eq_false (by omega)
      have c2 : ((X.size : Int) == (Y.size : Int)) = false := by rw [beq_eq_false_iff_ne]; omega
      have c2' : (X.size == Y.size) = false := by rw [beq_eq_false_iff_ne]; omega
      clear hlo hhi heq hl hab
      go_enter Tryz.func75, Tryz.ntmps75
      go_wp2_with fail
      refine (HC1.out w).mono ?_
      rintro e w1 ⟨rfl, hw⟩
      obtain rfl : w = w1 := hw.symm
      go_wp2_with fail
      refine (HC2.out w).mono ?_
      rintro e w1 ⟨rfl, hw⟩
      obtain rfl : w = w1 := hw.symm
      go_wp2_with (first | (refine wpList_dst 13 rfl ?_; refine wpList_run 13 rfl rfl _ (exec_bin .eql 9 _ (.tmp 11) (.tmp 12) rfl _ _ _ rfl rfl rfl (HE.out _)) ?_))
      go_ret
      exact ⟨by rw [HV.out]; rfl, rfl⟩
/-- What the reference's Made holds. -/
theorem md_size : (Tryz.prog.info? 72).map (·.size) = some 2 := by kernel_rfl
theorem md_one (z : ByteArray) (k : Int) : ∀ v ∈ [Value.string z, .int .i64 k], v.oneCell' = true := by
  intro v hv
  simp only [List.mem_cons, List.not_mem_nil, or_false] at hv
  rcases hv with rfl | rfl <;> rfl
theorem run_subZ (x y z : Int) (w : World) (h : x - y = z) (hz : -1000000000 ≤ z ∧ z ≤ 1000000000) : (binOp .sub 3 (.int .i64 x) (.int .i64 y)).run Tryz.prog w = .ok (.int .i64 z) w := by
  simp [binOp, go_sem]
  simp [IntKind.wrap, IntKind.bits, IntKind.signed]; omega
theorem run_addZ (x y z : Int) (w : World) (h : x + y = z) (hz : -1000000000 ≤ z ∧ z ≤ 1000000000) : (binOp .add 3 (.int .i64 x) (.int .i64 y)).run Tryz.prog w = .ok (.int .i64 z) w := by
  simp [binOp, go_sem]
  simp [IntKind.wrap, IntKind.bits, IntKind.signed]; omega
end Go.Proofs.YtpmlihhofmblpaaGreatDoor

/- The reference: Sub. -/
namespace Go.Proofs.YtpmlihhofmblpaaGreatDoor
open Go.RowKit Hm Wm Wn

theorem rsub_step {L : List Nat} {a b k β d β2 : Nat} (hl : L.length = k) (h : v256 L + b % 256 ^ k = a % 256 ^ k + 256 ^ k * β) (hn : d + b / 256 ^ k % 256 + β = a / 256 ^ k % 256 + 256 * β2) :
    v256 (L ++ [d]) + b % 256 ^ (k + 1) = a % 256 ^ (k + 1) + 256 ^ (k + 1) * β2 := by
  rw [v256_snoc, hl, byte_step a k, byte_step b k, Nat.pow_succ, Nat.mul_assoc (256 ^ k) 256]
  have e : 256 ^ k * d + 256 ^ k * (b / 256 ^ k % 256) + 256 ^ k * β = 256 ^ k * (a / 256 ^ k % 256) + 256 ^ k * (256 * β2) := by rw [← Nat.mul_add, ← Nat.mul_add, hn, Nat.mul_add]
  omega
/-- The reference's Made. -/
def mdV (z : ByteArray) (k : Int) : Value := .agg #[.string z, .int .i64 k]
set_option maxRecDepth 100000 in
set_option maxHeartbeats 1000000 in
theorem rsub_low (s t : ByteArray) (w : World) (hs : s.size ≤ 100000) (ht : t.size ≤ 100000) (hlt : nB s < nB t) : Calls Tryz.prog 76 #[.string s, .string t] w fun e w' => e = .returned (mdV ⟨#[]⟩ 3) ∧ Below w.heap.size w w' := by
  have HC := Lib.hid (fun W => rcmp_any s t W hs ht)
  rw [show cmpN (nB s) (nB t) = -1 by unfold cmpN; rw [if_pos hlt]] at HC
  clear hs ht hlt
  go_enter Tryz.func76, Tryz.ntmps76
  go_wp2_with fail
  have HK0 := Lib.hid (Blk.new w 72 [.string ⟨#[]⟩, .int .i64 0])
  have HW0 := Lib.hid ((Below.refl w.heap.size w).alloc (Nat.le_refl _) (.cells #[.string ⟨#[]⟩, .int .i64 0] 72))
  refine (HC.out _).mono ?_
  rintro e w1 ⟨rfl, hw⟩
  subst hw
  go_wp2_with (refine wpList_store_all rfl 72 (.tmp 4) (.tmp 13) rfl w.heap.size _ [.string ⟨#[]⟩, .int .i64 0] [.string ⟨#[]⟩, .int .i64 3] rfl rfl HK0.out rfl md_size (md_one _ _) ?_; intro w9 HK9 ho9; have HO9 := Lib.hid ho9; clear ho9)
  exact bodyPost_ret (results_blk rfl _ _ w.heap.size _ [.string ⟨#[]⟩, .int .i64 3] _ rfl HK9.out Tryz.underlying72 rfl md_size) rfl ⟨rfl, HW0.out.trans (HO9.out.below (Nat.le_refl _))⟩
def RsR (w : World) (a b n : Nat) (ov bv kv : Value) (wr : World) : Prop :=
  ∃ (k β : Nat) (L : List Nat), bv = .int .i64 β ∧ kv = .int .i64 k ∧ k ≤ n ∧ Hid (OwnI wr (w.heap.size + 1) ov L) ∧ Hid (L.length = k) ∧ Hid (Byt L) ∧ Hid (β ≤ 1) ∧ Hid (v256 L + b % 256 ^ k = a % 256 ^ k + 256 ^ k * β) ∧ Hid (Below w.heap.size w wr) ∧ Hid (Blk wr w.heap.size 72 [.string ⟨#[]⟩, .int .i64 0]) ∧ Hid (w.heap.size + 1 ≤ wr.heap.size)
set_option maxRecDepth 100000 in
set_option maxHeartbeats 1000000 in
theorem rsub_any (s t : ByteArray) (w : World) (hs : s.size ≤ 50000) (ht : t.size ≤ 50000) (hle : nB t ≤ nB s) : Calls Tryz.prog 76 #[.string s, .string t] w fun e w' => e = .returned (mdV (cS (nB s - nB t)) 0) ∧ Below w.heap.size w w' := by
  have HC := Lib.hid (fun W => rcmp_any s t W (by omega) (by omega))
  obtain ⟨cv, hcv⟩ : ∃ c, cmpN (nB s) (nB t) = c := ⟨_, rfl⟩
  have d0 : decide (cv < 0) = false := by
    refine decide_eq_false ?_
    rw [← hcv]; unfold cmpN; rw [if_neg (by omega)]; split <;> omega
  rw [hcv] at HC
  have HP := Lib.hid (show nB s < 256 ^ s.size from nB_lt s)
  have HD1 := Lib.hid (fun k W (h : k ≤ 100000) => rdigit_any s k W (by omega) h)
  have HD2 := Lib.hid (fun k W (h : k ≤ 100000) => rdigit_any t k W (by omega) h)
  have HLE := Lib.hid hle
  generalize nB s = a at HP HD1 HLE ⊢
  generalize nB t = b at HD2 HLE ⊢
  clear hle hcv ht
  go_enter Tryz.func76, Tryz.ntmps76
  go_wp2_with fail
  refine (HC.out _).mono ?_
  rintro e w1 ⟨rfl, hw⟩
  subst hw
  go_wp2_with fail
  go_loopw [5, 6, 7] (RsR w a b s.size) (fun _ _ kv _ => s.size - (intOf kv).toNat)
  case atStart => exact ⟨0, 0, [], rfl, rfl, by omega, Lib.hid (OwnI.nil _ _), Lib.hid rfl, Lib.hid (fun _ h => by cases h), Lib.hid (by omega), Lib.hid (by simp [v256, Nat.mod_one]), Lib.hid ((Below.refl _ _).alloc (Nat.le_refl _) _), Lib.hid (Blk.new w 72 [.string ⟨#[]⟩, .int .i64 0]), Lib.hid (by simp)⟩
  case round =>
    obtain ⟨k, β, L, rfl, rfl, hk, HO, HL, HB, HBT, HV, HW, HZ, HSZ⟩ := hrel
    by_cases hlt : k < s.size
    · have c1 : decide ((k : Int) < (s.size : Int)) = true := decide_eq_true (by omega)
      have c1' : decide (k < s.size) = true := decide_eq_true hlt
      obtain ⟨da, hda⟩ : ∃ d, a / 256 ^ k % 256 = d := ⟨_, rfl⟩
      obtain ⟨db, hdb⟩ : ∃ d, b / 256 ^ k % 256 = d := ⟨_, rfl⟩
      have hβ := HBT.out
      have h1 : da < 256 := by omega
      have h2 : db < 256 := by omega
      obtain ⟨z1, hz1⟩ : ∃ z, (da : Int) - (db : Int) = z := ⟨_, rfl⟩
      obtain ⟨z2, hz2⟩ : ∃ z, z1 - (β : Int) = z := ⟨_, rfl⟩
      have HF1 := Lib.hid (fun W => HD1.out k W (by omega))
      have HF2 := Lib.hid (fun W => HD2.out k W (by omega))
      have hst := fun d β2 h => rsub_step (d := d) (β2 := β2) HL.out HV.out h
      rw [hda] at HF1 hst
      rw [hdb] at HF2 hst
      have HA1 := Lib.hid (fun W => run_subZ da db z1 W hz1 (by omega))
      have HA2 := Lib.hid (fun W => run_subZ z1 β z2 W hz2 (by omega))
      have HLL := Lib.hid (show L.length ≤ 1000000 by rw [HL.out]; omega)
      by_cases hneg : z2 < 0
      · have c2 : decide (z2 < 0) = true := decide_eq_true hneg
        obtain ⟨d, hd⟩ : ∃ d : Nat, z2 + 256 = (d : Int) := ⟨(z2 + 256).toNat, by omega⟩
        have HA3 := Lib.hid (fun W => run_addZ z2 256 d W hd (by omega))
        have HST := Lib.hid (hst d 1 (by omega))
        have HB2 := Lib.hid (byt_snoc (d := d) HB.out (by omega))
        have HL2 := Lib.hid (show (L ++ [d]).length = k + 1 by rw [List.length_append, HL.out]; rfl)
        clear hda hdb hβ h1 h2 hz1 hz2 hst hneg hd HV HB HBT
        go_wp2_with fail
        refine (HF1.out wr).mono ?_
        rintro e w2 ⟨rfl, hw⟩
        obtain rfl : wr = w2 := hw.symm
        clear hw
        go_wp2_with fail
        refine (HF2.out wr).mono ?_
        rintro e w2 ⟨rfl, hw⟩
        obtain rfl : wr = w2 := hw.symm
        clear hw
        go_wp2_with (first
          | (refine wpList_dst 26 rfl ?_; refine wpList_run 26 rfl rfl _ (exec_bin .sub 3 _ (.tmp 22) (.tmp 25) rfl _ _ _ rfl rfl rfl (HA1.out _)) ?_)
          | (refine wpList_dst 28 rfl ?_; refine wpList_run 28 rfl rfl _ (exec_bin .sub 3 _ (.tmp 26) (.tmp 27) rfl _ _ _ rfl rfl rfl (HA2.out _)) ?_)
          | (refine wpList_dst 32 rfl ?_; refine wpList_run 32 rfl rfl _ (exec_bin .add 3 _ (.tmp 31) (.const (.int .i64 256)) rfl _ _ _ rfl rfl rfl (HA3.out _)) ?_)
          | (refine wpList_dst 36 rfl ?_; refine wpList_pushI rfl (.tmp 33) (.tmp 35) rfl (w.heap.size + 1) _ L rfl HO.out d HSZ.out HLL.out rfl ?_; intro v' w3 ho hb; have HO2 := Lib.hid ho; have HW2 := Lib.hid (HW.out.trans (hb.mono (Nat.le_succ _))); have HZ2 := Lib.hid (HZ.out.below hb (Nat.lt_succ_self _)); have HSZ2 := Lib.hid (Nat.le_trans HSZ.out hb.size); clear ho hb))
        go_roundw
        case rel => exact ⟨k + 1, 1, L ++ [d], rfl, by go_num, by omega, HO2, HL2, HB2, Lib.hid (Nat.le_refl _), HST, HW2, HZ2, HSZ2⟩
        case measure => simp [intOf]; omega
      · have c2 : decide (z2 < 0) = false := decide_eq_false hneg
        obtain ⟨d, hd⟩ : ∃ d : Nat, z2 = (d : Int) := ⟨z2.toNat, by omega⟩
        have HST := Lib.hid (hst d 0 (by omega))
        have HB2 := Lib.hid (byt_snoc (d := d) HB.out (by omega))
        have HL2 := Lib.hid (show (L ++ [d]).length = k + 1 by rw [List.length_append, HL.out]; rfl)
        clear hda hdb hβ h1 h2 hz1 hz2 hst hneg HV HB HBT
        subst hd
        go_wp2_with fail
        refine (HF1.out wr).mono ?_
        rintro e w2 ⟨rfl, hw⟩
        obtain rfl : wr = w2 := hw.symm
        clear hw
        go_wp2_with fail
        refine (HF2.out wr).mono ?_
        rintro e w2 ⟨rfl, hw⟩
        obtain rfl : wr = w2 := hw.symm
        clear hw
        go_wp2_with (first
          | (refine wpList_dst 26 rfl ?_; refine wpList_run 26 rfl rfl _ (exec_bin .sub 3 _ (.tmp 22) (.tmp 25) rfl _ _ _ rfl rfl rfl (HA1.out _)) ?_)
          | (refine wpList_dst 28 rfl ?_; refine wpList_run 28 rfl rfl _ (exec_bin .sub 3 _ (.tmp 26) (.tmp 27) rfl _ _ _ rfl rfl rfl (HA2.out _)) ?_)
          | (refine wpList_dst 36 rfl ?_; refine wpList_pushI rfl (.tmp 33) (.tmp 35) rfl (w.heap.size + 1) _ L rfl HO.out d HSZ.out HLL.out rfl ?_; intro v' w3 ho hb; have HO2 := Lib.hid ho; have HW2 := Lib.hid (HW.out.trans (hb.mono (Nat.le_succ _))); have HZ2 := Lib.hid (HZ.out.below hb (Nat.lt_succ_self _)); have HSZ2 := Lib.hid (Nat.le_trans HSZ.out hb.size); clear ho hb))
        go_roundw
        case rel => exact ⟨k + 1, 0, L ++ [d], rfl, by go_num, by omega, HO2, HL2, HB2, Lib.hid (by omega), HST, HW2, HZ2, HSZ2⟩
        case measure => simp [intOf]; omega
    · obtain rfl : k = s.size := by omega
      have c1 : decide ((s.size : Int) < (s.size : Int)) = false := decide_eq_false (by omega)
      have c1' : decide (s.size < s.size) = false := decide_eq_false (by omega)
      have hv : v256 L = a - b := by
        have h1 := HV.out
        have h2 := HP.out
        have h3 := HLE.out
        have h4 := v256_lt HB.out
        rw [HL.out] at h4
        rw [Nat.mod_eq_of_lt (by omega), Nat.mod_eq_of_lt (by omega)] at h1
        have hc : β = 0 := by
          rcases Nat.eq_zero_or_pos β with h | h
          · exact h
          · have : β = 1 := by have := HBT.out; omega
            subst this
            omega
        subst hc
        omega
      obtain ⟨A, cc, hov, hri⟩ := HO.out.form
      subst hov
      have hnum := rnumber_any A cc L wr hri (by rw [HL.out]; omega) HB.out
      rw [hv] at hnum
      have HN := Lib.hid hnum
      clear hv hri hnum HV HO
      go_wp2_with fail
      refine HN.out.mono ?_
      rintro e w2 ⟨rfl, hb⟩
      have HW2 := Lib.hid (HW.out.trans (hb.mono HW.out.size))
      have HZ2 := Lib.hid (HZ.out.next hb)
      clear hb
      go_wp2_with (refine wpList_store_all rfl 72 (.tmp 4) (.tmp 39) rfl w.heap.size _ [.string ⟨#[]⟩, .int .i64 0] [.string (cS (a - b)), .int .i64 0] rfl rfl HZ2.out rfl md_size (md_one _ _) ?_; intro w9 HK9 ho9; have HO9 := Lib.hid ho9; clear ho9)
      exact bodyPost_ret (results_blk rfl _ _ w.heap.size _ [.string (cS (a - b)), .int .i64 0] _ rfl HK9.out Tryz.underlying72 rfl md_size) rfl ⟨rfl, HW2.out.trans (HO9.out.below (Nat.le_refl _))⟩
end Go.Proofs.YtpmlihhofmblpaaGreatDoor

/- The reference: Mul. -/
namespace Go.Proofs.YtpmlihhofmblpaaGreatDoor
open Go.RowKit Hm Wm Wn

def iv (n : Nat) : Value := .int .i64 (n : Int)
theorem ic_set (l : List Nat) (n v : Nat) : (ic l).set n (iv v) = ic (l.set n v) := (List.map_set ..).symm
theorem wpList_store_I {w : World} {ops : Array Oper} {rest : List Oper} {op : Oper} {a : Act} {Q : Exit → Act → World → Prop} (hgd : op.guard = none) (x y : Operand) (ho : op.op = .store 3 x y)
    (g o : Nat) (t : TypeId) (l : List Nat) (v : Nat) (hx : a.eval x = .pointer (some ⟨g, o, none⟩)) (hy : a.eval y = .int .i64 v) (hb : Blk w g t (ic l)) (hl : o < l.length)
    (h : ∀ w', Hid (Blk w' g t (ic (l.set o v))) → Only g w w' → wpList Tryz.prog ops Q rest (a.put op.dst undef) w') : wpList Tryz.prog ops Q (op :: rest) a w := by
  have hfit : o + 1 ≤ (ic l).length := by rw [ic_len]; omega
  have hs := run_storeCells_at Tryz.prog g o t [iv v] 0 (ic l).toArray w hb (by simpa using hfit) (by intro u hu; rw [List.mem_singleton.1 hu]; rfl)
  have hi : (Tryz.prog.info? 3).map (·.size) = some 1 := by kernel_rfl
  have hrun : (Instr.storeAt 3 (.pointer (some ⟨g, o, none⟩)) (iv v)).run Tryz.prog w = .ok () (w.setRow g (splice (ic l) o [iv v]).toArray) := by
    cases hq : Tryz.prog.info? 3 with
    | none => simp [hq] at hi
    | some i =>
      have hsz : i.size = 1 := by simpa [hq] using hi
      have e : (splice (ic l) o [iv v]).toArray = ((ic l).toArray.toList.take (o + 0) ++ [iv v] ++ (ic l).toArray.toList.drop (o + 0 + [iv v].length)).toArray := by simp [splice]
      rw [e, ← hs]
      simp [Instr.storeAt, Instr.sureAddr, storeVar, sizeOf, typeInfo, hq, Value.cells, hsz, iv]
  have hsp : splice (ic l) o [iv v] = ic (l.set o v) := by
    rw [← ic_set]
    unfold splice
    rw [List.set_eq_take_append_cons_drop, if_pos (by rw [ic_len]; exact hl)]
    simp
  rw [hsp] at hrun
  refine wpList_plain hgd fun K hK => ?_
  unfold Oper.wp execOp
  simp only [ho, hx, hy, Sem.run_bind]
  have e2 : (Value.int IntKind.i64 (v : Int)) = iv v := rfl
  rw [e2, hrun]
  exact hK _ _ (h _ (Lib.hid (setRow_heap w g _ _ t _ hb)) (Only.setRow w g _))

theorem madeCells_I (n : Nat) : madeCells #[.int .i64 0] n = (ic (zd n)).toArray := by
  apply Array.ext
  · simp [madeCells, ic, zd]
  · intro i h1 h2
    have e : i % 1 = 0 := Nat.mod_one i
    simp [madeCells, ic, zd, e]
theorem run_zerosI (w : World) (n : Nat) (h : n ≤ 1000000) : (Instr.makeSlice 119 (.int .i64 n) (.int .i64 n)).run Tryz.prog w = .ok (.slice (some ⟨w.heap.size, 0, none⟩) n n) (w.alloc (.cells (ic (zd n)).toArray 3)) := by
  obtain ⟨i0, hi, hz0, hz1, hz2⟩ := info_parts in_info
  have := run_make (P := Tryz.prog) w 119 3 i0 _ il_under hi hz0 .i64 .i64 n n (by omega) (by omega) (by rw [hz2]; omega) (by omega)
  rw [hz1, Nat.mul_one, Int.toNat_natCast, show (Value.int IntKind.i64 0).cells = #[.int .i64 0] from rfl, madeCells_I] at this
  exact this
section
variable {w : World} {ops : Array Oper} {rest : List Oper} {o : Oper} {a : Act} {Q : Exit → Act → World → Prop}
theorem wpList_makeI (hgd : o.guard = none) (x y : Operand) (ho : o.op = .makeSlice 119 x y) (n : Nat) (hx : a.eval x = .int .i64 n) (hy : a.eval y = .int .i64 n) (hn : n ≤ 1000000)
    (h : ∀ w', Hid (Blk w' w.heap.size 3 (ic (zd n))) → Hid (Below w.heap.size w w') → wpList Tryz.prog ops Q rest (a.put o.dst (.slice (some ⟨w.heap.size, 0, none⟩) n n)) w') : wpList Tryz.prog ops Q (o :: rest) a w := by
  refine wpList_plain hgd fun K hK => ?_
  unfold Oper.wp
  rw [exec_makeSlice 119 x y ho _ _ _ hx hy (run_zerosI w n hn)]
  exact hK _ _ (h _ (Lib.hid (Blk.new w 3 (ic (zd n)))) (Lib.hid ((Below.refl _ _).alloc (Nat.le_refl _) _)))
end
theorem il_elem : Tryz.prog.elem 119 = 3 := by kernel_rfl
theorem il_sizeOf (W : World) : (sizeOf 3).run Tryz.prog W = .ok 1 W := by kernel_rfl
theorem run_atI (b off n c k : Nat) (hk : k < n) (W : World) : (Instr.indexAt 119 (.slice (some ⟨b, off, none⟩) n c) (.int .i64 k)).run Tryz.prog W = .ok (.pointer (some ⟨b, off + k, none⟩)) W := by
  refine (run_indexAt_slice W 119 ⟨b, off, none⟩ n c .i64 k (by rw [il_elem]; exact il_under)).trans ?_
  rw [if_pos ⟨by omega, by omega⟩, il_elem, il_sizeOf, Result.andThen_ok, Int.toNat_natCast, Addr.add_mid, Nat.mul_one]
theorem exec_atI {oi : Oper} {a : Act} {w : World} (x y : Operand) (ho : oi.op = .indexAddr 119 x y) (b off n c k : Nat) (hk : k < n) (hx : a.eval x = .slice (some ⟨b, off, none⟩) n c) (hy : a.eval y = .int .i64 k) : (execOp a.eval oi).run Tryz.prog w = .ok (.value (.pointer (some ⟨b, off + k, none⟩))) w :=
  exec_indexAddr _ x y ho _ _ _ hx hy (run_atI b off n c k hk w)

theorem rdI_blk {w : World} {g : Nat} {t : TypeId} {l : List Nat} (h : Blk w g t (ic l)) : RdI w (some ⟨g, 0, none⟩) l := fun _ => ⟨g, 0, rfl, fun k u hu => by rw [Nat.zero_add, h.cell k]; exact hu⟩
theorem cell_I {w : World} {g i v : Nat} {t : TypeId} {l : List Nat} (h : Blk w g t (ic l)) (hv : l[i]? = some v) : w.cell? ⟨g, i, none⟩ = some (.int .i64 (v : Int)) := by
  rw [h.cell i]
  unfold ic
  rw [List.getElem?_map, hv]
  rfl
theorem v256_set : ∀ (l : List Nat) (q v : Nat) (h : q < l.length), v256 (l.set q v) + 256 ^ q * l[q] = v256 l + 256 ^ q * v
  | d :: r, 0, v, _ => by simp [v256]; omega
  | d :: r, q + 1, v, h => by
    have ih := v256_set r q v (by simpa using h)
    rw [List.set_cons_succ, v256, v256, List.getElem_cons_succ, Nat.pow_succ, Nat.mul_comm (256 ^ q) 256, Nat.mul_assoc, Nat.mul_assoc]
    omega
theorem v256_zeros (n : Nat) : v256 (zd n) = 0 := by
  induction n with
  | zero => rfl
  | succ n ih => unfold zd at *; rw [List.replicate_succ, v256, ih]
theorem byt_set {l : List Nat} {q v : Nat} (h : Byt l) (hv : v < 256) : Byt (l.set q v) := fun x hx => by
  rcases List.mem_or_eq_of_mem_set hx with h1 | h1
  · exact h x h1
  · rw [h1]; exact hv
theorem byt_zeros (n : Nat) : Byt (zd n) := fun x hx => by rw [(List.mem_replicate.1 hx).2]; decide
theorem run_mulN (x y z : Nat) (w : World) (h : x * y = z) (hz : z ≤ 1000000000) : (binOp .mul 3 (.int .i64 x) (.int .i64 y)).run Tryz.prog w = .ok (.int .i64 (z : Int)) w := by
  have e : (x : Int) * (y : Int) = (z : Int) := by rw [← h]; push_cast; rfl
  simp [binOp, go_sem]
  rw [e]
  simp [IntKind.wrap, IntKind.bits, IntKind.signed]; omega
/-- One digit more of the inner loop. -/
theorem rmul_step {O : List Nat} {V i k d x b c n : Nat} (hj : i + k < O.length) (hx : O[i + k] = x) (h : v256 O + 256 ^ (i + k) * c = V + 256 ^ i * (d * (b % 256 ^ k))) (hn : x + d * (b / 256 ^ k % 256) + c = n) :
    v256 (O.set (i + k) (n % 256)) + 256 ^ (i + (k + 1)) * (n / 256) = V + 256 ^ i * (d * (b % 256 ^ (k + 1))) := by
  have h1 := v256_set O (i + k) (n % 256) hj
  rw [hx] at h1
  rw [byte_step b k, ← Nat.add_assoc, Nat.pow_succ, Nat.mul_assoc]
  have e1 : 256 ^ (i + k) * (n % 256) + 256 ^ (i + k) * (256 * (n / 256)) = 256 ^ (i + k) * n := by rw [← Nat.mul_add, Nat.mod_add_div]
  have e2 : 256 ^ (i + k) * n = 256 ^ (i + k) * x + 256 ^ (i + k) * (d * (b / 256 ^ k % 256)) + 256 ^ (i + k) * c := by rw [← hn, Nat.mul_add, Nat.mul_add]
  have e3 : 256 ^ i * (d * (b % 256 ^ k + 256 ^ k * (b / 256 ^ k % 256))) = 256 ^ i * (d * (b % 256 ^ k)) + 256 ^ (i + k) * (d * (b / 256 ^ k % 256)) := by
    rw [Nat.mul_add, Nat.mul_add, Nat.pow_add, Nat.mul_left_comm d (256 ^ k), ← Nat.mul_assoc (256 ^ i) (256 ^ k)]
  omega
/-- What stands in the outer loop, and in the inner one. -/
def RmO (w : World) (a b n i : Nat) (O : List Nat) (wr : World) : Prop := Blk wr w.heap.size 3 (ic O) ∧ O.length = n ∧ Byt O ∧ v256 O = a % 256 ^ i * b ∧ Below w.heap.size w wr
def RmI (w : World) (b n i k c d V : Nat) (O : List Nat) (wr : World) : Prop := Blk wr w.heap.size 3 (ic O) ∧ O.length = n ∧ Byt O ∧ c ≤ 255 ∧ v256 O + 256 ^ (i + k) * c = V + 256 ^ i * (d * (b % 256 ^ k)) ∧ Below w.heap.size w wr
set_option maxRecDepth 100000 in
set_option maxHeartbeats 2000000 in
theorem rmul_any (s t : ByteArray) (w : World) (hs : s.size ≤ 20000) (ht : t.size ≤ 20000) : Calls Tryz.prog 70 #[.string s, .string t] w fun e w' => e = .returned (.string (cS (nB s * nB t))) ∧ Below w.heap.size w w' := by
  obtain ⟨n, hn⟩ : ∃ n, s.size + t.size + 1 = n := ⟨_, rfl⟩
  have HNE := Lib.hid (show (s.size : Int) + (t.size : Int) + 1 = (n : Int) by omega)
  have HPA := Lib.hid (nB_lt s)
  have HPB := Lib.hid (nB_lt t)
  have HD1 := Lib.hid (fun k W (h : k ≤ 100000) => rdigit_any s k W (by omega) h)
  have HD2 := Lib.hid (fun k W (h : k ≤ 100000) => rdigit_any t k W (by omega) h)
  generalize nB s = a at HPA HD1 ⊢
  generalize nB t = b at HPB HD2 ⊢
  go_enter Tryz.func70, Tryz.ntmps70
  go_wp2_with (refine wpList_makeI rfl (.tmp 15) (.tmp 15) rfl n (congrArg (Value.int .i64) HNE.out) (congrArg (Value.int .i64) HNE.out) (by omega) ?_; intro w1 HK1 HB1)
  go_loopw [6] (fun iv wr => ∃ (i : Nat) (O : List Nat), iv = .int .i64 i ∧ i ≤ s.size ∧ Hid (RmO w a b n i O wr)) (fun iv _ => s.size - (intOf iv).toNat)
  case atStart => exact ⟨0, zd n, rfl, Nat.zero_le _, Lib.hid ⟨HK1.out, zd_len n, byt_zeros n, by rw [v256_zeros, Nat.pow_zero, Nat.mod_one, Nat.zero_mul], HB1.out⟩⟩
  case round =>
    obtain ⟨i, O, rfl, hi, HS⟩ := hrel
    by_cases hlt : i < s.size
    · have c1 : decide ((i : Int) < (s.size : Int)) = true := decide_eq_true (by omega)
      have c1' : decide (i < s.size) = true := decide_eq_true hlt
      obtain ⟨V, hV⟩ : ∃ V, v256 O = V := ⟨_, rfl⟩
      obtain ⟨d, hd⟩ : ∃ d, a / 256 ^ i % 256 = d := ⟨_, rfl⟩
      have HVA := Lib.hid (show V = a % 256 ^ i * b by rw [← hV]; exact HS.out.2.2.2.1)
      have HI0 := Lib.hid (show RmI w b n i 0 0 d V O wr from ⟨HS.out.1, HS.out.2.1, HS.out.2.2.1, by omega, by rw [Nat.pow_zero, Nat.mod_one]; omega, HS.out.2.2.2.2⟩)
      have HF1 := Lib.hid (fun W => HD1.out i W (by omega))
      rw [hd] at HF1
      have hd256 : d < 256 := by rw [← hd]; exact Nat.mod_lt _ (by decide)
      have HDD := Lib.hid hd
      clear hd hV HS
      go_wp2_with fail
      go_loopw [7, 8] (fun cv kv wr => ∃ (k c : Nat) (O : List Nat), cv = .int .i64 c ∧ kv = .int .i64 k ∧ k ≤ t.size + 1 ∧ Hid (RmI w b n i k c d V O wr)) (fun _ kv _ => t.size + 1 - (intOf kv).toNat)
      case atStart => exact ⟨0, 0, O, rfl, rfl, by omega, HI0⟩
      case round =>
        clear HI0
        obtain ⟨k, c, O, rfl, rfl, hk, HI⟩ := hrel
        by_cases hkt : k ≤ t.size
        · have c2 : decide ((k : Int) ≤ (t.size : Int)) = true := decide_eq_true (by omega)
          have c2' : decide (k ≤ t.size) = true := decide_eq_true hkt
          obtain ⟨i1, i2, i3, i4, i5, i6⟩ := HI.out
          have hj : i + k < O.length := by rw [i2]; omega
          obtain ⟨x, hx⟩ : ∃ x, O[i + k] = x := ⟨_, rfl⟩
          have hx256 : x < 256 := by rw [← hx]; exact i3 _ (List.getElem_mem hj)
          obtain ⟨f, hf⟩ : ∃ f, b / 256 ^ k % 256 = f := ⟨_, rfl⟩
          have hf256 : f < 256 := by rw [← hf]; exact Nat.mod_lt _ (by decide)
          obtain ⟨m, hm⟩ : ∃ m, d * f = m := ⟨_, rfl⟩
          have hm2 : m ≤ 65025 := by
            rw [← hm]
            exact Nat.mul_le_mul (show d ≤ 255 by omega) (show f ≤ 255 by omega)
          obtain ⟨n1, hn1⟩ : ∃ z, x + m = z := ⟨_, rfl⟩
          obtain ⟨n2, hn2⟩ : ∃ z, n1 + c = z := ⟨_, rfl⟩
          have hst := rmul_step hj hx i5 (show x + d * (b / 256 ^ k % 256) + c = n2 by rw [hf, hm, hn1, hn2])
          have HF2 := Lib.hid (fun W => HD2.out k W (by omega))
          rw [hf] at HF2
          have hxe : O[i + k]? = some x := by rw [← hx]; exact List.getElem?_eq_getElem hj
          obtain ⟨j, hjj⟩ : ∃ j, i + k = j := ⟨_, rfl⟩
          have HJ := Lib.hid (fun W => run_addN i k j W hjj (by omega))
          have HA1 := Lib.hid (fun W => run_mulN d f m W hm (by omega))
          have HA2 := Lib.hid (fun W => run_addN x m n1 W hn1 (by omega))
          have HA3 := Lib.hid (fun W => run_addN n1 c n2 W hn2 (by omega))
          have HRM := Lib.hid (fun W => run_rem256 n2 W (by omega))
          have HQU := Lib.hid (fun W => run_quo256 n2 W (by omega))
          rw [hjj] at hxe hst hj
          obtain ⟨e, he⟩ : ∃ z, n2 % 256 = z := ⟨_, rfl⟩
          obtain ⟨q, hq⟩ : ∃ z, n2 / 256 = z := ⟨_, rfl⟩
          have HB2 := Lib.hid (byt_set (q := j) (v := e) i3 (by omega))
          have HQ2 := Lib.hid (show q ≤ 255 by omega)
          have HXE := Lib.hid hxe
          have HJN := Lib.hid (show j < n by omega)
          have HJO := Lib.hid hj
          rw [he] at HRM hst
          rw [hq] at HQU hst
          have HST := Lib.hid hst
          have HBK := Lib.hid i1
          have HLO := Lib.hid i2
          have HW := Lib.hid i6
          clear i1 i2 i3 i4 i5 i6 hj hx hx256 hf hf256 hm hm2 hn1 hn2 hst hxe hjj he hq HI
          go_wp2_with fail
          refine wp_region_held_drew (S := fun W => Blk W w.heap.size 3 (ic O) ∧ Below w.heap.size w W) (by kernel_rfl) ⟨HBK.out.drew, HW.out.drew⟩ (fun hS => ?_)
          generalize wr.drew = u0 at hS ⊢
          refine reg_takeG (i := 0) (some 29) rfl rfl rfl (by kernel_rfl) (by kernel_rfl) (by kernel_rfl) (.slice (some ⟨w.heap.size, 0, none⟩) n n) (fun _ _ _ h => h) (fun W hW => exec_move (.tmp 5) rfl _ rfl) hS ?_
          go_frame
          refine reg_takeG (i := 1) (some 30) rfl rfl rfl (by kernel_rfl) (by kernel_rfl) (by kernel_rfl) (.int .i64 i) (fun _ _ _ h => h) (fun W hW => exec_move (.tmp 6) rfl _ rfl) hS ?_
          go_frame
          refine reg_takeG (i := 2) (some 31) rfl rfl rfl (by kernel_rfl) (by kernel_rfl) (by kernel_rfl) (.int .i64 k) (fun _ _ _ h => h) (fun W hW => exec_move (.tmp 8) rfl _ rfl) hS ?_
          go_frame
          refine reg_takeG (i := 3) (some 32) rfl rfl rfl (by kernel_rfl) (by kernel_rfl) (by kernel_rfl) (.int .i64 j) (fun _ _ _ h => h) (fun W hW => exec_bin .add 3 _ (.tmp 30) (.tmp 31) rfl _ _ _ rfl rfl rfl (HJ.out W)) hS ?_
          go_frame
          refine reg_takeG (i := 4) (some 33) rfl rfl rfl (by kernel_rfl) (by kernel_rfl) (by kernel_rfl) (.pointer (some ⟨w.heap.size, 0 + j, none⟩)) (fun _ _ _ h => h) (fun W hW => exec_atI (.tmp 29) (.tmp 32) rfl w.heap.size 0 n n j HJN.out rfl rfl) hS ?_
          go_frame
          refine reg_takeG (i := 5) (some 34) rfl rfl rfl (by kernel_rfl) (by kernel_rfl) (by kernel_rfl) (.int .i64 x) (fun _ _ _ h => h) (fun W hW => exec_loadI (.tmp 33) rfl _ rfl (by rw [Nat.zero_add]; exact cell_I hW.1 HXE.out)) hS ?_
          go_frame
          refine reg_takeG (i := 6) (some 35) rfl rfl rfl (by kernel_rfl) (by kernel_rfl) (by kernel_rfl) (.string s) (fun _ _ _ h => h) (fun W hW => exec_move (.tmp 0) rfl _ rfl) hS ?_
          go_frame
          refine reg_takeG (i := 7) (some 36) rfl rfl rfl (by kernel_rfl) (by kernel_rfl) (by kernel_rfl) (.int .i64 i) (fun _ _ _ h => h) (fun W hW => exec_move (.tmp 6) rfl _ rfl) hS ?_
          go_frame
          refine reg_takeG (i := 9) (some 38) rfl rfl rfl (by kernel_rfl) (by kernel_rfl) (by kernel_rfl) (.string t) (fun _ _ _ h => h) (fun W hW => exec_move (.tmp 1) rfl _ rfl) hS ?_
          go_frame
          refine reg_takeG (i := 10) (some 39) rfl rfl rfl (by kernel_rfl) (by kernel_rfl) (by kernel_rfl) (.int .i64 k) (fun _ _ _ h => h) (fun W hW => exec_move (.tmp 8) rfl _ rfl) hS ?_
          go_frame
          refine reg_takeG (i := 14) (some 43) rfl rfl rfl (by kernel_rfl) (by kernel_rfl) (by kernel_rfl) (.int .i64 c) (fun _ _ _ h => h) (fun W hW => exec_move (.tmp 7) rfl _ rfl) hS ?_
          go_frame
          refine reg_callG (i := 8) (some 37) rfl rfl rfl (by kernel_rfl) rfl Tryz.func61 (by kernel_rfl) (by kernel_rfl) #[.string s, .int .i64 i] rfl (HF1.out u0) ?_
          rintro e u1 ⟨rfl, hw⟩
          obtain rfl : u0 = u1 := hw.symm
          clear hw
          refine ⟨_, rfl, hS, ?_⟩
          go_frame
          refine reg_callG (i := 11) (some 40) rfl rfl rfl (by kernel_rfl) rfl Tryz.func61 (by kernel_rfl) (by kernel_rfl) #[.string t, .int .i64 k] rfl (HF2.out u0) ?_
          rintro e u1 ⟨rfl, hw⟩
          obtain rfl : u0 = u1 := hw.symm
          clear hw
          refine ⟨_, rfl, hS, ?_⟩
          go_frame
          refine reg_takeG (i := 12) (some 41) rfl rfl rfl (by kernel_rfl) (by kernel_rfl) (by kernel_rfl) (.int .i64 m) (fun _ _ _ h => h) (fun W hW => exec_bin .mul 3 _ (.tmp 37) (.tmp 40) rfl _ _ _ rfl rfl rfl (HA1.out W)) hS ?_
          go_frame
          refine reg_takeG (i := 13) (some 42) rfl rfl rfl (by kernel_rfl) (by kernel_rfl) (by kernel_rfl) (.int .i64 n1) (fun _ _ _ h => h) (fun W hW => exec_bin .add 3 _ (.tmp 34) (.tmp 41) rfl _ _ _ rfl rfl rfl (HA2.out W)) hS ?_
          go_frame
          refine reg_takeG (i := 15) (some 44) rfl rfl rfl (by kernel_rfl) (by kernel_rfl) (by kernel_rfl) (.int .i64 n2) (fun _ _ _ h => h) (fun W hW => exec_bin .add 3 _ (.tmp 42) (.tmp 43) rfl _ _ _ rfl rfl rfl (HA3.out W)) hS ?_
          go_frame
          refine reg_takeG (i := 16) (some 9) rfl rfl rfl (by kernel_rfl) (by kernel_rfl) (by kernel_rfl) (.int .i64 n2) (fun _ _ _ h => h) (fun W hW => exec_assign (.tmp 44) rfl _ rfl) hS ?_
          go_frame
          refine wpAnyH_done (by kernel_rfl) ?_ _
          have HBU := Lib.hid hS.1
          have HWU := Lib.hid hS.2
          clear hS
          go_wp2_with (first
            | (refine wpList_dst 48 rfl ?_; refine wpList_run 48 rfl rfl _ (exec_bin .add 3 _ (.tmp 46) (.tmp 47) rfl _ _ _ rfl rfl rfl (HJ.out _)) ?_)
            | (refine wpList_dst 50 rfl ?_; refine wpList_run 50 rfl rfl _ (exec_bin .rem 3 _ (.tmp 49) (.const (.int .i64 256)) rfl _ _ _ rfl rfl rfl (HRM.out _)) ?_)
            | (refine wpList_dst 51 rfl ?_; refine wpList_run 51 rfl rfl _ (exec_atI (.tmp 45) (.tmp 48) rfl w.heap.size 0 n n j HJN.out rfl rfl) ?_)
            | (refine wpList_store_I rfl (.tmp 51) (.tmp 50) rfl w.heap.size (0 + j) _ O e rfl rfl HBU.out (by rw [Nat.zero_add]; exact HJO.out) ?_; intro w5 HB5 ho5; have HW5 := Lib.hid (HWU.out.trans (ho5.below (Nat.le_refl _))); clear ho5)
            | (refine wpList_dst 53 rfl ?_; refine wpList_run 53 rfl rfl _ (exec_bin .quo 3 _ (.tmp 52) (.const (.int .i64 256)) rfl _ _ _ rfl rfl rfl (HQU.out _)) ?_))
          go_roundw
          case rel => exact ⟨k + 1, q, O.set j e, rfl, by go_num, by omega, Lib.hid ⟨by have := HB5.out; rwa [Nat.zero_add] at this, by rw [List.length_set]; exact HLO.out, HB2.out, HQ2.out, HST.out, HW5.out⟩⟩
          case measure => simp [intOf]; omega
        · obtain rfl : k = t.size + 1 := by omega
          have c2 : decide (((t.size + 1 : Nat) : Int) ≤ (t.size : Int)) = false := decide_eq_false (by omega)
          have c2' : decide (t.size + 1 ≤ t.size) = false := decide_eq_false (by omega)
          obtain ⟨i1, i2, i3, i4, i5, i6⟩ := HI.out
          have hfin : v256 O = a % 256 ^ (i + 1) * b := by
            have hp := HPB.out
            have h3 : 256 ^ (t.size + 1) = 256 ^ t.size * 256 := Nat.pow_succ ..
            rw [Nat.mod_eq_of_lt (by omega), HVA.out] at i5
            have e1 : a % 256 ^ (i + 1) * b = a % 256 ^ i * b + 256 ^ i * (d * b) := by rw [byte_step a i, HDD.out, Nat.add_mul, Nat.mul_assoc]
            have h4 : a % 256 ^ (i + 1) * b < 256 ^ (i + 1) * 256 ^ t.size := Nat.mul_lt_mul_of_lt_of_le (Nat.mod_lt _ (Nat.pow_pos (by decide))) (Nat.le_of_lt hp) (Nat.pow_pos (by decide))
            have h5 : 256 ^ (i + 1) * 256 ^ t.size = 256 ^ (i + (t.size + 1)) := by rw [← Nat.pow_add]; congr 1; omega
            rw [h5] at h4
            have hc : c = 0 := by
              rcases Nat.eq_zero_or_pos c with h | h
              · exact h
              · have := Nat.le_mul_of_pos_right (256 ^ (i + (t.size + 1))) h
                omega
            subst hc
            omega
          have HFI := Lib.hid (show RmO w a b n (i + 1) O wr from ⟨i1, i2, i3, hfin, i6⟩)
          clear i1 i2 i3 i4 i5 i6 hfin HI
          go_wp2_with fail
          go_roundw
          case rel => exact ⟨i + 1, O, by go_num, by omega, HFI⟩
          case measure => simp [intOf]; omega
    · obtain rfl : i = s.size := by omega
      have c1 : decide ((s.size : Int) < (s.size : Int)) = false := decide_eq_false (by omega)
      have c1' : decide (s.size < s.size) = false := decide_eq_false (by omega)
      obtain ⟨i1, i2, i3, i4, i5⟩ := HS.out
      rw [Nat.mod_eq_of_lt HPA.out] at i4
      have hnum := rnumber_any (some ⟨w.heap.size, 0, none⟩) n O wr (rdI_blk i1) (by omega) i3
      rw [i4, i2] at hnum
      have HN := Lib.hid hnum
      have HW := Lib.hid i5
      clear hnum i1 i2 i3 i4 i5 HS
      go_wp2_with fail
      refine HN.out.mono ?_
      rintro e w2 ⟨rfl, hb⟩
      have HW2 := Lib.hid (HW.out.trans (hb.mono HW.out.size))
      clear hb
      go_wp2
      go_ret
      exact ⟨rfl, HW2.out⟩
end Go.Proofs.YtpmlihhofmblpaaGreatDoor
