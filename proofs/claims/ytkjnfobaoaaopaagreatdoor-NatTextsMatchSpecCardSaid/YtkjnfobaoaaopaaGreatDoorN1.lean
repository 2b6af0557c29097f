/- Rows of words; the library's carries; digit and product. -/
import Derived.Test.YtkjnfobaoaaopaaGreatDoorNB
import Derived.Laws.Externs
import Derived.Shelf.Bits.Mul64
import Derived.Test.YtkjnfobaoaaopaaGreatDoorNShelf
namespace Go.Proofs.YtkjnfobaoaaopaaGreatDoor
open Go.RowKit Hm Wm Wn

/-- A word. -/
def wu (d : Nat) : Value := .int .u64 (d : Int)
def ws (l : List Nat) : List Value := l.map wu
theorem ws_len (l : List Nat) : (ws l).length = l.length := List.length_map _
theorem ws_app (l r : List Nat) : ws (l ++ r) = ws l ++ ws r := List.map_append
theorem ws_one (l : List Nat) : ∀ v ∈ ws l, v.oneCell' = true := by intro v hv; obtain ⟨d, -, rfl⟩ := List.mem_map.1 hv; rfl
theorem ws_at {l : List Nat} {k : Nat} (h : k < l.length) : (ws l)[k]? = some (wu l[k]) := by simp [ws, h]
/-- A row of words that can be read. -/
def RdW (w : World) (A : Option Addr) (l : List Nat) : Prop := Rd w A (ws l)
theorem RdW.below {w w' : World} {A : Option Addr} {l : List Nat} (h : RdW w A l) (hb : Below w.heap.size w w') : RdW w' A l := Rd.below h hb
theorem RdW.next {w w' : World} {A : Option Addr} {l : List Nat} (h : RdW w A l) (hb : Below w.heap.size w w') : RdW w' A l := Rd.below h hb
theorem RdW.cell {w : World} {A : Option Addr} {l : List Nat} (h : RdW w A l) {k : Nat} (hk : k < l.length) : ∃ b off, A = some ⟨b, off, none⟩ ∧ w.cell? ⟨b, off + k, none⟩ = some (.int .u64 (l[k] : Int)) :=
  Rd.at_ h (k := k) (u := wu l[k]) (ws_at hk)

theorem exec_extern {P : Program} {oi : Oper} {a : Act} {w : World} {F : FuncId} {xs : Array Operand} {ts : Array TypeId} (ho : oi.op = .call { callee := .value (.func F), args := xs, argTypes := ts }) (vs : Array Value) (hvs : xs.toList.map a.eval = vs.toList) (v : Value) (hrun : (callFunc F vs).run P w = .ok (.value v) w) : (execOp a.eval oi).run P w = .ok (.value v) w := by
  obtain rfl : xs.map a.eval = vs := by apply Array.toList_inj.1; simpa using hvs
  simp [execOp, ho, resolve, invoke, Deferred.ofValue, Act.eval, hrun]
theorem call_add64 (m n : Nat) (w : World) : (callFunc 77 #[.int .u64 m, .int .u64 n, .int .u64 0]).run Tryz.prog w = .ok (.value (.tuple #[.int .u64 (((m + n) % B : Nat) : Int), .int .u64 (((m + n) / B : Nat) : Int)])) w := by
  rw [run_callFunc_extern Tryz.func77 (by kernel_rfl) (by kernel_rfl) (by kernel_rfl) (e := add64Entry) (by kernel_rfl), run_add64 m n 0 (by omega) (by omega) (by omega) (by omega)]
  simp only [Result.andThen, B]
  congr 5 <;> omega
theorem exec_add64 {oi : Oper} {a : Act} {w : World} (x y : Operand) (ts : Array TypeId) (ho : oi.op = .call { callee := .value (.func 77), args := #[x, y, .const (.int .u64 0)], argTypes := ts }) (m n s t : Nat) (hs : (m + n) % B = s) (ht : (m + n) / B = t) (hx : a.eval x = .int .u64 m) (hy : a.eval y = .int .u64 n) :
    (execOp a.eval oi).run Tryz.prog w = .ok (.value (.tuple #[.int .u64 (s : Int), .int .u64 (t : Int)])) w := by
  subst hs
  subst ht
  exact exec_extern ho #[.int .u64 m, .int .u64 n, .int .u64 0] (by show [a.eval x, a.eval y, _] = _; rw [hx, hy]; rfl) _ (call_add64 m n w)

set_option maxRecDepth 100000 in
set_option maxHeartbeats 400000 in
theorem digit_any (A : Option Addr) (c : Nat) (l : List Nat) (i : Nat) (w : World) (hr : RdW w A l) :
    Calls Tryz.prog 46 #[.slice A l.length c, .int .i64 i] w fun e w' => e = .returned (.int .u64 (l.getD i 0 : Nat)) ∧ w' = w := by
  by_cases h : i < l.length
  · obtain ⟨b, off, rfl, hc⟩ := hr.cell h
    have d1 : decide ((l.length : Int) ≤ (i : Int)) = false := decide_eq_false (by omega)
    have d1' : decide (l.length ≤ i) = false := decide_eq_false (by omega)
    have HX := Lib.hid (show l.getD i 0 = l[i] by simp [List.getD_eq_getElem?_getD, h])
    obtain ⟨x, hx⟩ : ∃ x, l[i] = x := ⟨_, rfl⟩
    rw [hx] at hc HX
    clear hr hx
    go_enter Tryz.func46, Tryz.ntmps46
    go_wp2
    go_ret
    exact ⟨by rw [HX.out]; rfl, rfl⟩
  · have d1 : decide ((l.length : Int) ≤ (i : Int)) = true := decide_eq_true (by omega)
    have d1' : decide (l.length ≤ i) = true := decide_eq_true (by omega)
    have HX := Lib.hid (show l.getD i 0 = 0 by simp [List.getD_eq_getElem?_getD, List.getElem?_eq_none (show l.length ≤ i by omega)])
    clear hr
    go_enter Tryz.func46, Tryz.ntmps46
    go_wp2
    go_ret
    exact ⟨by rw [HX.out]; rfl, rfl⟩

theorem mul_lt {x f c : Nat} (hx : x < B) (hf : f < B) (hc : c < B) : (x * f + c) / B < B ∧ x * f / B + (x * f % B + c) / B = (x * f + c) / B ∧ (x * f % B + c) % B = (x * f + c) % B := by
  have h1 : x * f ≤ (B - 1) * (B - 1) := Nat.mul_le_mul (by omega) (by omega)
  have h2 : (B - 1) * (B - 1) + (B - 1) < B * B := by decide
  refine ⟨?_, ?_, ?_⟩
  · rw [Nat.div_lt_iff_lt_mul B_pos]; omega
  · have h3 := Nat.div_add_mod (x * f) B
    conv => rhs; rw [← h3, Nat.add_assoc, Nat.mul_add_div B_pos]
  · rw [Nat.add_mod, Nat.mod_mod, ← Nat.add_mod]
set_option maxRecDepth 100000 in
set_option maxHeartbeats 400000 in
/-- The two digits of f times a digit, and what is carried to it. -/
theorem product_any (A : Option Addr) (c : Nat) (l : List Nat) (i f k : Nat) (w : World) (hr : RdW w A l) (hd : Dig l) (hf : f < B) (hk : k < B) :
    Calls Tryz.prog 76 #[.slice A l.length c, .int .i64 i, .int .u64 f, .int .u64 k] w fun e w' => e = .returned (.tuple #[.int .u64 ((l.getD i 0 * f + k) / B : Nat), .int .u64 ((l.getD i 0 * f + k) % B : Nat)]) ∧ w' = w := by
  have hx : l.getD i 0 < B := by
    rw [List.getD_eq_getElem?_getD]
    by_cases h : i < l.length
    · simp only [List.getElem?_eq_getElem h, Option.getD_some]; exact hd _ (List.getElem_mem h)
    · rw [List.getElem?_eq_none (by omega)]; exact B_pos
  have HC := Lib.hid (digit_any A c l i w hr)
  obtain ⟨x, hxx⟩ : ∃ x, l.getD i 0 = x := ⟨_, rfl⟩
  rw [hxx] at HC hx ⊢
  obtain ⟨h1, h2, h3⟩ := mul_lt hx hf hk
  have hm := Tryz.bits_Mul64 x f hx hf w
  have e0 : (18446744073709551616 : Nat) = B := rfl
  rw [e0] at hm
  obtain ⟨q, hq⟩ : ∃ q, x * f / B = q := ⟨_, rfl⟩
  obtain ⟨r, hr'⟩ : ∃ r, x * f % B = r := ⟨_, rfl⟩
  rw [hq] at hm h2
  rw [hr'] at hm h2 h3
  obtain ⟨s, hs⟩ : ∃ s, (r + k) % B = s := ⟨_, rfl⟩
  obtain ⟨t, ht⟩ : ∃ t, (r + k) / B = t := ⟨_, rfl⟩
  rw [ht] at h2
  rw [hs] at h3
  rw [← h2] at h1
  have hqt : q + t ≤ 18446744073709551615 := Nat.le_of_lt_succ h1
  have HM := Lib.hid hm
  have HS := Lib.hid hs
  have HT := Lib.hid ht
  have HP2 := Lib.hid h2
  have HP3 := Lib.hid h3
  clear hr hd hxx h1 h2 h3 hx hf hk hm hq hr' hs ht e0
  go_enter Tryz.func76, Tryz.ntmps76
  go_wp2_with fail
  refine HC.out.mono ?_
  rintro e w' ⟨rfl, rfl⟩
  go_wp2_with fail
  refine HM.out.mono ?_
  rintro e w' ⟨rfl, rfl⟩
  go_wp2_with (refine wpList_run 22 rfl rfl _ (exec_add64 (.tmp 20) (.tmp 21) _ rfl r k s t HS.out HT.out rfl rfl) ?_)
  go_ret2
  exact ⟨by rw [← HP2.out, ← HP3.out]; rfl, rfl⟩
end Go.Proofs.YtkjnfobaoaaopaaGreatDoor
