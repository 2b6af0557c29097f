/- What came in: a list of tokens, a pair of bytes. -/
import Derived.Test.YtggjgikpiljoiaaDoorL16
import Derived.Lib.SmallJoins
import Derived.WideKeyPair
import Derived.Deep.Slices
import Derived.OpenShut
import Derived.ChangeOld
import Derived.ProofKit
namespace Go.Proofs.YtggjgikpiljoiaaDoor
open Go.ChangeShapes Go.WideShapes Go.ChangeAt Go.Deep Go.RowKit Go.WideMaps Go.Joins Hm Wm

theorem bounds_u8 {n : Int} (h : (Lit.int .u8 n).wf = true) : 0 ≤ n ∧ n ≤ 255 := by
  have h1 : IntKind.u8.min = 0 := rfl
  have h2 : IntKind.u8.max = 255 := rfl
  simp [Lit.wf] at h
  omega
theorem bounds_i64 {n : Int} (h : (Lit.int .i64 n).wf = true) : -9223372036854775808 ≤ n ∧ n ≤ 9223372036854775807 := by
  have h1 : IntKind.i64.min = -9223372036854775808 := rfl
  have h2 : IntKind.i64.max = 9223372036854775807 := rfl
  simp [Lit.wf] at h
  omega
section
variable {H : Type} {enc : TypeId × Value → H} {w : World} {a : Option Addr} {len cap : Nat} {d : DataW H} {p : List MemPlace}
set_option maxRecDepth 100000 in
theorem trod_tok {base : Nat} {sp : Nat → Bool} {held : Bool} {fuel : Nat} {cs : List Value} {x : DataW H × List MemPlace} (h : DataW.trod enc Tryd.prog w base sp held fuel 33 cs = some x) : ∃ t : TI, cs = cT t ∧ -9223372036854775808 ≤ t.v ∧ t.v ≤ 9223372036854775807 := by
  have hci : Tryd.prog.cellsOf 3 = 1 := by kernel_rfl
  have hcs : Tryd.prog.cellsOf 9 = 1 := by kernel_rfl
  have hc4 : Tryd.prog.cellsOf 33 = 4 := by kernel_rfl
  obtain ⟨y0, y1, y2, y3, n, hx, hl, h0, h1, h2, h3⟩ := trod_struct4 Tryd.underlying33 h
  rw [hc4] at hl
  obtain ⟨c0, c1, c2, c3, rfl⟩ : ∃ a b c e, cs = [a, b, c, e] := by
    match cs, hl with
    | [a, b, c, e], _ => exact ⟨a, b, c, e, rfl⟩
  dsimp only at h0 h1 h2 h3
  rw [hci] at h0 h1 h3
  rw [hcs] at h2
  have k0 : DataW.trod enc Tryd.prog w base sp held n 3 [c0] = some y0 := h0
  have k1 : DataW.trod enc Tryd.prog w base sp held n 3 [c1] = some y1 := h1
  have k2 : DataW.trod enc Tryd.prog w base sp held n 9 [c2] = some y2 := h2
  have k3 : DataW.trod enc Tryd.prog w base sp held n 3 [c3] = some y3 := h3
  obtain ⟨l, e0, _⟩ := DataW.trod_int Tryd.underlying3 k0
  obtain ⟨f, e1, _⟩ := DataW.trod_int Tryd.underlying3 k1
  obtain ⟨g, e2, _, _⟩ := DataW.trod_string Tryd.underlying9 k2
  obtain ⟨v, e3, _, hwf⟩ := DataW.trod_int Tryd.underlying3 k3
  injection e0 with e0 _
  injection e1 with e1 _
  injection e2 with e2 _
  injection e3 with e3 _
  subst e0 e1 e2 e3
  exact ⟨⟨l, f, g, v⟩, rfl, bounds_i64 hwf⟩
set_option maxRecDepth 100000 in
theorem toks_of (h : DataW.Trod enc Tryd.prog w 0 (fun _ => true) true 23 (.slice a len cap) d p) :
    ∃ l : List TI, l.length = len ∧ RdT w a l ∧ len ≤ cap ∧ cap ≤ maxLen ∧ (∀ x ∈ l, -9223372036854775808 ≤ x.v ∧ x.v ≤ 9223372036854775807) ∧ True := by
  obtain ⟨fuel, hf⟩ := h
  rcases open_slice Tryd.underlying23 hf with ⟨hcs, hx⟩ | ⟨x, l, c, m, n, D, Pl, hcs, _, hl, hm, hz, hx, hcell⟩
  · simp [Value.cells] at hcs
    obtain ⟨rfl, rfl, rfl⟩ := hcs
    exact ⟨[], rfl, Rd.nil _ _, Nat.le_refl _, Nat.zero_le _, by simp, trivial⟩
  · simp [Value.cells] at hcs
    obtain ⟨rfl, rfl, rfl⟩ := hcs
    have hz' : m = cap := by simpa using hz
    have hc3 : Tryd.prog.cellsOf 33 = 4 := by kernel_rfl
    rw [hc3] at hcell
    have hone : ∀ i, i < len → ∃ t : TI, w.cells? 0 (x.add (i * 4)) 4 = some (cT t) ∧ -9223372036854775808 ≤ t.v ∧ t.v ≤ 9223372036854775807 := by
      intro i hi
      obtain ⟨cs, h1, h2⟩ := hcell i (by omega)
      obtain ⟨t, rfl, h3⟩ := trod_tok h2
      exact ⟨t, h1, h3⟩
    obtain ⟨L, hLl, hLe, hLv⟩ : ∃ L : List TI, L.length = len ∧ (∀ i (hi : i < L.length), w.cells? 0 (x.add (i * 4)) 4 = some (cT L[i])) ∧ (∀ x ∈ L, -9223372036854775808 ≤ x.v ∧ x.v ≤ 9223372036854775807) := by
      clear hcell hf
      have key : ∀ k, k ≤ len → ∃ L : List TI, L.length = k ∧ (∀ i (hi : i < L.length), w.cells? 0 (x.add (i * 4)) 4 = some (cT L[i])) ∧ (∀ x ∈ L, -9223372036854775808 ≤ x.v ∧ x.v ≤ 9223372036854775807) := by
        intro k
        induction k with
        | zero => intro _; exact ⟨[], rfl, fun i hi => by simp at hi, by simp⟩
        | succ k ih =>
          intro hk
          obtain ⟨L, h1, h2, hv⟩ := ih (by omega)
          obtain ⟨l, h4, hlv⟩ := hone k (by omega)
          refine ⟨L ++ [l], by simp [h1], fun i hi => ?_, fun x hx => ?_⟩
          rotate_left
          · rw [List.mem_append, List.mem_singleton] at hx
            rcases hx with hx | rfl
            · exact hv x hx
            · exact hlv
          rcases Nat.lt_or_ge i L.length with h5 | h5
          · rw [List.getElem_append_left h5]; exact h2 i h5
          · have h6 : i = L.length := by simp at hi; omega
            subst h6
            rw [List.getElem_append_right (Nat.le_refl _)]
            simp only [Nat.sub_self, List.getElem_cons_zero]
            rw [h1]; exact h4
      exact key len (Nat.le_refl _)
    refine ⟨L, hLl, ?_, hl, hm, hLv, trivial⟩
    intro hne
    have hlen : 0 < L.length := by
      rcases Nat.eq_zero_or_pos L.length with h0 | h0
      · have : L = [] := List.eq_nil_of_length_eq_zero h0
        rw [this] at hne; exact absurd rfl hne
      · exact h0
    have hcellAt : ∀ i (hi : i < L.length), ∀ j u, (cT L[i])[j]? = some u → w.cell? ((x.add (i * 4)).add j) = some u := by
      intro i hi j u hu
      have h3 := World.cells?_some (hLe i hi)
      have hj : j < 4 := by
        rcases Nat.lt_or_ge j 4 with h | h
        · exact h
        · rw [List.getElem?_eq_none (by show 4 ≤ j; exact h)] at hu; cases hu
      rw [h3.2.2 j hj]
      exact hu
    have h0 := hcellAt 0 hlen 0 _ rfl
    obtain ⟨b, off, spot⟩ := x
    have hspot : spot = none := by simpa [Addr.add] using World.cell?_spot h0
    subst hspot
    refine ⟨b, off, rfl, fun k u hu => ?_⟩
    have hk : k < L.length * 4 := by
      rcases Nat.lt_or_ge k (L.length * 4) with h | h
      · exact h
      · rw [List.getElem?_eq_none (by rw [tL_len]; exact h)] at hu; cases hu
    have hki : k / 4 < L.length := by omega
    have hm2 := Nat.mod_lt k (show 0 < 4 by omega)
    have e : tL L = tL (L.take (k / 4)) ++ (cT L[k / 4] ++ tL (L.drop (k / 4 + 1))) := by
      conv => lhs; rw [← List.take_append_drop (k / 4) L, List.drop_eq_getElem_cons hki]
      rw [tL_app]; rfl
    have hl2 : (tL (L.take (k / 4))).length = k / 4 * 4 := by
      rw [tL_len, List.length_take, Nat.min_eq_left (by omega)]
    rw [e, List.getElem?_append_right (by omega), hl2, List.getElem?_append_left (by show k - k / 4 * 4 < 4; omega)] at hu
    have h8 := hcellAt (k / 4) hki (k - k / 4 * 4) u hu
    rw [Addr.add_mid, Addr.add_mid, show off + k / 4 * 4 + (k - k / 4 * 4) = off + k from by omega] at h8
    exact h8
end
theorem pair_key : ArrKey Tryd.prog 38 5 2 := ⟨Tryd.underlying38, by kernel_rfl, by kernel_rfl, by kernel_rfl⟩
set_option maxRecDepth 100000 in
theorem pair_of {H : Type} {enc : TypeId × Value → H} {w : World} {r : Reach} {b0 : Nat} {v : Value} {d : DataW H} {p : List MemPlace} (hval : Value.okWide Tryd.prog w r b0 38 v)
    (h : DataW.Trod enc Tryd.prog w 0 (fun _ => true) true 38 v d p) : ∃ x y : Nat, v = .agg #[.int .u8 x, .int .u8 y] ∧ x < 256 ∧ y < 256 := by
  obtain ⟨x, y, rfl, _, _, hx, hy⟩ := open_pair pair_key Tryd.underlying5 hval h
  have h1 := bounds_u8 hx
  have h2 := bounds_u8 hy
  refine ⟨x.toNat, y.toNat, ?_, by omega, by omega⟩
  rw [Int.toNat_of_nonneg (by omega), Int.toNat_of_nonneg (by omega)]
end Go.Proofs.YtggjgikpiljoiaaDoor
