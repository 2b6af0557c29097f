/- What came in: a number, a list of numbers, two integers. -/
import Derived.Test.YtpmlihhofmblpaaGreatDoorQc
import Derived.Lib.SmallJoins
import Derived.WideKeyPair
import Derived.Deep.Slices
namespace Go.Proofs.YtpmlihhofmblpaaGreatDoor
open Go.ChangeShapes Go.Deep Go.RowKit Hm Wm Wn

section
variable {H : Type} {enc : TypeId × Value → H} {w : World} {a : Option Addr} {len cap : Nat} {d : DataW H} {p : List MemPlace}
set_option maxRecDepth 100000 in
theorem trod_rat {base : Nat} {sp : Nat → Bool} {held : Bool} {fuel : Nat} {cs : List Value} {x : DataW H × List MemPlace} (h : DataW.trod enc Tryz.prog w base sp held fuel 26 cs = some x) : ∃ t : Rv, cs = cQ t := by
  have hcb : Tryz.prog.cellsOf 4 = 1 := by kernel_rfl
  have hcs : Tryz.prog.cellsOf 9 = 1 := by kernel_rfl
  have hc3 : Tryz.prog.cellsOf 26 = 3 := by kernel_rfl
  obtain ⟨y0, y1, y2, n, hx, hl, h0, h1, h2⟩ := trod_struct3 Tryz.underlying26 h
  rw [hc3] at hl
  obtain ⟨c0, c1, c2, rfl⟩ : ∃ a b c, cs = [a, b, c] := by
    match cs, hl with
    | [a, b, c], _ => exact ⟨a, b, c, rfl⟩
  dsimp only at h0 h1 h2
  rw [hcb] at h0
  rw [hcs] at h1 h2
  have k0 : DataW.trod enc Tryz.prog w base sp held n 4 [c0] = some y0 := h0
  have k1 : DataW.trod enc Tryz.prog w base sp held n 9 [c1] = some y1 := h1
  have k2 : DataW.trod enc Tryz.prog w base sp held n 9 [c2] = some y2 := h2
  obtain ⟨l, e0, _⟩ := DataW.trod_bool Tryz.underlying4 k0
  obtain ⟨f, e1, _, _⟩ := DataW.trod_string Tryz.underlying9 k1
  obtain ⟨g, e2, _, _⟩ := DataW.trod_string Tryz.underlying9 k2
  injection e0 with e0 _
  injection e1 with e1 _
  injection e2 with e2 _
  subst e0 e1 e2
  exact ⟨⟨l, f, g⟩, rfl⟩
set_option maxRecDepth 100000 in
theorem rat_of {r : Reach} {b0 : Nat} {v : Value} (hval : Value.okWide Tryz.prog w r b0 26 v) (h : DataW.Trod enc Tryz.prog w 0 (fun _ => true) true 26 v d p) : ∃ x : Rv, v = rv x := by
  obtain ⟨v0, v1, v2, y0, y1, y2, n, rfl, _, _, h0, h1, h2⟩ := Go.Joins.open_agg3 Tryz.underlying26 (by kernel_rfl) (by kernel_rfl) hval h
  obtain ⟨l, e0, _⟩ := DataW.trod_bool Tryz.underlying4 h0
  obtain ⟨f, e1, _, _⟩ := DataW.trod_string Tryz.underlying9 h1
  obtain ⟨g, e2, _, _⟩ := DataW.trod_string Tryz.underlying9 h2
  injection e0 with e0 _
  injection e1 with e1 _
  injection e2 with e2 _
  subst e0 e1 e2
  exact ⟨⟨l, f, g⟩, rfl⟩
set_option maxRecDepth 100000 in
theorem rats_of (h : DataW.Trod enc Tryz.prog w 0 (fun _ => true) true 22 (.slice a len cap) d p) :
    ∃ l : List Rv, l.length = len ∧ RdQ w a l ∧ len ≤ cap ∧ cap ≤ maxLen ∧ True := by
  obtain ⟨fuel, hf⟩ := h
  rcases open_slice Tryz.underlying22 hf with ⟨hcs, hx⟩ | ⟨x, l, c, m, n, D, Pl, hcs, _, hl, hm, hz, hx, hcell⟩
  · simp [Value.cells] at hcs
    obtain ⟨rfl, rfl, rfl⟩ := hcs
    exact ⟨[], rfl, Rd.nil _ _, Nat.le_refl _, Nat.zero_le _, trivial⟩
  · simp [Value.cells] at hcs
    obtain ⟨rfl, rfl, rfl⟩ := hcs
    have hz' : m = cap := by simpa using hz
    have hc3 : Tryz.prog.cellsOf 26 = 3 := by kernel_rfl
    rw [hc3] at hcell
    have hone : ∀ i, i < len → ∃ t : Rv, w.cells? 0 (x.add (i * 3)) 3 = some (cQ t) := by
      intro i hi
      obtain ⟨cs, h1, h2⟩ := hcell i (by omega)
      obtain ⟨t, rfl⟩ := trod_rat h2
      exact ⟨t, h1⟩
    obtain ⟨L, hLl, hLe⟩ : ∃ L : List Rv, L.length = len ∧ ∀ i (hi : i < L.length), w.cells? 0 (x.add (i * 3)) 3 = some (cQ L[i]) := by
      clear hcell hf
      have key : ∀ k, k ≤ len → ∃ L : List Rv, L.length = k ∧ ∀ i (hi : i < L.length), w.cells? 0 (x.add (i * 3)) 3 = some (cQ L[i]) := by
        intro k
        induction k with
        | zero => intro _; exact ⟨[], rfl, fun i hi => by simp at hi⟩
        | succ k ih =>
          intro hk
          obtain ⟨L, h1, h2⟩ := ih (by omega)
          obtain ⟨l, h4⟩ := hone k (by omega)
          refine ⟨L ++ [l], by simp [h1], fun i hi => ?_⟩
          rcases Nat.lt_or_ge i L.length with h5 | h5
          · rw [List.getElem_append_left h5]; exact h2 i h5
          · have h6 : i = L.length := by simp at hi; omega
            subst h6
            rw [List.getElem_append_right (Nat.le_refl _)]
            simp only [Nat.sub_self, List.getElem_cons_zero]
            rw [h1]; exact h4
      exact key len (Nat.le_refl _)
    refine ⟨L, hLl, ?_, hl, hm, trivial⟩
    intro hne
    have hlen : 0 < L.length := by
      rcases Nat.eq_zero_or_pos L.length with h0 | h0
      · have : L = [] := List.eq_nil_of_length_eq_zero h0
        rw [this] at hne; exact absurd rfl hne
      · exact h0
    have hcellAt : ∀ i (hi : i < L.length), ∀ j u, (cQ L[i])[j]? = some u → w.cell? ((x.add (i * 3)).add j) = some u := by
      intro i hi j u hu
      have h3 := World.cells?_some (hLe i hi)
      have hj : j < 3 := by
        rcases Nat.lt_or_ge j 3 with h | h
        · exact h
        · rw [List.getElem?_eq_none (by show 3 ≤ j; exact h)] at hu; cases hu
      rw [h3.2.2 j hj]
      exact hu
    have h0 := hcellAt 0 hlen 0 _ rfl
    obtain ⟨b, off, spot⟩ := x
    have hspot : spot = none := by simpa [Addr.add] using World.cell?_spot h0
    subst hspot
    refine ⟨b, off, rfl, fun k u hu => ?_⟩
    have hk : k < L.length * 3 := by
      rcases Nat.lt_or_ge k (L.length * 3) with h | h
      · exact h
      · rw [List.getElem?_eq_none (by rw [qL_len]; exact h)] at hu; cases hu
    have hki : k / 3 < L.length := by omega
    have hm2 := Nat.mod_lt k (show 0 < 3 by omega)
    have e : qL L = qL (L.take (k / 3)) ++ (cQ L[k / 3] ++ qL (L.drop (k / 3 + 1))) := by
      conv => lhs; rw [← List.take_append_drop (k / 3) L, List.drop_eq_getElem_cons hki]
      rw [qL_app]; rfl
    have hl2 : (qL (L.take (k / 3))).length = k / 3 * 3 := by
      rw [qL_len, List.length_take, Nat.min_eq_left (by omega)]
    rw [e, List.getElem?_append_right (by omega), hl2, List.getElem?_append_left (by show k - k / 3 * 3 < 3; omega)] at hu
    have h8 := hcellAt (k / 3) hki (k - k / 3 * 3) u hu
    rw [Addr.add_mid, Addr.add_mid, show off + k / 3 * 3 + (k - k / 3 * 3) = off + k from by omega] at h8
    exact h8
end
end Go.Proofs.YtpmlihhofmblpaaGreatDoor
