/- What came in: two numbers, a block, a list of blocks. -/
import Derived.Test.YtbboadoolgcmaaaDoorCOp
import Derived.Test.YtbboadoolgcmaaaDoorCK
import Derived.Deep.Slices
namespace Go.Proofs.YtbboadoolgcmaaaDoor
open Go.ChangeShapes Go.Deep Go.RowKit Hm Wm Cm

section
variable {H : Type} {enc : TypeId × Value → H} {w : World} {a : Option Addr} {len cap : Nat} {d : DataW H} {p : List MemPlace}
theorem u2_under : Tryd.prog.underlying 64 = some (.array 2 62) := by kernel_rfl
set_option maxRecDepth 100000 in
theorem u2_of {r : Reach} {b0 : Nat} {v : Value} (hval : Value.okWide Tryd.prog w r b0 64 v) (h : DataW.Trod enc Tryd.prog w 0 (fun _ => true) true 64 v d p) :
    ∃ a b : Int, v = .agg #[.int .u32 a, .int .u32 b] ∧ (Lit.int .u32 a).wf = true ∧ (Lit.int .u32 b).wf = true := by
  obtain ⟨cs, rfl, hsz⟩ : ∃ cs, v = .agg cs ∧ cs.size = Tryd.prog.cellsOf 64 := by
    simp only [Value.okWide, u2_under] at hval
    obtain ⟨cs, h1, h2, _⟩ := hval
    exact ⟨cs, h1, h2⟩
  obtain ⟨fuel, hf⟩ := h
  obtain ⟨xs, m, he, hx, hcl, hxl, hall⟩ := DataW.trod_array u2_under hf
  have hc1 : Tryd.prog.cellsOf 62 = 1 := by kernel_rfl
  have hc3 : Tryd.prog.cellsOf 64 = 2 := by kernel_rfl
  rw [hc3] at hsz
  have hcells : (Value.agg cs).cells.toList = cs.toList := rfl
  have hint : ∀ i, i < 2 → ∃ n : Int, cs.toList[i]? = some (.int .u32 n) ∧ (Lit.int .u32 n).wf = true := by
    intro i hi
    have h1 := hall i hi
    rw [hc1, Nat.mul_one, hcells] at h1
    have hix : i < xs.length := by omega
    rw [List.getElem?_eq_getElem hix] at h1
    obtain ⟨n, hcs, _, hwf⟩ := DataW.trod_int Tryd.underlying62 h1
    have hic : i < cs.toList.length := by rw [Array.length_toList]; omega
    rw [List.drop_eq_getElem_cons hic, List.take_succ_cons, List.take_zero] at hcs
    injection hcs with hcs _
    exact ⟨n, by rw [List.getElem?_eq_getElem hic, hcs], hwf⟩
  obtain ⟨a, ha, wa⟩ := hint 0 (by omega)
  obtain ⟨b, hb, wb⟩ := hint 1 (by omega)
  refine ⟨a, b, ?_, wa, wb⟩
  congr 1
  apply Array.toList_inj.1
  apply List.ext_getElem?
  intro i
  rcases i with _ | _ | i
  · rw [ha]; rfl
  · rw [hb]; rfl
  · rw [List.getElem?_eq_none (by rw [Array.length_toList]; omega), List.getElem?_eq_none (by simp)]
theorem trod_bin {base : Nat} {sp : Nat → Bool} {held : Bool} {fuel : Nat} {cs : List Value} {x : DataW H × List MemPlace} (h : DataW.trod enc Tryd.prog w base sp held fuel 38 cs = some x) : ∃ t : I3, cs = cI t := by
  have hc1 : Tryd.prog.cellsOf 3 = 1 := by kernel_rfl
  have hc3 : Tryd.prog.cellsOf 38 = 3 := by kernel_rfl
  obtain ⟨y0, y1, y2, n, hx, hl, h0, h1, h2⟩ := trod_struct3 Tryd.underlying38 h
  rw [hc3] at hl
  obtain ⟨c0, c1, c2, rfl⟩ : ∃ a b c, cs = [a, b, c] := by
    match cs, hl with
    | [a, b, c], _ => exact ⟨a, b, c, rfl⟩
  rw [hc1] at h0 h1 h2
  have k0 : DataW.trod enc Tryd.prog w base sp held n 3 [c0] = some y0 := h0
  have k1 : DataW.trod enc Tryd.prog w base sp held n 3 [c1] = some y1 := h1
  have k2 : DataW.trod enc Tryd.prog w base sp held n 3 [c2] = some y2 := h2
  obtain ⟨l, e0, _, _⟩ := DataW.trod_int Tryd.underlying3 k0
  obtain ⟨f, e1, _, _⟩ := DataW.trod_int Tryd.underlying3 k1
  obtain ⟨g, e2, _, _⟩ := DataW.trod_int Tryd.underlying3 k2
  injection e0 with e0 _
  injection e1 with e1 _
  injection e2 with e2 _
  subst e0 e1 e2
  exact ⟨(l, f, g), rfl⟩
theorem bins_of (h : DataW.Trod enc Tryd.prog w 0 (fun _ => true) true 46 (.slice a len cap) d p) :
    ∃ l : List I3, l.length = len ∧ RdB w a l ∧ len ≤ cap ∧ cap ≤ maxLen ∧ True := by
  obtain ⟨fuel, hf⟩ := h
  rcases open_slice Tryd.underlying46 hf with ⟨hcs, hx⟩ | ⟨x, l, c, m, n, D, Pl, hcs, _, hl, hm, hz, hx, hcell⟩
  · simp [Value.cells] at hcs
    obtain ⟨rfl, rfl, rfl⟩ := hcs
    exact ⟨[], rfl, Rd.nil _ _, Nat.le_refl _, Nat.zero_le _, trivial⟩
  · simp [Value.cells] at hcs
    obtain ⟨rfl, rfl, rfl⟩ := hcs
    have hz' : m = cap := by simpa using hz
    have hc3 : Tryd.prog.cellsOf 38 = 3 := by kernel_rfl
    rw [hc3] at hcell
    have hone : ∀ i, i < len → ∃ t : I3, w.cells? 0 (x.add (i * 3)) 3 = some (cI t) := by
      intro i hi
      obtain ⟨cs, h1, h2⟩ := hcell i (by omega)
      obtain ⟨t, rfl⟩ := trod_bin h2
      exact ⟨t, h1⟩
    obtain ⟨L, hLl, hLe⟩ : ∃ L : List I3, L.length = len ∧ ∀ i (hi : i < L.length), w.cells? 0 (x.add (i * 3)) 3 = some (cI L[i]) := by
      clear hcell hf
      have key : ∀ k, k ≤ len → ∃ L : List I3, L.length = k ∧ ∀ i (hi : i < L.length), w.cells? 0 (x.add (i * 3)) 3 = some (cI L[i]) := by
        intro k
        induction k with
        | zero => intro _; exact ⟨[], rfl, fun i hi => by simp at hi⟩
        | succ k ih =>
          intro hk
          obtain ⟨L, h1, h2⟩ := ih (by omega)
          obtain ⟨l, h4⟩ := hone k (by omega)
          refine ⟨L ++ [l], by simp [h1], fun i hi => ?_⟩
          rcases Nat.lt_or_ge i L.length with h5 | h5
          · rw [List.getElem_append_left h5]; exact h2 i h5
          · have h6 : i = L.length := by simp at hi; omega
            subst h6
            rw [List.getElem_append_right (Nat.le_refl _)]
            simp only [Nat.sub_self, List.getElem_cons_zero]
            rw [h1]; exact h4
      exact key len (Nat.le_refl _)
    refine ⟨L, hLl, ?_, hl, hm, trivial⟩
    intro hne
    have hlen : 0 < L.length := by
      rcases Nat.eq_zero_or_pos L.length with h0 | h0
      · have : L = [] := List.eq_nil_of_length_eq_zero h0
        rw [this] at hne; exact absurd rfl hne
      · exact h0
    have hcellAt : ∀ i (hi : i < L.length), ∀ j u, (cI L[i])[j]? = some u → w.cell? ((x.add (i * 3)).add j) = some u := by
      intro i hi j u hu
      have h3 := World.cells?_some (hLe i hi)
      have hj : j < 3 := by
        rcases Nat.lt_or_ge j 3 with h | h
        · exact h
        · rw [List.getElem?_eq_none (by show 3 ≤ j; exact h)] at hu; cases hu
      rw [h3.2.2 j hj]
      exact hu
    have h0 := hcellAt 0 hlen 0 _ rfl
    obtain ⟨b, off, spot⟩ := x
    have hspot : spot = none := by simpa [Addr.add] using World.cell?_spot h0
    subst hspot
    refine ⟨b, off, rfl, fun k u hu => ?_⟩
    have hk : k < L.length * 3 := by
      rcases Nat.lt_or_ge k (L.length * 3) with h | h
      · exact h
      · rw [List.getElem?_eq_none (by rw [bI_len]; exact h)] at hu; cases hu
    have hki : k / 3 < L.length := by omega
    have hm2 := Nat.mod_lt k (show 0 < 3 by omega)
    have e : bI L = bI (L.take (k / 3)) ++ (cI L[k / 3] ++ bI (L.drop (k / 3 + 1))) := by
      conv => lhs; rw [← List.take_append_drop (k / 3) L, List.drop_eq_getElem_cons hki]
      rw [bI_app]; rfl
    have hl2 : (bI (L.take (k / 3))).length = k / 3 * 3 := by
      rw [bI_len, List.length_take, Nat.min_eq_left (by omega)]
    rw [e, List.getElem?_append_right (by omega), hl2, List.getElem?_append_left (by show k - k / 3 * 3 < 3; omega)] at hu
    have h8 := hcellAt (k / 3) hki (k - k / 3 * 3) u hu
    rw [Addr.add_mid, Addr.add_mid, show off + k / 3 * 3 + (k - k / 3 * 3) = off + k from by omega] at h8
    exact h8
end
end Go.Proofs.YtbboadoolgcmaaaDoor
