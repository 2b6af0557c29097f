/- What came in: an array of three numbers. -/
import Derived.Test.YtmifpaafpmibmaaDoorCGl
import Derived.Lib.SmallJoins
import Derived.WideKeyPair
namespace Go.Proofs.YtmifpaafpmibmaaDoor
open Go.ChangeShapes Go.Deep Go.RowKit Hm Wm

section
variable {H : Type} {enc : TypeId × Value → H} {w : World} {d : DataW H} {p : List MemPlace}
theorem i3_under : Tryd.prog.underlying 24 = some (.array 3 3) := by kernel_rfl
set_option maxRecDepth 100000 in
theorem i3_of {r : Reach} {b0 : Nat} {v : Value} (hval : Value.okWide Tryd.prog w r b0 24 v) (h : DataW.Trod enc Tryd.prog w 0 (fun _ => true) true 24 v d p) :
    ∃ a b c : Int, v = .agg #[.int .i64 a, .int .i64 b, .int .i64 c] ∧ (Lit.int .i64 a).wf = true ∧ (Lit.int .i64 b).wf = true ∧ (Lit.int .i64 c).wf = true := by
  obtain ⟨cs, rfl, hsz⟩ : ∃ cs, v = .agg cs ∧ cs.size = Tryd.prog.cellsOf 24 := by
    simp only [Value.okWide, i3_under] at hval
    obtain ⟨cs, h1, h2, _⟩ := hval
    exact ⟨cs, h1, h2⟩
  obtain ⟨fuel, hf⟩ := h
  obtain ⟨xs, m, he, hx, hcl, hxl, hall⟩ := DataW.trod_array i3_under hf
  have hc1 : Tryd.prog.cellsOf 3 = 1 := by kernel_rfl
  have hc3 : Tryd.prog.cellsOf 24 = 3 := by kernel_rfl
  rw [hc3] at hsz
  have hcells : (Value.agg cs).cells.toList = cs.toList := rfl
  have hint : ∀ i, i < 3 → ∃ n : Int, cs.toList[i]? = some (.int .i64 n) ∧ (Lit.int .i64 n).wf = true := by
    intro i hi
    have h1 := hall i hi
    rw [hc1, Nat.mul_one, hcells] at h1
    have hix : i < xs.length := by omega
    rw [List.getElem?_eq_getElem hix] at h1
    obtain ⟨n, hcs, _, hwf⟩ := DataW.trod_int Tryd.underlying3 h1
    have hic : i < cs.toList.length := by rw [Array.length_toList]; omega
    rw [List.drop_eq_getElem_cons hic, List.take_succ_cons, List.take_zero] at hcs
    injection hcs with hcs _
    exact ⟨n, by rw [List.getElem?_eq_getElem hic, hcs], hwf⟩
  obtain ⟨a, ha, wa⟩ := hint 0 (by omega)
  obtain ⟨b, hb, wb⟩ := hint 1 (by omega)
  obtain ⟨c, hc, wc⟩ := hint 2 (by omega)
  refine ⟨a, b, c, ?_, wa, wb, wc⟩
  congr 1
  apply Array.toList_inj.1
  apply List.ext_getElem?
  intro i
  rcases i with _ | _ | _ | i
  · rw [ha]; rfl
  · rw [hb]; rfl
  · rw [hc]; rfl
  · rw [List.getElem?_eq_none (by rw [Array.length_toList]; omega), List.getElem?_eq_none (by simp)]
end
end Go.Proofs.YtmifpaafpmibmaaDoor
