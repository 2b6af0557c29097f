/- What came in: peaks. -/
import Derived.Test.YtiicnfenbokocaaDoorKOpen
import Derived.Test.YtiicnfenbokocaaDoorK23
namespace Go.Proofs.YtiicnfenbokocaaDoor
open Go.ChangeShapes Go.Deep Go.RowKit Hm Wm

section
variable {H : Type} {enc : TypeId × Value → H} {w : World} {d : DataW H} {p : List MemPlace}
set_option maxRecDepth 100000 in
theorem peaks_of {r : Reach} {b0 : Nat} {v : Value} (hval : Value.okWide Tryd.prog w r b0 43 v) (h : DataW.Trod enc Tryd.prog w 0 (fun _ => true) true 43 v d p) :
    ∃ (z : Int) (A : Option Addr) (l : List Dg) (c : Nat), v = pkV z (.slice A l.length c) ∧ RdD w A l ∧ l.length ≤ c ∧ c ≤ maxLen := by
  obtain ⟨v0, v1, y0, y1, n, rfl, _, _, h0, h1⟩ := Go.Joins.open_agg2 Tryd.underlying43 (by kernel_rfl) (by kernel_rfl) hval h
  obtain ⟨z, hz, _, _⟩ := DataW.trod_int Tryd.underlying3 h0
  have hv0 : v0 = .int .i64 z := by simpa using hz
  subst hv0
  have h1' : DataW.trod enc Tryd.prog w 0 (fun _ => true) true n 22 [v1] = some y1 := h1
  have hs : ∃ A len cap, v1 = .slice A len cap := by
    rcases open_slice Tryd.underlying22 h1' with ⟨hcs, _⟩ | ⟨x, len, cap, m, k, D, Pl, hcs, _⟩
    · injection hcs with hcs _
      exact ⟨_, _, _, hcs⟩
    · injection hcs with hcs _
      exact ⟨_, _, _, hcs⟩
  obtain ⟨A, len, cap, rfl⟩ := hs
  obtain ⟨l, rfl, hr, hc, hm⟩ := digs_of (enc := enc) (d := y1.1) (p := y1.2) ⟨n, by simpa [Value.cells] using h1'⟩
  exact ⟨z, A, l, cap, rfl, hr, hc, hm⟩
end
end Go.Proofs.YtiicnfenbokocaaDoor
