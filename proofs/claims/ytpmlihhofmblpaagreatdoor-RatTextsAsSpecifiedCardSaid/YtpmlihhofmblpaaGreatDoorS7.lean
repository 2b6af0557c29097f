/- The reference: Cmp, Min and Max. -/
import Derived.Test.YtpmlihhofmblpaaGreatDoorS6
namespace Go.Proofs.YtpmlihhofmblpaaGreatDoor
open Go.RowKit Hm Wm Wn

theorem sub_lt0 {a b : Rat} (h : a < b) : (a - b).num < 0 := by
  have h1 : a - b < 0 := Rat.sub_lt_iff.2 (by rwa [Rat.zero_add])
  have h2 := (Rat.lt_iff (a - b) 0).1 h1
  simpa using h2
theorem sub_gt0 {a b : Rat} (h : b < a) : 0 < (a - b).num := by
  have h1 := sub_lt0 h
  have e : b - a = -(a - b) := by rw [Rat.neg_sub]
  rw [e, show (-(a - b)).num = -(a - b).num from rfl] at h1
  omega
end Go.Proofs.YtpmlihhofmblpaaGreatDoor
