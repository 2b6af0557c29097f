/- The reference's Day. -/
import Derived.Test.YtmifpaafpmibmaaDoorCU
namespace Go.Proofs.YtmifpaafpmibmaaDoor
open Go.RowKit Hm Wm Cm

abbrev n2 (n e : Int) : List Value := [.int .i64 n, .int .i64 e]
def nbV (n e : Int) : Value := .agg #[.int .i64 n, .int .i64 e]
theorem nb_one (n e : Int) : ∀ v ∈ n2 n e, v.oneCell' = true := by
  intro v hv
  simp at hv
  rcases hv with rfl | rfl <;> rfl
end Go.Proofs.YtmifpaafpmibmaaDoor
