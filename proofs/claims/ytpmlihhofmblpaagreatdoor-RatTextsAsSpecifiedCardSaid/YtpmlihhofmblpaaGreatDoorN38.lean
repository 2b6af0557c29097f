/- What the five listed variables give: the table of powers of ten; and a world that meets the list. -/
import Derived.Test.YtpmlihhofmblpaaGreatDoorMf
import Derived.Test.YtpmlihhofmblpaaGreatDoorCards
import Derived.Test.YtpmlihhofmblpaaGreatDoorTie
import Derived.WalkKit
import Derived.ProofKit
import Derived.OpenShut
import Derived.ShutString
import Derived.ChangeOld
import Derived.Below
import Derived.Lib.LaidTab
import Derived.Stop.LaidErr
import Derived.Deep.DeepHandedRow
import Derived.Shelf.Spec.TrailingZeros
namespace Go.Proofs.YtpmlihhofmblpaaGreatDoor
open Go.RowKit Hm Wm Wn

theorem gp : Tryz.prog.globalNamed "internal/strconv.uint64pow10" = some 1 := by kernel_rfl
theorem gpt : (Tryz.prog.globals[1]?).map (·.type) = some 162 := by kernel_rfl
theorem cp20 : Tryz.prog.cellsOf 162 = 20 := by kernel_rfl
theorem cp1 : Tryz.prog.cellsOf 89 = 1 := by kernel_rfl
theorem a20_under : Tryz.prog.underlying 162 = some (.array 20 89) := by kernel_rfl
theorem dp : Rows.laid_internal_strconv_uint64pow10 = (Lib.tabData .u64 Lib.pow10Tab : DataW Unit) := by kernel_rfl
/-- The list of a law. -/
abbrev laid5 : List (String × DataW Unit) := [("math/bits.deBruijn32tab", Rows.laid_math_bits_deBruijn32tab), ("math/bits.deBruijn64tab", Rows.laid_math_bits_deBruijn64tab), ("internal/strconv.uint64pow10", Rows.laid_internal_strconv_uint64pow10), ("unicode/utf8.acceptRanges", Rows.laid_unicode_utf8_acceptRanges), ("unicode/utf8.first", Rows.laid_unicode_utf8_first)]
theorem glob_five {W : World} (h : laidMet Tryz.prog laid5 W) : Pow W := by
  have h3 := h.tail.tail
  rw [dp] at h3
  exact Lib.tabIs_of_head gp gpt a20_under Tryz.underlying89 cp1 cp20 h3
/-- A world for the witness: the settled one, the tables as their initialisers lay them. -/
def fillObj (cs : List Value) : Obj → Obj
  | .cells _ t frozen => .cells cs.toArray t frozen
  | o => o
def accepts : List Nat := [128, 191, 160, 191, 128, 159, 144, 191, 128, 143, 0, 0, 0, 0, 0, 0, 0, 0, 0, 0, 0, 0, 0, 0, 0, 0, 0, 0, 0, 0, 0, 0]
noncomputable def laidWorld (os : Os) : World :=
  { World.holding Tryz.prog os ⟨#[], #[], []⟩ with heap := (((((World.holding Tryz.prog os ⟨#[], #[], []⟩).heap.modify 4 (fillObj (Go.Lib.deBruijn32tab.map fun (n : Nat) => .int .u8 (n : Int)))).modify 5 (fillObj (Go.Lib.deBruijn64tab.map fun (n : Nat) => .int .u8 (n : Int)))).modify 1 (fillObj (Go.Lib.pow10Tab.map fun n => .int .u64 n))).modify 7 (fillObj (accepts.map fun (n : Nat) => .int .u8 (n : Int)))).modify 6 (fillObj (Go.Pinned.utf8FirstZ.map fun (n : Nat) => .int .u8 (n : Int))) }
theorem laid_five (os : Os) (args : Array Value) : laidMet Tryz.prog laid5 ((laidWorld os).forCall (fun _ _ => 0) ⟨#[], args, []⟩).memory :=
  laidMet_of_run' 8 (by kernel_rfl) (by kernel_rfl)
theorem ownKnob_none : ownKnob Tryz.prog.godebug = none := by kernel_rfl
theorem laidOut : laidOutB Tryz.prog = true := by kernel_rfl
end Go.Proofs.YtpmlihhofmblpaaGreatDoor
