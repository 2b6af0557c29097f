/- What the listed variable gives: the table of the lengths of months; and a world that meets the list. -/
import Derived.Test.YtmifpaafpmibmaaDoorCM
import Derived.Test.YtmifpaafpmibmaaDoorCards
import Derived.Test.YtmifpaafpmibmaaDoorTie
import Derived.WalkKit
import Derived.ProofKit
import Derived.OpenShut
import Derived.ShutString
import Derived.ChangeOld
import Derived.Below
import Derived.Lib.LaidTab
import Derived.Stop.LaidErr
import Derived.Deep.DeepHandedRow
namespace Go.Proofs.YtmifpaafpmibmaaDoor
open Go.RowKit Hm Wm Cm

theorem gp : Tryd.prog.globalNamed "rivermark/calendar.lengths" = some 0 := by kernel_rfl
theorem gpt : (Tryd.prog.globals[0]?).map (·.type) = some 69 := by kernel_rfl
theorem cp12 : Tryd.prog.cellsOf 69 = 12 := by kernel_rfl
theorem cp1 : Tryd.prog.cellsOf 3 = 1 := by kernel_rfl
theorem a12_under : Tryd.prog.underlying 69 = some (.array 12 3) := by kernel_rfl
def lenZ : List Int := [31, 28, 31, 30, 31, 30, 31, 31, 30, 31, 30, 31]
theorem dp : Rows.laid_rivermark_calendar_lengths = (Lib.tabData .i64 lenZ : DataW Unit) := by kernel_rfl
/-- The list of a law. -/
abbrev laid1 : List (String × DataW Unit) := [("rivermark/calendar.lengths", Rows.laid_rivermark_calendar_lengths)]
theorem lens_tab {W : World} (h : Lib.TabIs Tryd.prog W "rivermark/calendar.lengths" .i64 lenZ) : Lens W := by
  intro j v hv
  have := World.var?_cell gp h j
  rw [Nat.zero_add, this, ← hv]
  simp [lens, lenZ]
theorem glob_one {W : World} (h : laidMet Tryd.prog laid1 W) : Lens W := by
  have h3 : laidMet Tryd.prog [("rivermark/calendar.lengths", Rows.laid_rivermark_calendar_lengths)] W := h
  rw [dp] at h3
  exact lens_tab (Lib.tabIs_of_head gp gpt a12_under Tryd.underlying3 cp1 cp12 h3)
/-- A world for the witness: the settled one, the table as its initialiser lays it. -/
def fillObj (cs : List Value) : Obj → Obj
  | .cells _ t frozen => .cells cs.toArray t frozen
  | o => o
noncomputable def laidWorld (os : Os) : World :=
  { World.holding Tryd.prog os ⟨#[], #[], []⟩ with heap := (World.holding Tryd.prog os ⟨#[], #[], []⟩).heap.modify 0 (fillObj lens) }
theorem laid_one (os : Os) (args : Array Value) : laidMet Tryd.prog laid1 ((laidWorld os).forCall (fun _ _ => 0) ⟨#[], args, []⟩).memory :=
  laidMet_of_run' 8 (by kernel_rfl) (by kernel_rfl)
theorem ownKnob_none : ownKnob Tryd.prog.godebug = none := by kernel_rfl
theorem laidOut : laidOutB Tryd.prog = true := by kernel_rfl
theorem bounds_u16 {n : Int} (h : (Lit.int .u16 n).wf = true) : 0 ≤ n ∧ n ≤ 65535 := by
  have h1 : IntKind.u16.min = 0 := rfl
  have h2 : IntKind.u16.max = 65535 := rfl
  simp [Lit.wf] at h
  omega
theorem bounds_u8 {n : Int} (h : (Lit.int .u8 n).wf = true) : 0 ≤ n ∧ n ≤ 255 := by
  have h1 : IntKind.u8.min = 0 := rfl
  have h2 : IntKind.u8.max = 255 := rfl
  simp [Lit.wf] at h
  omega
theorem bounds_u32 {n : Int} (h : (Lit.int .u32 n).wf = true) : 0 ≤ n ∧ n ≤ 4294967295 := by
  have h1 : IntKind.u32.min = 0 := rfl
  have h2 : IntKind.u32.max = 4294967295 := rfl
  simp [Lit.wf] at h
  omega
theorem bounds_i64 {n : Int} (h : (Lit.int .i64 n).wf = true) : -9223372036854775808 ≤ n ∧ n ≤ 9223372036854775807 := by
  have h1 : IntKind.i64.min = -9223372036854775808 := rfl
  have h2 : IntKind.i64.max = 9223372036854775807 := rfl
  simp [Lit.wf] at h
  omega
end Go.Proofs.YtmifpaafpmibmaaDoor
