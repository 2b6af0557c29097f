/- What the five listed variables give: the tables' cells; and a world that meets the list. -/
import Derived.Test.YtfbemmeonkceiaaDoorK25
import Derived.Test.YtfbemmeonkceiaaDoorCards
import Derived.Test.YtfbemmeonkceiaaDoorTie
import Derived.WalkKit
import Derived.ProofKit
import Derived.OpenShut
import Derived.ShutString
import Derived.ChangeOld
import Derived.Below
import Derived.Lib.LaidTab
import Derived.Stop.LaidErr
import Derived.Deep.DeepHandedRow
namespace Go.Proofs.YtfbemmeonkceiaaDoor
open Go.RowKit Hm Wm

theorem g0 : Tryd.prog.globalNamed "rivermark/hash.initial" = some 0 := by kernel_rfl
theorem g1 : Tryd.prog.globalNamed "math/bits.deBruijn32tab" = some 1 := by kernel_rfl
theorem g2 : Tryd.prog.globalNamed "math/bits.deBruijn64tab" = some 2 := by kernel_rfl
theorem g3 : Tryd.prog.globalNamed "rivermark/hash.roundConstants" = some 3 := by kernel_rfl
theorem g4 : Tryd.prog.globalNamed "rivermark/rivermarkref02.constants" = some 4 := by kernel_rfl
theorem gt0 : (Tryd.prog.globals[0]?).map (·.type) = some 103 := by kernel_rfl
theorem gt2 : (Tryd.prog.globals[2]?).map (·.type) = some 104 := by kernel_rfl
theorem gt3 : (Tryd.prog.globals[3]?).map (·.type) = some 130 := by kernel_rfl
theorem gt4 : (Tryd.prog.globals[4]?).map (·.type) = some 130 := by kernel_rfl
theorem c64 : Tryd.prog.cellsOf 130 = 64 := by kernel_rfl
theorem c8 : Tryd.prog.cellsOf 103 = 8 := by kernel_rfl
theorem cu32 : Tryd.prog.cellsOf 101 = 1 := by kernel_rfl
theorem cb64 : Tryd.prog.cellsOf 104 = 64 := by kernel_rfl
theorem cu8 : Tryd.prog.cellsOf 5 = 1 := by kernel_rfl
def kz : List Int := K.map fun x => (x.toNat : Int)
def iz : List Int := ini.toL.map fun x => (x.toNat : Int)
def bz : List Int := Go.Lib.deBruijn64tab.map fun (n : Nat) => (n : Int)
theorem d0 : Rows.laid_rivermark_hash_initial = (Lib.tabData .u32 iz : DataW Unit) := by kernel_rfl
theorem d2 : Rows.laid_math_bits_deBruijn64tab = (Lib.tabData .u8 bz : DataW Unit) := by kernel_rfl
theorem d3 : Rows.laid_rivermark_hash_roundConstants = (Lib.tabData .u32 kz : DataW Unit) := by kernel_rfl
theorem d4 : Rows.laid_rivermark_rivermarkref02_constants = (Lib.tabData .u32 kz : DataW Unit) := by kernel_rfl
theorem range_tab {W : World} {name : String} {g : Nat} {l : List UInt32} (hg : Tryd.prog.globalNamed name = some g) (h : Lib.TabIs Tryd.prog W name .u32 (l.map fun x => (x.toNat : Int))) : W.rangeAt g 0 (wc l) := by
  intro j v hv
  have := World.var?_cell hg h j
  rw [Nat.zero_add, this, ← hv]
  simp [wc]
  rfl
theorem tab_tab {W : World} {name : String} {g : Nat} {l : List Nat} (hg : Tryd.prog.globalNamed name = some g) (h : Lib.TabIs Tryd.prog W name .u8 (l.map fun (n : Nat) => (n : Int))) : TabAt g l W := by
  intro j hj
  have := World.var?_cell hg h j
  rw [this]
  simp [List.getElem?_eq_getElem hj, List.getD]
/-- The list of a law. -/
abbrev laid5 : List (String × DataW Unit) := [("math/bits.deBruijn32tab", Rows.laid_math_bits_deBruijn32tab), ("math/bits.deBruijn64tab", Rows.laid_math_bits_deBruijn64tab), ("rivermark/rivermarkref02.constants", Rows.laid_rivermark_rivermarkref02_constants), ("rivermark/hash.initial", Rows.laid_rivermark_hash_initial), ("rivermark/hash.roundConstants", Rows.laid_rivermark_hash_roundConstants)]
theorem all_five {W : World} (h : laidMet Tryd.prog laid5 W) : All W := by
  have h2 := h.tail
  have h3 := h2.tail
  have h4 := h3.tail
  have h5 := h4.tail
  rw [d2] at h2
  rw [d4] at h3
  rw [d0] at h4
  rw [d3] at h5
  exact ⟨⟨range_tab g0 (Lib.tabIs_of_head g0 gt0 Tryd.underlying103 Tryd.underlying101 cu32 c8 h4), range_tab g3 (Lib.tabIs_of_head g3 gt3 Tryd.underlying130 Tryd.underlying101 cu32 c64 h5)⟩,
    tab_tab g2 (Lib.tabIs_of_head g2 gt2 Tryd.underlying104 Tryd.underlying5 cu8 cb64 h2),
    range_tab g4 (Lib.tabIs_of_head g4 gt4 Tryd.underlying130 Tryd.underlying101 cu32 c64 h3)⟩

/-- A world for the witness: the settled one, the tables as their initialisers lay them. -/
def fillObj (cs : List Value) : Obj → Obj
  | .cells _ t frozen => .cells cs.toArray t frozen
  | o => o
noncomputable def laidWorld (os : Os) : World :=
  { World.holding Tryd.prog os ⟨#[], #[], []⟩ with heap := (((((World.holding Tryd.prog os ⟨#[], #[], []⟩).heap.modify 0 (fillObj (wc ini.toL))).modify 1 (fillObj (Go.Lib.deBruijn32tab.map fun (n : Nat) => .int .u8 (n : Int)))).modify 2 (fillObj (Go.Lib.deBruijn64tab.map fun (n : Nat) => .int .u8 (n : Int)))).modify 3 (fillObj (wc K))).modify 4 (fillObj (wc K)) }
theorem laid_five (os : Os) (args : Array Value) : laidMet Tryd.prog laid5 ((laidWorld os).forCall (fun _ _ => 0) ⟨#[], args, []⟩).memory :=
  laidMet_of_run' 8 (by kernel_rfl) (by kernel_rfl)
theorem ownKnob_none : ownKnob Tryd.prog.godebug = none := by kernel_rfl
theorem laidOut : laidOutB Tryd.prog = true := by kernel_rfl
end Go.Proofs.YtfbemmeonkceiaaDoor
