/- What the listed variables give: the tables' cells; and a world that meets the list. -/
import Derived.Test.YtoendbdpkkjjkaaDoorHComp
import Derived.Test.YtoendbdpkkjjkaaDoorCards
import Derived.Test.YtoendbdpkkjjkaaDoorTie
import Derived.WalkKit
import Derived.ProofKit
import Derived.OpenShut
import Derived.ShutString
import Derived.ChangeOld
import Derived.Below
import Derived.Lib.LaidTab
import Derived.Stop.LaidErr
import Derived.Deep.DeepHandedRow
namespace Go.Proofs.YtoendbdpkkjjkaaDoor
open Go.RowKit Hm

theorem g0 : Tryd.prog.globalNamed "rivermark/rivermarkref02.constants" = some 0 := by kernel_rfl
theorem g1 : Tryd.prog.globalNamed "rivermark/hash.initial" = some 1 := by kernel_rfl
theorem g2 : Tryd.prog.globalNamed "rivermark/hash.roundConstants" = some 2 := by kernel_rfl
theorem gt0 : (Tryd.prog.globals[0]?).map (·.type) = some 66 := by kernel_rfl
theorem gt1 : (Tryd.prog.globals[1]?).map (·.type) = some 31 := by kernel_rfl
theorem gt2 : (Tryd.prog.globals[2]?).map (·.type) = some 66 := by kernel_rfl
theorem c64 : Tryd.prog.cellsOf 66 = 64 := by kernel_rfl
theorem c8 : Tryd.prog.cellsOf 31 = 8 := by kernel_rfl
theorem cu32 : Tryd.prog.cellsOf 29 = 1 := by kernel_rfl
def kz : List Int := K.map fun x => (x.toNat : Int)
def iz : List Int := ini.toL.map fun x => (x.toNat : Int)
theorem d0 : Rows.laid_rivermark_rivermarkref02_constants = (Lib.tabData .u32 kz : DataW Unit) := by kernel_rfl
theorem d1 : Rows.laid_rivermark_hash_initial = (Lib.tabData .u32 iz : DataW Unit) := by kernel_rfl
theorem d2 : Rows.laid_rivermark_hash_roundConstants = (Lib.tabData .u32 kz : DataW Unit) := by kernel_rfl
theorem range_tab {W : World} {name : String} {g : Nat} {l : List UInt32} (hg : Tryd.prog.globalNamed name = some g) (h : Lib.TabIs Tryd.prog W name .u32 (l.map fun x => (x.toNat : Int))) : W.rangeAt g 0 (wc l) := by
  intro j v hv
  have := World.var?_cell hg h j
  rw [Nat.zero_add, this, ← hv]
  simp [wc]
  rfl
/-- The reference's table. -/
def RTab (w : World) : Prop := w.rangeAt 0 0 (wc K)
theorem RTab.next {w w' : World} (h : RTab w) (hb : Below w.heap.size w w') : RTab w' := range_below' h hb

theorem glob_two {W : World} (h : laidMet Tryd.prog [("rivermark/hash.initial", Rows.laid_rivermark_hash_initial), ("rivermark/hash.roundConstants", Rows.laid_rivermark_hash_roundConstants)] W) : Glob W := by
  rw [d1, d2] at h
  exact ⟨range_tab g1 (Lib.tabIs_of_head g1 gt1 Tryd.underlying31 Tryd.underlying29 cu32 c8 h),
    range_tab g2 (Lib.tabIs_of_head g2 gt2 Tryd.underlying66 Tryd.underlying29 cu32 c64 h.tail)⟩
theorem glob_three {W : World} (h : laidMet Tryd.prog [("rivermark/rivermarkref02.constants", Rows.laid_rivermark_rivermarkref02_constants), ("rivermark/hash.initial", Rows.laid_rivermark_hash_initial), ("rivermark/hash.roundConstants", Rows.laid_rivermark_hash_roundConstants)] W) : Glob W ∧ RTab W := by
  refine ⟨glob_two h.tail, ?_⟩
  rw [d0] at h
  exact range_tab g0 (Lib.tabIs_of_head g0 gt0 Tryd.underlying66 Tryd.underlying29 cu32 c64 h)

/-- A world for the witness: the settled one, the tables as their initialisers lay them. -/
def fillObj (cs : List Value) : Obj → Obj
  | .cells _ t frozen => .cells cs.toArray t frozen
  | o => o
noncomputable def laidWorld (os : Os) : World :=
  { World.holding Tryd.prog os ⟨#[], #[], []⟩ with heap := (((World.holding Tryd.prog os ⟨#[], #[], []⟩).heap.modify 0 (fillObj (wc K))).modify 1 (fillObj (wc ini.toL))).modify 2 (fillObj (wc K)) }
theorem laid_two (os : Os) (args : Array Value) : laidMet Tryd.prog [("rivermark/hash.initial", Rows.laid_rivermark_hash_initial), ("rivermark/hash.roundConstants", Rows.laid_rivermark_hash_roundConstants)] ((laidWorld os).forCall (fun _ _ => 0) ⟨#[], args, []⟩).memory :=
  laidMet_of_run' 8 (by kernel_rfl) (by kernel_rfl)
theorem laid_three (os : Os) (args : Array Value) : laidMet Tryd.prog [("rivermark/rivermarkref02.constants", Rows.laid_rivermark_rivermarkref02_constants), ("rivermark/hash.initial", Rows.laid_rivermark_hash_initial), ("rivermark/hash.roundConstants", Rows.laid_rivermark_hash_roundConstants)] ((laidWorld os).forCall (fun _ _ => 0) ⟨#[], args, []⟩).memory :=
  laidMet_of_run' 8 (by kernel_rfl) (by kernel_rfl)
theorem ownKnob_none : ownKnob Tryd.prog.godebug = none := by kernel_rfl
theorem laidOut : laidOutB Tryd.prog = true := by kernel_rfl
end Go.Proofs.YtoendbdpkkjjkaaDoor
