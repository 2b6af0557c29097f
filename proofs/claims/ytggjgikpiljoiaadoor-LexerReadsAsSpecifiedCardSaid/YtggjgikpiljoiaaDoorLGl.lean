/- What the five listed variables give; and a world that meets the list. -/
import Derived.Test.YtggjgikpiljoiaaDoorL8
import Derived.Test.YtggjgikpiljoiaaDoorCards
import Derived.Test.YtggjgikpiljoiaaDoorTie
import Derived.WalkKit
import Derived.ProofKit
import Derived.OpenShut
import Derived.ShutString
import Derived.ChangeOld
import Derived.Below
import Derived.Lib.LaidTab
import Derived.Stop.LaidErr
import Derived.Deep.DeepHandedRow
import Derived.Shelf.Spec.TrailingZeros
import Derived.Shelf.Vars
namespace Go.Proofs.YtggjgikpiljoiaaDoor
open Go.RowKit Hm Wm

theorem gp : Tryd.prog.globalNamed "internal/strconv.uint64pow10" = some 1 := by kernel_rfl
theorem gpt : (Tryd.prog.globals[1]?).map (·.type) = some 100 := by kernel_rfl
theorem cp20 : Tryd.prog.cellsOf 100 = 20 := by kernel_rfl
theorem cp1 : Tryd.prog.cellsOf 83 = 1 := by kernel_rfl
theorem a20_under : Tryd.prog.underlying 100 = some (.array 20 83) := by kernel_rfl
theorem dp : Rows.laid_internal_strconv_uint64pow10 = (Lib.tabData .u64 Lib.pow10Tab : DataW Unit) := by kernel_rfl
theorem ges : (Tryd.prog.globals[2]?).map (·.type) = some 67 := by kernel_rfl
theorem ger : (Tryd.prog.globals[3]?).map (·.type) = some 67 := by kernel_rfl
theorem e_star : "*" ++ "errors.errorString" = "*errors.errorString" := by decide
theorem e_row (u : TypeId) (h : Tryd.prog.typeName? 3 u = some "*errors.errorString") : u = 113 :=
  typeName_ptr_named (nm := "errors.errorString") (by rw [e_star]; kernel_rfl) (by kernel_rfl) (by decide) u (by rw [e_star]; exact h)
theorem e_cells : Tryd.prog.cellsOf 115 = 1 := by kernel_rfl
theorem s_cells : Tryd.prog.cellsOf 9 = 1 := by kernel_rfl
/-- The list of a law. -/
abbrev laid5 : List (String × DataW Unit) := [("math/bits.deBruijn32tab", Rows.laid_math_bits_deBruijn32tab), ("math/bits.deBruijn64tab", Rows.laid_math_bits_deBruijn64tab), ("internal/strconv.uint64pow10", Rows.laid_internal_strconv_uint64pow10), ("strconv.ErrRange", Rows.laid_strconv_ErrRange), ("strconv.ErrSyntax", Rows.laid_strconv_ErrSyntax)]
theorem mx_shaped {w : World} (h : w.ShapedOpen Tryd.prog) : ∃ m : Int, w.cell? ⟨0, 0, none⟩ = some (.int .i64 m) :=
  Go.Proofs.cell_of_shapedOpen_int (zero := #[.int .i64 0]) (t := 3) h (of_decide_eq_true (by kernel_rfl)) (by kernel_rfl) rfl (by kernel_rfl) (by kernel_rfl) Tryd.underlying3
theorem var_lt {W : World} {name : String} {x : Array Value} {g : Nat} (hn : Tryd.prog.globalNamed name = some g) (h : W.var? Tryd.prog name = some x) : g < W.heap.size := by
  unfold World.var? at h
  rw [hn] at h
  simp only [Option.bind_some] at h
  rcases Nat.lt_or_ge g W.heap.size with h' | h'
  · exact h'
  · rw [Array.getElem?_eq_none h'] at h; cases h
theorem tab_lt {W : World} (h : laidMet Tryd.prog laid5 W) : 6 ≤ W.heap.size := by
  have h2 := h.tail
  obtain ⟨_, hv, _⟩ := h2
  obtain ⟨g, t, cs, fuel, p, q, hg, _, hv, _⟩ := hv
  have := var_lt hg hv
  have e : Tryd.prog.globalNamed "math/bits.deBruijn64tab" = some 5 := by kernel_rfl
  obtain rfl := Option.some.inj (e.symm.trans hg)
  omega
theorem glob_five {W : World} (h : laidMet Tryd.prog laid5 W) (hS : W.ShapedOpen Tryd.prog) : Env W := by
  have h3 := h.tail.tail
  rw [dp] at h3
  have h4 := h.tail.tail.tail
  have h5 := h4.tail
  obtain ⟨a1, s1, hv1, _⟩ := laid_sentinel h4 gn3 ger Tryd.underlying67 e_row Tryd.underlying113 Tryd.underlying115 rfl rfl Tryd.underlying9 e_cells s_cells
  obtain ⟨a2, s2, hv2, _⟩ := laid_sentinel h5 gn2 ges Tryd.underlying67 e_row Tryd.underlying113 Tryd.underlying115 rfl rfl Tryd.underlying9 e_cells s_cells
  exact ⟨Lib.tabIs_of_head gp gpt a20_under Tryd.underlying83 cp1 cp20 h3, mx_shaped hS, ⟨_, _, hv2⟩, ⟨_, _, hv1⟩, tab_lt h⟩
/-- A world for the witness: the settled one, the tables and the two errors as their initialisers lay them. -/
def fillObj (cs : List Value) : Obj → Obj
  | .cells _ t frozen => .cells cs.toArray t frozen
  | o => o
noncomputable def low : Nat := (World.holding Tryd.prog default ⟨#[], #[], []⟩).heap.size
def erR : ByteArray := ⟨#[118, 97, 108, 117, 101, 32, 111, 117, 116, 32, 111, 102, 32, 114, 97, 110, 103, 101]⟩
def erS : ByteArray := ⟨#[105, 110, 118, 97, 108, 105, 100, 32, 115, 121, 110, 116, 97, 120]⟩
noncomputable def laidWorld (os : Os) : World :=
  let w0 := World.holding Tryd.prog os ⟨#[.cells #[.string erR] 115, .cells #[.string erS] 115], #[], []⟩
  { w0 with heap := ((((w0.heap.modify 4 (fillObj (Go.Lib.deBruijn32tab.map fun (n : Nat) => .int .u8 (n : Int)))).modify 5 (fillObj (Go.Lib.deBruijn64tab.map fun (n : Nat) => .int .u8 (n : Int)))).modify 1 (fillObj (Go.Lib.pow10Tab.map fun n => .int .u64 n))).modify 3 (fillObj [.iface 113 (.pointer (some ⟨low, 0, none⟩))])).modify 2 (fillObj [.iface 113 (.pointer (some ⟨low + 1, 0, none⟩))]) }
theorem laid_five (os : Os) (args : Array Value) : laidMet Tryd.prog laid5 ((laidWorld os).forCall (fun _ _ => 0) ⟨#[], args, []⟩).memory :=
  laidMet_of_run' 8 (by kernel_rfl) (by kernel_rfl)
theorem ownKnob_none : ownKnob Tryd.prog.godebug = none := by kernel_rfl
theorem laidOut : laidOutB Tryd.prog = true := by kernel_rfl
end Go.Proofs.YtggjgikpiljoiaaDoor
