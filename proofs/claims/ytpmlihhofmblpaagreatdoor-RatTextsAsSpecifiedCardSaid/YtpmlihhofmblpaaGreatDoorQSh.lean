/- What the shape of the memory gives: the named variable of type int holds some integer. -/
import Derived.Test.YtpmlihhofmblpaaGreatDoorQd
import Derived.Shelf.Vars
namespace Go.Proofs.YtpmlihhofmblpaaGreatDoor
open Go.RowKit Hm Wm Wn

theorem mx_shaped {w : World} (h : w.ShapedOpen Tryz.prog) : ∃ m : Int, w.cell? ⟨0, 0, none⟩ = some (.int .i64 m) :=
  Go.Proofs.cell_of_shapedOpen_int (zero := #[.int .i64 0]) (t := 3) h (of_decide_eq_true (by kernel_rfl)) (by kernel_rfl) rfl (by kernel_rfl) (by kernel_rfl) Tryz.underlying3
end Go.Proofs.YtpmlihhofmblpaaGreatDoor
