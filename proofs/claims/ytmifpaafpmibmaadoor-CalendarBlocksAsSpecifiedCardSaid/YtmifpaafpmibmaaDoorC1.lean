/- The calendar's numbers: leap years, lengths of months, first days of years. -/
import Derived.Test.YtmifpaafpmibmaaDoorNB
import Derived.Test.YtmifpaafpmibmaaDoorCLst
import Derived.IntWalk
namespace Go.Proofs.YtmifpaafpmibmaaDoor
open Go.RowKit Hm Wm Cm

/-- The cells of the table of lengths. -/
def lens : List Value := [.int .i64 31, .int .i64 28, .int .i64 31, .int .i64 30, .int .i64 31, .int .i64 30, .int .i64 31, .int .i64 31, .int .i64 30, .int .i64 31, .int .i64 30, .int .i64 31]
def Lens (w : World) : Prop := w.rangeAt 0 0 lens
theorem range_below' {w w' : World} {b o : Nat} {xs : List Value} (h : w.rangeAt b o xs) (hb : Below w.heap.size w w') : w'.rangeAt b o xs := fun j v hv => by
  have h1 := h j v hv
  rw [hb.cell (p := ⟨b, o + j, none⟩) (World.block_lt_of_cell? w _ h1)]; exact h1
theorem Lens.next {w w' : World} (h : Lens w) (hb : Below w.heap.size w w') : Lens w' := range_below' h hb

def lpI (y : Int) : Bool := (y.tmod 4 == 0 && y.tmod 100 != 0) || y.tmod 400 == 0
set_option maxRecDepth 100000 in
set_option maxHeartbeats 400000 in
theorem leap_any (y : Int) (w : World) : Calls Tryd.prog 29 #[.int .i64 y] w fun e w' => e = .returned (.bool (lpI y)) ∧ w = w' := by
  cases h4 : (y.tmod 4 == 0) <;> cases h100 : (y.tmod 100 == 0) <;> cases h400 : (y.tmod 400 == 0)
  all_goals
    have hR : lpI y = ((y.tmod 4 == 0) && !(y.tmod 100 == 0) || (y.tmod 400 == 0)) := rfl
    rw [h4, h100, h400] at hR
    have HR := Lib.hid hR
    clear hR
    have g100 : (y.tmod 100 != 0) = !(y.tmod 100 == 0) := rfl
    rw [h100] at g100
    simp only [Bool.not_false, Bool.not_true] at g100
    go_enter Tryd.func29, Tryd.ntmps29
    go_wp2
    go_ret
    exact ⟨by rw [HR.out]; rfl, rfl⟩
end Go.Proofs.YtmifpaafpmibmaaDoor
