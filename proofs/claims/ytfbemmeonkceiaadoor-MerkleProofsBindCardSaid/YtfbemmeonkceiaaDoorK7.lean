/- Contract of merkle's Inclusion. -/
import Derived.Test.YtfbemmeonkceiaaDoorK6
namespace Go.Proofs.YtfbemmeonkceiaaDoor
open Go.RowKit Hm Wm

/-- What a call hands back: a list of digests in its own memory. -/
def NewD (w' : World) (l : List Dg) (v : Value) : Prop := ∃ A c, v = .slice A l.length c ∧ RdD w' A l ∧ l.length ≤ c
theorem newD_of_row {w' : World} {base : Nat} {v : Value} {l : List Dg} (h : w'.ownsRow base 31 16 v l.length (dl l)) : NewD w' l v := by
  rcases h.2 with ⟨rfl, h0⟩ | ⟨g, cap, cur, rfl, h2, h3, h4, h5, h6⟩
  · obtain rfl : l = [] := List.eq_nil_of_length_eq_zero h0
    exact ⟨none, 0, rfl, Rd.nil _ _, Nat.le_refl _⟩
  · exact ⟨_, cap, rfl, Rd.of_row h, by first | omega | (have := World.ownsRow.lt h; omega)⟩
theorem HeldP.begin {w W3 : World} {T : TypeId} {F : Value} (hk : Blk W3 (w.heap.size + 1) T [F]) (ho : Only (w.heap.size + 1) ((w.alloc (.cells #[Value.slice none 0 0] 22)).alloc (.cells #[Value.nilFunc] T)) W3) :
    HeldP w w.heap.size (w.heap.size + 1) T F (.slice none 0 0) [] W3 := by
  have b1 : Blk ((w.alloc (.cells #[Value.slice none 0 0] 22)).alloc (.cells #[Value.nilFunc] T)) w.heap.size 22 [.slice none 0 0] := (Blk.new w 22 [.slice none 0 0]).alloc _
  exact ⟨((((Below.refl _ _).alloc (Nat.le_refl _) _).alloc (by simp) _)).trans (ho.below (by omega)), ho.blk b1 (by omega), hk, World.ownsRow_nil _ _ _ _, Nat.le_refl _, by omega, by omega, by omega, by omega⟩
theorem blk_fn (w : World) (T : TypeId) : Blk ((w.alloc (.cells #[Value.slice none 0 0] 22)).alloc (.cells #[Value.nilFunc] T)) (w.heap.size + 1) T [.nilFunc] := by
  have b2 := Blk.new (w.alloc (.cells #[Value.slice none 0 0] 22)) T [.nilFunc]
  rw [size_alloc] at b2
  exact b2
theorem fl_size : (Tryd.prog.info? 64).map (·.size) = some 1 := by kernel_rfl

set_option maxRecDepth 100000 in
set_option maxHeartbeats 1000000 in
theorem incl_bad (l : List Dg) (A : Option Addr) (c : Nat) (i : Int) (w : World) (h : i < 0 ∨ (l.length : Int) ≤ i) :
    Calls Tryd.prog 10 #[.slice A l.length c, .int .i64 i] w fun e w' => e = .returned (.tuple #[.slice none 0 0, .int .i64 1]) ∧ w' = w := by
  by_cases h0 : i < 0
  · have d0 : decide (i < 0) = true := decide_eq_true (by omega)
    clear h
    go_enter Tryd.func10, Tryd.ntmps10
    go_wp2
    go_ret2
    exact ⟨rfl, rfl⟩
  · have d0 : decide (i < 0) = false := decide_eq_false (by omega)
    have h2 : (l.length : Int) ≤ i := by omega
    have d1 : decide ((l.length : Int) ≤ i) = true := decide_eq_true (by omega)
    clear h
    go_enter Tryd.func10, Tryd.ntmps10
    go_wp2
    go_ret2
    exact ⟨rfl, rfl⟩

set_option maxRecDepth 100000 in
set_option maxHeartbeats 1000000 in
theorem incl_any (l : List Dg) (A : Option Addr) (c : Nat) (i : Nat) (w : World) (hg : Glob w) (hr : RdD w A l) (hc : l.length ≤ c) (hn : l.length ≤ 2 ^ 38) (hi : i < l.length) :
    Calls Tryd.prog 10 #[.slice A l.length c, .int .i64 i] w fun e w' => ∃ v, e = .returned (.tuple #[v, .int .i64 0]) ∧ NewD w' (inclD l i) v ∧ Below w.heap.size w w' := by
  have hmf : ∀ (fn : Fn) (first cap : Array Value) (w : World), (Instr.makeFunc fn first cap).run Tryd.prog w = .ok (.func fn first cap) w := fun _ _ _ _ => rfl
  have d0 : decide ((i : Int) < 0) = false := decide_eq_false (by omega)
  have d1 : decide ((l.length : Int) ≤ (i : Int)) = false := decide_eq_false (by omega)
  have d2 : decide (l.length ≤ i) = false := decide_eq_false (by omega)
  have HC := Lib.hid (fun w' => incl1_any w hg w.heap.size (w.heap.size + 1) l.length l i A c (.slice none 0 0) [] w' (Nat.le_refl _) hi hc (by omega) (by simp; omega) hr)
  have HK := Lib.hid (blk_fn w 64)
  clear hg hr
  go_enter Tryd.func10, Tryd.ntmps10
  go_wp2_with (first | (refine wpList_store_var rfl 64 (.tmp 7) (.tmp 16) rfl (w.heap.size + 1) _ .nilFunc (inclF w.heap.size (w.heap.size + 1)) rfl rfl HK.out fl_size rfl rfl ?_; intro w3 HK3 ho3; have HS3 := Lib.hid (HeldP.begin HK3.out ho3); clear ho3 HK HK3) | (refine wpList_load_var rfl 64 (.tmp 7) rfl (w.heap.size + 1) _ (inclF w.heap.size (w.heap.size + 1)) rfl HS3.out.2.2.1 fl_under ?_; unfold inclF))
  refine (HC.out _ HS3.out).mono ?_
  rintro e w4 ⟨rfl, v4, hS4⟩
  have HS4 := Lib.hid hS4
  clear hS4 HS3 HC
  go_wp2_with (refine wpList_load_var rfl 22 (.tmp 6) rfl w.heap.size _ v4 rfl HS4.out.2.1 ds_flat ?_)
  go_ret2
  exact ⟨v4, rfl, newD_of_row (by have := HS4.out.2.2.2.1; rwa [List.nil_append] at this), HS4.out.1⟩
end Go.Proofs.YtfbemmeonkceiaaDoor
