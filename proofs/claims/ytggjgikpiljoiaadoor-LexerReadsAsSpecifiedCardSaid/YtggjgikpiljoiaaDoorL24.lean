/- The walk of LexerReadsItsText. -/
import Derived.Test.YtggjgikpiljoiaaDoorL23
import Derived.Test.YtggjgikpiljoiaaDoorLM5
import Derived.Deep.DeepCutAuto
namespace Go.Proofs.YtggjgikpiljoiaaDoor
open Go.RowKit Hm Wm Lx

theorem pb_eq0 (W : World) : (binOp .eql 26 (.agg #[.int .i64 0, .int .i64 0]) (.agg #[.int .i64 0, .int .i64 0])).run Tryd.prog W = .ok (.bool true) W := by kernel_rfl
theorem pb_gd (x y : Operand) (xs ys : Array Value) (W : World) : (eqGuard .eql 26 x y (.agg xs) (.agg ys)).run Tryd.prog W = .ok () W := run_eqGuard_agg W .eql _ x y xs ys (by kernel_rfl)
theorem text_tok (T : List Tok) (X : List UInt8) (hX : textL T = X) (hn : T.length ≤ 70000) (hs : ∀ t ∈ T, t.s.length ≤ 70000 ∧ t.v < 1000000000000000) (hl : X.length ≤ 200000) (A : Option Addr) (c : Nat) (w : World) (hE : Env w) (hr : RdT w A (T.map toT)) :
    Calls Tryd.prog 11 #[.slice A T.length c] w fun e w' => e = .returned (.string (sb X)) ∧ Below w.heap.size w w' := by
  have h := text_of A c (T.map toT) w hr hE (by rw [List.length_map]; omega) (fun x hx => by
    obtain ⟨t, ht, rfl⟩ := List.mem_map.1 hx
    have := (hs t ht).1
    show (sb t.s).size ≤ _
    rw [sb_size]; omega) (fun x hx => by
    obtain ⟨t, ht, rfl⟩ := List.mem_map.1 hx
    have := (hs t ht).2
    show (-9223372036854775808 : Int) ≤ (t.v : Int) ∧ (t.v : Int) ≤ 9223372036854775807
    omega) (by rw [textI_tok, hX]; omega)
  rw [List.length_map, textI_tok, hX] at h
  exact h
theorem strip_st {T V : List Tok} (h : V.map strip = T.map strip) : (T.map toT).map stI = (V.map toT).map stI := by
  have e : ∀ L : List Tok, (L.map toT).map stI = (L.map strip).map fun p => ((p.1 : Int), sb p.2.1, (p.2.2 : Int)) := fun L => by
    rw [List.map_map, List.map_map]; rfl
  rw [e, e, h]
end Go.Proofs.YtggjgikpiljoiaaDoor
