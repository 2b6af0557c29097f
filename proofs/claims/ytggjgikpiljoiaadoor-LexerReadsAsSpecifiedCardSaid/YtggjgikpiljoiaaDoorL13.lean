/- Tokens: what it returns, and a source that is too long. -/
import Derived.Test.YtggjgikpiljoiaaDoorL12
import Derived.Test.YtggjgikpiljoiaaDoorLM4
import Derived.Lib.OthersKept
import Derived.WalkSmall
namespace Go.Proofs.YtggjgikpiljoiaaDoor
open Go.RowKit Hm Wm Lx

/-- All of a source: its tokens, or its problem. -/
def lexAll (l : List UInt8) : Rs := if 65536 < l.length then .bad 0 2 else lex l 0
/-- What Tokens returns. -/
def TokP (w : World) (q : Rs) (e : Ending) (w' : World) : Prop :=
  match q with
  | .ok T => ∃ v, e = .returned (.tuple #[v, .agg #[.int .i64 0, .int .i64 0]]) ∧ Row w' w.heap.size v (T.map toT) ∧ Below w.heap.size w w'
  | .bad x k => e = .returned (.tuple #[.slice none 0 0, .agg #[.int .i64 x, .int .i64 k]]) ∧ Below w.heap.size w w'
theorem pb_size : (Tryd.prog.info? 26).map (·.size) = some 2 := by kernel_rfl
theorem pb_zero : (Tryd.prog.info? 26).map (·.zero) = some (some (.agg #[.int .i64 0, .int .i64 0])) := by kernel_rfl
theorem rd_size : (Tryd.prog.info? 46).map (·.size) = some 3 := by kernel_rfl
theorem rd_zero : (Tryd.prog.info? 46).map (·.zero) = some (some (.agg #[.string ByteArray.empty, .int .i64 0, .slice none 0 0])) := by kernel_rfl
theorem pb_ne : 26 ≠ 33 := by decide
theorem build_pb (x k : Int) (W : World) : (Instr.build 26 #[(0, .int .i64 x), (1, .int .i64 k)]).run Tryd.prog W = .ok (.agg #[.int .i64 x, .int .i64 k]) W := by kernel_rfl
theorem build_pb1 (k : Int) (W : World) : (Instr.build 26 #[(1, .int .i64 k)]).run Tryd.prog W = .ok (.agg #[.int .i64 0, .int .i64 k]) W := by kernel_rfl
theorem build_pb0 (W : World) : (Instr.build 26 #[]).run Tryd.prog W = .ok (.agg #[.int .i64 0, .int .i64 0]) W := by kernel_rfl
theorem build_rd (s : ByteArray) (W : World) : (Instr.build 46 #[(0, .string s)]).run Tryd.prog W = .ok (.agg #[.string s, .int .i64 0, .slice none 0 0]) W := by kernel_rfl
theorem build_te (k : Int) (W : World) : (Instr.build 33 #[(0, .int .i64 k)]).run Tryd.prog W = .ok (.agg #[.int .i64 k, .int .i64 0, .string ByteArray.empty, .int .i64 0]) W := by kernel_rfl
theorem st_under : Tryd.prog.underlying 9 = some .string := Tryd.underlying9
/-- The iterator of a string moves. -/
theorem iter_only {w : World} {k : Nat} {s : ByteArray} {pos : Nat} (pos' : Nat) (h : w.heap[k]? = some (.stringIter s pos)) : Only k w (w.iterAt k s pos') ∧ (w.iterAt k s pos').heap[k]? = some (.stringIter s pos') := by
  refine ⟨⟨rfl, rfl, rfl, by simp [World.iterAt], fun j hj => ?_⟩, Lib.iterAt_heap w k s pos pos' h⟩
  simp only [World.iterAt]
  rw [Array.getElem?_setIfInBounds]
  rw [if_neg (Ne.symm hj)]
theorem Row.iter {W W' : World} {base k : Nat} {v : Value} {l : List TI} {s : ByteArray} {pos : Nat} (h : Row W base v l) (ho : Only k W W') (hk : W.heap[k]? = some (.stringIter s pos)) : Row W' base v l := by
  refine ⟨⟨h.1.1, ?_⟩, h.2⟩
  rcases h.1.2 with h0 | ⟨b, cap, cur, hv, h1, h2, h3⟩
  · exact .inl h0
  · refine .inr ⟨b, cap, cur, hv, h1, ?_, h3⟩
    rw [ho.block b ?_]
    · exact h2
    · rintro rfl
      rw [hk] at h2; cases h2
theorem KeepsX.iter {g k : Nat} {W W' : World} {s : ByteArray} {pos : Nat} (h : KeepsX g W W') (hk : W.heap[k]? = some (.stringIter s pos)) (hg : k ≠ g) : W'.heap[k]? = some (.stringIter s pos) := h.2 k _ hk (.inl rfl) hg
theorem iterPos_of' {w : World} {k : Nat} {s : ByteArray} {pos : Nat} (h : w.heap[k]? = some (.stringIter s pos)) : w.iterPos k = pos := iterPos_of h
theorem lex_go {l : List UInt8} {p : Nat} (h : p < l.length) : ∃ c r, l.drop p = c :: r := by
  cases hd : l.drop p with
  | nil => have := congrArg List.length hd; rw [List.length_drop] at this; simp at this; omega
  | cons c r => exact ⟨c, r, rfl⟩
set_option maxRecDepth 100000 in
set_option maxHeartbeats 800000 in
theorem tokens_long (l : List UInt8) (w : World) (hl : l.length ≤ 2 ^ 48) (h : 65536 < l.length) : Calls Tryd.prog 9 #[.string (sb l)] w (TokP w (.bad 0 2)) := by
  have hz : (sb l).size = l.length := sb_size l
  have h1 : decide ((65536 : Int) < ((sb l).size : Int)) = true := decide_eq_true (by rw [hz]; omega)
  clear hz h hl
  go_enter Tryd.func9, Tryd.ntmps9
  go_wp2_with (first | (refine wpList_new rfl 26 rfl [.int .i64 0, .int .i64 0] pb_zero ?_; intro w1 HP HW) | (refine wpList_dst 10 rfl ?_; refine wpList_run 10 rfl rfl _ (exec_buildF 26 #[(1, .const (.int .i64 2))] rfl #[(1, .int .i64 2)] rfl _ (build_pb1 2 _)) ?_; go_frame) | (refine wpList_store_all rfl 26 (.tmp 3) (.tmp 10) rfl w.heap.size 26 [.int .i64 0, .int .i64 0] [.int .i64 0, .int .i64 2] rfl rfl HP.out rfl pb_size (List.forall_mem_cons.2 ⟨rfl, (List.forall_mem_cons.2 ⟨rfl, fun _ h => nomatch h⟩)⟩) ?_; intro w8 HP8 ho8; have HO8 := Lib.hid ho8; clear ho8))
  exact bodyPost_ret (results_tc rfl _ _ w.heap.size _ [.int .i64 0, .int .i64 2] (.slice none 0 0) _ rfl rfl HP8.out Tryd.underlying26 rfl pb_size) rfl ⟨rfl, HW.out.trans (HO8.out.below (Nat.le_refl _))⟩
end Go.Proofs.YtggjgikpiljoiaaDoor
