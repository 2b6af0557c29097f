/- The walk of LexerStopsAtTheFirstProblem. -/
import Derived.Test.YtggjgikpiljoiaaDoorL18
import Derived.Deep.DeepCutAuto
namespace Go.Proofs.YtggjgikpiljoiaaDoor
open Go.RowKit Hm Wm Lx

theorem pb_f (g k : Nat) (hk : k = 0 ∨ k = 1) (W : World) : (Instr.fieldAt 26 (.pointer (some ⟨g, 0, none⟩)) k).run Tryd.prog W = .ok (.pointer (some ⟨g, k, none⟩)) W := by
  rcases hk with rfl | rfl <;> kernel_rfl
theorem er_flat (W : World) : (isAgg 24).run Tryd.prog W = .ok false W := by kernel_rfl
theorem tok_ok (l : List UInt8) (T : List Tok) (hl : l.length ≤ 65536) (w : World) (hE : Env w) (h : lex l 0 = .ok T) :
    Calls Tryd.prog 9 #[.string (sb l)] w fun e w' => (∃ A c, e = .returned (.tuple #[.slice A T.length c, .agg #[.int .i64 0, .int .i64 0]]) ∧ RdT w' A (T.map toT)) ∧ Below w.heap.size w w' := by
  refine (tokens_ok l w hl hE).mono fun e w' hq => ?_
  rw [h] at hq
  obtain ⟨v, h1, h2, h3⟩ := hq
  obtain ⟨A, c, rfl, hc, hr⟩ := h2.reads
  rw [List.length_map] at h1
  exact ⟨⟨A, c, h1, hr⟩, h3⟩
theorem wpList_callF {ops : Array Oper} {rest : List Oper} {o : Oper} {a : Act} {w : World} {Q : Exit → Act → World → Prop} (d : Tmp) (hd : o.dst = some d) (hw : Region.wanted o (yielded ops a.tmps) = true) {F : FuncId} {xs : Array Operand} {ts : Array TypeId} (ho : o.op = .call { callee := .value (.func F), args := xs, argTypes := ts })
    {fn : Func} (hf : Tryd.prog.funcs[F]? = some fn) (hn : (fn.name == "runtime.NumGoroutine") = false) (hb : fn.body.isNone = false) (vs : Array Value) (hvs : xs.toList.map a.eval = vs.toList) {R : Ending → World → Prop} (hc : Calls Tryd.prog F vs w R)
    (h : ∀ e w', R e w' → ∃ v, e = .returned v ∧ wpList Tryd.prog ops Q rest (a.put (some d) v) w') : wpList Tryd.prog ops Q (o :: rest) a w :=
  wpList_want hw fun K hK => wp_call_fn ho hf hn hb vs hvs hc fun e w' he => by
    obtain ⟨v, h1, h2⟩ := h e w' he
    rw [← hd] at h2
    exact ⟨v, h1, hK _ _ h2⟩
theorem wpList_skipD {P : Program} {ops : Array Oper} {Q : Exit → Act → World → Prop} {a : Act} {w : World} {rest : List Oper} {o : Oper} (d : Tmp) (hd : o.dst = some d)
    (hw : Region.wanted o (yielded ops a.tmps) = false) (h : wpList P ops Q rest (a.put (some d) undef) w) : wpList P ops Q (o :: rest) a w := by
  rw [← hd] at h
  exact wpList_skip hw h
def skipOk (ops : Array Oper) : List Oper → List Tmp → Act → Bool
  | [], [], _ => true
  | u :: us, d :: ds, a => (u.dst == some d) && (Region.wanted u (yielded ops a.tmps) == false) && skipOk ops us ds (a.put (some d) undef)
  | _, _, _ => false
theorem wpList_skips {P : Program} {ops : Array Oper} {Q : Exit → Act → World → Prop} {w : World} : ∀ (us : List Oper) (ds : List Tmp) (rest : List Oper) (a : Act), skipOk ops us ds a = true → wpList P ops Q rest (ds.foldl (fun a d => a.put (some d) undef) a) w → wpList P ops Q (us ++ rest) a w
  | [], [], rest, a, _, h => h
  | [], _ :: _, _, _, hk, _ => by simp [skipOk] at hk
  | _ :: _, [], _, _, hk, _ => by simp [skipOk] at hk
  | u :: us, d :: ds, rest, a, hk, h => by
    simp only [skipOk, Bool.and_eq_true, beq_iff_eq] at hk
    refine wpList_skip hk.1.2 ?_
    rw [hk.1.1]
    exact wpList_skips us ds rest _ hk.2 h
/-- An operation is done, and those behind it that are not wanted are passed over, in one Lx.step. -/
theorem wpList_runSkip {w : World} {ops : Array Oper} {tail : List Oper} {o : Oper} {a : Act} {Q : Exit → Act → World → Prop} (d : Tmp) (hd : o.dst = some d) (hw : Region.wanted o (yielded ops a.tmps) = true) (v : Value) (hrun : (execOp a.eval o).run Tryd.prog w = .ok (.value v) w)
    (n : Nat) (ds : List Tmp) (hk : skipOk ops (tail.take n) ds (a.put (some d) v) = true) (h : wpList Tryd.prog ops Q (tail.drop n) (ds.foldl (fun a d => a.put (some d) undef) (a.put (some d) v)) w) : wpList Tryd.prog ops Q (o :: tail) a w := by
  refine wpList_runG d hd hw v hrun ?_
  have := wpList_skips (P := Tryd.prog) (Q := Q) (w := w) (tail.take n) ds (tail.drop n) _ hk h
  rwa [List.take_append_drop] at this
theorem lex_nonempty {l : List UInt8} {x : Nat} {T : List Tok} (h : lex l x = .ok T) : 0 < T.length := by
  obtain ⟨U, rfl⟩ := lex_last l x T h; simp
theorem lex_codes {l : List UInt8} {x y e : Nat} (h : lex l x = .bad y e) : e ≠ 0 := by
  revert h
  refine lex_ind (P := fun l x => lex l x = .bad y e → e ≠ 0) (fun x h => by cases h) (fun l x n h _ _ ih hT => ?_) (fun l x k s v n h _ _ ih hT => ?_) (fun c r x e' h hT => ?_) l x
  · rw [lex_skip x h] at hT; exact ih hT
  · rw [lex_tok x h] at hT; exact ih (app_bad hT)
  · rw [lex_bad x h] at hT
    injection hT with _ h2
    subst h2
    exact (step_codes h).2
end Go.Proofs.YtggjgikpiljoiaaDoor
