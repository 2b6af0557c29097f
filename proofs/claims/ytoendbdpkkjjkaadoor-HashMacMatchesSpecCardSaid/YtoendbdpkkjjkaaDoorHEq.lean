/- Arrays of bytes compared. -/
import Derived.Test.YtoendbdpkkjjkaaDoorHSmall
namespace Go.Proofs.YtoendbdpkkjjkaaDoor
open Go.RowKit Hm

theorem run_part_u8 (w : World) (l : List UInt8) (i : Nat) (h : i < l.length) : (part 5 (bc l).toArray i).run Tryd.prog w = .ok (.int .u8 l[i].toNat) w := by
  have ha : (isAgg 5).run Tryd.prog w = .ok false w := by kernel_rfl
  have hx : (bc l).toArray[i]? = some (.int .u8 l[i].toNat) := by rw [List.getElem?_toArray]; exact bc_at h
  simp [part, ha, hx]
theorem u8_beq (x y : UInt8) : ((x.toNat : Int) == (y.toNat : Int)) = decide (x = y) := by
  rw [Bool.eq_iff_iff, beq_iff_eq, decide_eq_true_iff]
  constructor
  · intro h; exact UInt8.toNat_inj.1 (by omega)
  · intro h; rw [h]
theorem run_eq_u8 (w : World) (d : Nat) (x y : UInt8) : (Op.equalIn (d + 1) 5 (.int .u8 x.toNat) (.int .u8 y.toNat)).run Tryd.prog w = .ok (decide (x = y)) w := by
  rw [run_equalIn_int w d 5 .u8 .u8 _ _ Tryd.underlying5, u8_beq]

set_option maxRecDepth 100000 in
theorem run_equalIn_arr (t : TypeId) (n : Nat) (hu : Tryd.prog.underlying t = some (.array n 5)) (w : World) (d : Nat) (l r : List UInt8) (hl : l.length = n) (hr : r.length = n) :
    (Op.equalIn (d + 2) t (.agg (bc l).toArray) (.agg (bc r).toArray)).run Tryd.prog w = .ok (decide (l = r)) w := by
  have hs : (sizeOf 5).run Tryd.prog w = .ok 1 w := by kernel_rfl
  unfold Op.equalIn
  simp only [Sem.run_bind, run_underlying hu, Result.andThen_ok, hs, Std.Legacy.Range.forIn_eq_forIn_range', Std.Legacy.Range.size]
  have key : ∀ (js : List Nat), (∀ j ∈ js, j < n) → (forIn js ((none : Option Bool), ()) fun i __s => do
              let a ← part 5 (bc l).toArray (i * 1)
              let b ← part 5 (bc r).toArray (i * 1)
              let c ← Op.equalIn (d + 1) 5 a b
              if (!c) = true then pure (ForInStep.done (some false, ())) else pure (ForInStep.yield (none, ()))).run Tryd.prog w = .ok (if ∀ j ∈ js, l[j]? = r[j]? then none else some false, ()) w := by
    intro js
    induction js with
    | nil => intro _; simp
    | cons j js ih =>
      intro h
      have hj := h j List.mem_cons_self
      have hj1 : j < l.length := by omega
      have hj2 : j < r.length := by omega
      have h2 := ih fun x hx => h x (List.mem_cons_of_mem _ hx)
      simp only [List.forIn_cons, Sem.run_bind, Nat.mul_one, run_part_u8 w l j hj1, run_part_u8 w r j hj2, Result.andThen_ok, run_eq_u8]
      by_cases he : l[j] = r[j]
      · simp only [he, decide_true, Bool.not_true, Bool.false_eq_true, if_false, Sem.run_pure]
        have e : (∀ i ∈ j :: js, l[i]? = r[i]?) ↔ (∀ i ∈ js, l[i]? = r[i]?) := by
          constructor
          · intro h i hi; exact h i (List.mem_cons_of_mem _ hi)
          · intro h i hi
            rcases List.mem_cons.1 hi with rfl | hi
            · rw [List.getElem?_eq_getElem hj1, List.getElem?_eq_getElem hj2, he]
            · exact h i hi
        simp only [e]
        simpa using h2
      · have e : ¬ (∀ i ∈ j :: js, l[i]? = r[i]?) := by
          intro h
          have := h j List.mem_cons_self
          rw [List.getElem?_eq_getElem hj1, List.getElem?_eq_getElem hj2] at this
          exact he (Option.some.inj this)
        rw [if_neg e]
        simp [he]
  rw [key _ (by intro j hj; simp at hj; omega)]
  by_cases he : l = r
  · subst he; simp
  · have e : ¬ (∀ j ∈ List.range' 0 ((n - 0 + 1 - 1) / 1), l[j]? = r[j]?) := by
      intro h
      apply he
      apply List.ext_getElem?
      intro i
      by_cases hi : i < n
      · exact h i (by simp; omega)
      · rw [List.getElem?_eq_none (by omega), List.getElem?_eq_none (by omega)]
    rw [if_neg e]
    simp [he]

theorem run_eql_a32 (w : World) (l r : List UInt8) (hl : l.length = 32) (hr : r.length = 32) : (binOp .eql 24 (.agg (bc l).toArray) (.agg (bc r).toArray)).run Tryd.prog w = .ok (.bool (decide (l = r))) w := by
  rw [run_eql_struct, run_equalIn_arr _ 32 a32_under w 9998 l r hl hr]; rfl
theorem run_eql_dig (w : World) (l r : List UInt8) (hl : l.length = 16) (hr : r.length = 16) : (binOp .eql 43 (.agg (bc l).toArray) (.agg (bc r).toArray)).run Tryd.prog w = .ok (.bool (decide (l = r))) w := by
  rw [run_eql_struct, run_equalIn_arr _ 16 dg_under w 9998 l r hl hr]; rfl
theorem eqg_a32 : Tryd.prog.eqGuardType Tryd.prog.depth 24 = false := by kernel_rfl
theorem eqg_dig : Tryd.prog.eqGuardType Tryd.prog.depth 43 = false := by kernel_rfl
end Go.Proofs.YtoendbdpkkjjkaaDoor
