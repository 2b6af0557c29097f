/- Contracts of merkle's wellFormed and of slices.Clone of digests. -/
import Derived.Test.YtfbemmeonkceiaaDoorK21
import Derived.Deep.QuietTactic
import Derived.BigQuiet
import Derived.Lib.SliceRun
namespace Go.Proofs.YtfbemmeonkceiaaDoor
open Go.RowKit Hm Wm

/-- Peaks as a value. -/
def pkV (s : Int) (t : Value) : Value := .agg #[.int .i64 s, t]
/-- Whether peaks are well-formed. -/
def wfB (s : Int) (n : Nat) : Bool := decide (0 ≤ s ∧ s ≤ 1099511627776 ∧ n = Go.Lib.popAux 64 s.toNat)

set_option maxRecDepth 100000 in
set_option maxHeartbeats 1000000 in
theorem wf_lo (s : Int) (A : Option Addr) (n c : Nat) (w : World) (h : s < 0) :
    Calls Tryd.prog 51 #[pkV s (.slice A n c)] w fun e w' => e = .returned (.bool false) ∧ Below w.heap.size w w' := by
  have d0 : decide (0 ≤ s) = false := decide_eq_false (by omega)
  have hb := Lib.hid ((Below.refl w.heap.size w).alloc (Nat.le_refl _) (.cells #[.int .i64 s, .slice A n c] 43))
  clear h
  unfold pkV
  go_enter Tryd.func51, Tryd.ntmps51
  go_wp2
  go_quiet (fail)
  go_wp2
  go_ret
  exact ⟨rfl, drewN_below hb.out _⟩
set_option maxRecDepth 100000 in
set_option maxHeartbeats 1000000 in
theorem wf_hi (s : Int) (A : Option Addr) (n c : Nat) (w : World) (h : 1099511627776 < s) :
    Calls Tryd.prog 51 #[pkV s (.slice A n c)] w fun e w' => e = .returned (.bool false) ∧ Below w.heap.size w w' := by
  have d0 : decide (0 ≤ s) = true := decide_eq_true (by omega)
  have d1 : decide (s ≤ 1099511627776) = false := decide_eq_false (by omega)
  have hb := Lib.hid ((Below.refl w.heap.size w).alloc (Nat.le_refl _) (.cells #[.int .i64 s, .slice A n c] 43))
  clear h
  unfold pkV
  go_enter Tryd.func51, Tryd.ntmps51
  go_wp2
  go_quiet (fail)
  go_wp2
  go_ret
  exact ⟨rfl, drewN_below hb.out _⟩
set_option maxRecDepth 100000 in
set_option maxHeartbeats 1000000 in
theorem wf_in (s : Nat) (A : Option Addr) (n c : Nat) (w : World) (h : s ≤ 1099511627776) :
    Calls Tryd.prog 51 #[pkV s (.slice A n c)] w fun e w' => e = .returned (.bool ((n : Int) == (Go.Lib.popAux 64 s : Nat))) ∧ Below w.heap.size w w' := by
  have d0 : decide (0 ≤ (s : Int)) = true := decide_eq_true (by omega)
  have d1 : decide ((s : Int) ≤ 1099511627776) = true := decide_eq_true (by omega)
  have d2 : IntKind.u64.wrap (s : Int) = (s : Int) := by rw [IntKind.wrap_u64]; omega
  have h2 : s < 18446744073709551616 := by omega
  have hb := Lib.hid ((Below.refl w.heap.size w).alloc (Nat.le_refl _) (.cells #[.int .i64 s, .slice A n c] 43))
  have HC := Lib.hid (fun w => ones_any s w h2)
  clear h h2
  unfold pkV
  go_enter Tryd.func51, Tryd.ntmps51
  go_wp2
  go_quiet ((go_at_call 74; exact Calls.quiet_of_same (HC.out _)))
  go_wp2
  go_ret
  exact ⟨rfl, drewN_below hb.out _⟩
theorem wf_any (s : Int) (A : Option Addr) (n c : Nat) (w : World) :
    Calls Tryd.prog 51 #[pkV s (.slice A n c)] w fun e w' => e = .returned (.bool (wfB s n)) ∧ Below w.heap.size w w' := by
  rcases Int.lt_or_le s 0 with h0 | h0
  · rw [show wfB s n = false from decide_eq_false (by omega)]; exact wf_lo s A n c w h0
  · rcases Int.lt_or_le 1099511627776 s with h1 | h1
    · rw [show wfB s n = false from decide_eq_false (by omega)]; exact wf_hi s A n c w h1
    · obtain ⟨k, rfl⟩ := Int.eq_ofNat_of_zero_le h0
      have e : wfB (k : Int) n = ((n : Int) == (Go.Lib.popAux 64 k : Nat)) := by
        unfold wfB
        rw [Bool.eq_iff_iff, decide_eq_true_iff, beq_iff_eq, Int.toNat_natCast]
        omega
      rw [e]; exact wf_in k A n c w (by omega)

set_option maxHeartbeats 2000000 in
set_option maxRecDepth 100000 in
theorem clone_some (a : Addr) (c : Nat) (l : List Dg) (w : World) (hl : l.length ≤ 1000000) (hc : ∀ j u, (dl l)[j]? = some u → w.cell? (a.add j) = some u) :
    Calls Tryd.prog 54 #[.slice (some a) l.length c] w fun e w' => ∃ v, e = .returned v ∧ w'.ownsRow w.heap.size 31 16 v l.length (dl l) ∧ Below w.heap.size w w' := by
  obtain ⟨i0, hi, hz0, hz1, hz2⟩ := info_parts dg_info
  have q22 : ∀ (w : World) (a : Option Addr) (n c n' c' : Nat), (binOp .eql 22 (.slice a n c) (.slice none n' c')).run Tryd.prog w = .ok (.bool a.isNone) w := fun w a n c n' c' => Go.Lib.run_eql_slice_nil w _ _ a n c n' c' ds_under
  have u22 : ∀ w, Sem.run Tryd.prog (underlying 22) w = .ok (TypeDesc.slice 31) w := run_underlying ds_under
  have A := Lib.hid hc
  have HL := Lib.hid hl
  have HI : Hid (i0.size = 16) := hz1
  have HY : Hid (i0.bytes = 16) := hz2
  have HZ : Hid (i0.zero = some (.agg (zb 16).toArray)) := hz0
  have HII : Hid (Tryd.prog.info? 31 = some i0) := hi
  clear hc hl hz0 hz1 hz2 hi
  go_enter Tryd.func54, Tryd.ntmps54
  go_wp2_with (at_builtin; refine wpList_append_own _ rfl _ _ 22 rfl w.heap.size 31 i0 (.agg (zb 16).toArray) 16 16 ds_under HII.out HZ.out HI.out HY.out rfl (by decide) _ _ _ rfl (World.ownsRow_made w #[] 0 (Nat.le_refl _) (Nat.zero_le _) rfl) a l.length c (dl l) rfl ?qc1 ?qc2 ?qc3 ?qc4 ?qc5 ?qc6 ?_)
  case qc1 => rw [dl_len]
  case qc2 =>
    intro j u hj
    exact Go.Lib.cell?_alloc_some _ (A.out j u hj)
  case qc3 => exact dl_oneCell l
  case qc4 => have := HL.out; unfold maxLen; omega
  case qc5 => have := HL.out; omega
  case qc6 => simp
  intro v' w1 hown hgrow hnil
  have HO := Lib.hid hown
  have HG := Lib.hid hgrow
  clear hown hgrow hnil
  go_wp2
  go_ret
  refine ⟨v', rfl, HO.out, ?_⟩
  exact ((Below.refl _ w).alloc (Nat.le_refl _) _).grown HG.out (by simp) (by intro k hk; simp [Value.ownBlock] at hk; omega)

set_option maxHeartbeats 1000000 in
theorem clone_nil (n c : Nat) (w : World) :
    Calls Tryd.prog 54 #[.slice none n c] w fun e w' => e = .returned (.slice none 0 0) ∧ w' = w := by
  have q22 : ∀ (w : World) (a : Option Addr) (n c n' c' : Nat), (binOp .eql 22 (.slice a n c) (.slice none n' c')).run Tryd.prog w = .ok (.bool a.isNone) w := fun w a n c n' c' => Go.Lib.run_eql_slice_nil w _ _ a n c n' c' ds_under
  go_enter Tryd.func54, Tryd.ntmps54
  go_wp2
  go_ret
  exact ⟨rfl, rfl⟩
theorem clone_any (A : Option Addr) (c : Nat) (l : List Dg) (w : World) (hl : l.length ≤ 1000000) (hr : RdD w A l) :
    Calls Tryd.prog 54 #[.slice A l.length c] w fun e w' => ∃ v, e = .returned v ∧ w'.ownsRow w.heap.size 31 16 v l.length (dl l) ∧ Below w.heap.size w w' := by
  rcases A with _ | a
  · have h0 : l = [] := by
      rcases l with _ | ⟨d, r⟩
      · rfl
      · obtain ⟨b, off, h, _⟩ := hr.range (k := 0) (by simp)
        cases h
    subst h0
    refine (clone_nil _ c w).mono ?_
    rintro e w' ⟨rfl, rfl⟩
    exact ⟨_, rfl, World.ownsRow_nil _ _ _ _, Below.refl _ _⟩
  · refine clone_some a c l w hl ?_
    intro j u hu
    have hne : dl l ≠ [] := by intro e; rw [e] at hu; simp at hu
    obtain ⟨b, off, h, hc⟩ := hr hne
    cases h
    rw [Addr.add_mid]
    exact hc j u hu
end Go.Proofs.YtfbemmeonkceiaaDoor
