/- Contracts of merkle's ascending, before and cut at integers; sorted lists. -/
import Derived.Test.YtfbemmeonkceiaaDoorK8
namespace Go.Proofs.YtfbemmeonkceiaaDoor
open Go.RowKit Hm Wm

/-- Strictly ascending from 'last' on, less than n. -/
def ascF (n : Int) : Int → List Int → Bool
  | _, [] => true
  | last, p :: r => if p ≤ last ∨ n ≤ p then false else ascF n p r
theorem ascF_cons (n last p : Int) (r : List Int) : ascF n last (p :: r) = if p ≤ last ∨ n ≤ p then false else ascF n p r := rfl
theorem ascF_sorted (n : Int) : ∀ (ps : List Int) (last : Int), ascF n last ps = true → (∀ p ∈ ps, last < p ∧ p < n) ∧ ps.Pairwise (· < ·)
  | [], _, _ => ⟨by simp, .nil⟩
  | p :: r, last, h => by
    unfold ascF at h
    by_cases hc : p ≤ last ∨ n ≤ p
    · rw [if_pos hc] at h; cases h
    · rw [if_neg hc] at h
      obtain ⟨h1, h2⟩ := ascF_sorted n r p h
      refine ⟨fun x hx => ?_, .cons (fun x hx => (h1 x hx).1) h2⟩
      rcases List.mem_cons.1 hx with rfl | hx
      · omega
      · have := h1 x hx; omega
theorem sorted_cut (x : Int) : ∀ (ps : List Int), ps.Pairwise (· < ·) → ps.take (ps.countP (· < x)) = ps.filter (· < x) ∧ ps.drop (ps.countP (· < x)) = ps.filter (fun p => ¬ p < x)
  | [], _ => by simp
  | p :: r, h => by
    obtain ⟨h1, h2⟩ := List.pairwise_cons.1 h
    obtain ⟨i1, i2⟩ := sorted_cut x r h2
    by_cases hp : p < x
    · rw [List.countP_cons_of_pos (by simpa using hp), List.take_succ_cons, List.drop_succ_cons, i1, i2, List.filter_cons_of_pos (by simpa using hp), List.filter_cons_of_neg (by simpa using hp)]
      exact ⟨rfl, rfl⟩
    · have h0 : ∀ y ∈ p :: r, ¬ y < x := by
        intro y hy
        rcases List.mem_cons.1 hy with rfl | hy
        · exact hp
        · have := h1 y hy; omega
      have c0 : (p :: r).countP (· < x) = 0 := by rw [List.countP_eq_zero]; intro y hy; simpa using h0 y hy
      rw [c0, List.take_zero, List.drop_zero, eq_comm, List.filter_eq_nil_iff, eq_comm, List.filter_eq_self]
      exact ⟨fun y hy => by simpa using h0 y hy, fun y hy => by simpa using h0 y hy⟩
/-- A slice of integers reads as a list. -/
def RdI (w : World) (A : Option Addr) (ps : List Int) : Prop := Rd w A (ps.map (Value.int .i64))
theorem RdI.below {w w' : World} {A : Option Addr} {ps : List Int} (h : RdI w A ps) (hb : Below w.heap.size w w') : RdI w' A ps := Rd.below h hb
theorem RdI.take {w : World} {A : Option Addr} {ps : List Int} (h : RdI w A ps) (k : Nat) : RdI w A (ps.take k) := by unfold RdI; rw [List.map_take]; exact Rd.take h k
def iA (A : Option Addr) (n k : Nat) : Option Addr := if n = k then A else A.map (·.add k)
theorem RdI.drop {w : World} {A : Option Addr} {ps : List Int} (h : RdI w A ps) (k : Nat) : RdI w (iA A ps.length k) (ps.drop k) := by
  unfold RdI iA; rw [List.map_drop]; exact Rd.cut h (by simp)

theorem run_cutI_first (A : Option Addr) (n c k : Nat) (hk : k ≤ n) (hn : n ≤ c) (W : World) :
    (Instr.sliceAt 37 (.slice A n c) none (some (.int .i64 k)) (some (.int .i64 k))).run Tryd.prog W = .ok (.slice A k k) W := by
  have hu : Tryd.prog.underlying 37 = some (.slice 3) := Tryd.underlying37
  simp [Instr.sliceAt, Instr.slice, run_underlying hu, Instr.sliceBounds, run_sliceBound, (by omega : (k : Int) ≤ c)]
  intro _
  rcases A with _ | ⟨b, o, i⟩
  · rfl
  · cases i <;> simp [Addr.add]
theorem run_cutI_others (A : Option Addr) (n c k : Nat) (hk : k ≤ n) (hn : n ≤ c) (W : World) :
    (Instr.sliceAt 37 (.slice A n c) (some (.int .i64 k)) (some (.int .i64 n)) (some (.int .i64 n))).run Tryd.prog W = .ok (.slice (iA A n k) (n - k) (n - k)) W := by
  have hu : Tryd.prog.underlying 37 = some (.slice 3) := Tryd.underlying37
  simp [Instr.sliceAt, Instr.slice, run_underlying hu, Instr.sliceBounds, run_sliceBound, (by omega : (n : Int) ≤ c), (by omega : (k : Int) ≤ n)]
  rfl
set_option maxHeartbeats 400000 in
theorem cutI_any (A : Option Addr) (n c k : Nat) (w : World) (hk : k ≤ n) (hn : n ≤ c) :
    Calls Tryd.prog 43 #[.slice A n c, .int .i64 k] w fun e w' => e = .returned (.tuple #[.slice A k k, .slice (iA A n k) (n - k : Nat) (n - k : Nat)]) ∧ ∃ q, w' = w.drewN q := by
  have h1 := run_cutI_first A n c k hk hn
  have h2 := run_cutI_others A n c k hk hn
  go_enter Tryd.func43, Tryd.ntmps43
  go_wp2
  go_quiet (fail)
  go_wp2
  go_ret2
  exact ⟨rfl, _, rfl⟩

set_option maxHeartbeats 400000 in
theorem before_any (A : Option Addr) (c : Nat) (ps : List Int) (x : Int) (w : World) (hr : RdI w A ps) (hne : ps ≠ []) (hn : ps.length ≤ 2 ^ 41) (hs : ps.Pairwise (· < ·)) :
    Calls Tryd.prog 44 #[.slice A ps.length c, .int .i64 x] w fun e w' => e = .returned (.int .i64 (ps.countP (· < x) : Nat)) ∧ ∃ q, w' = w.drewN q := by
  obtain ⟨b, off, rfl, hc⟩ := hr (by simpa using hne)
  have hcall := Tryd.slices_BinarySearch_int b off ps.length c ps x w (Nat.le_refl _) (by omega) (fun j hj => hc j _ (by simp [List.getD, hj])) (by rw [List.take_length]; exact hs.imp (by omega))
  rw [List.take_length] at hcall
  have HC := Lib.hid hcall
  clear hcall hr hc hs
  go_enter Tryd.func44, Tryd.ntmps44
  go_wp2_with fail
  refine HC.out.mono ?_
  rintro e w' ⟨rfl, q, rfl⟩
  go_wp2
  go_ret
  exact ⟨rfl, q, rfl⟩

set_option maxRecDepth 100000 in
set_option maxHeartbeats 400000 in
theorem asc_any (A : Option Addr) (c : Nat) (ps : List Int) (n : Int) (w : World) (hr : RdI w A ps) (hn : ps.length ≤ 2 ^ 41) :
    Calls Tryd.prog 41 #[.slice A ps.length c, .int .i64 n] w fun e w' => e = .returned (.bool (ascF n (-1) ps)) ∧ w = w' := by
  have HR := Lib.hid hr
  clear hr
  go_enter Tryd.func41, Tryd.ntmps41
  go_wp2
  go_loop [5, 10] (fun la i => ∃ (k : Nat) (z : Int), i = .int .i64 k ∧ k ≤ ps.length ∧ la = .int .i64 z ∧ Hid (ascF n (-1) ps = ascF n z (ps.drop k))) (fun _ i => ps.length - (intOf i).toNat)
  case atStart => exact ⟨0, -1, rfl, Nat.zero_le _, rfl, rfl⟩
  case round =>
    obtain ⟨k, z, rfl, hk, rfl, HA⟩ := hrel
    by_cases hlt : k < ps.length
    · obtain ⟨b, off, hA, hcell⟩ := HR.out.at_ (k := k) (u := .int .i64 ps[k]) (by simp [hlt])
      subst hA
      have hd : ps.drop k = ps[k] :: ps.drop (k + 1) := List.drop_eq_getElem_cons hlt
      obtain ⟨p, hp⟩ : ∃ p, ps[k] = p := ⟨_, rfl⟩
      rw [hp] at hcell hd
      have hz := HA.out
      rw [hd, ascF_cons] at hz
      by_cases h1 : p ≤ z
      · have hf : ascF n (-1) ps = false := by rw [hz, if_pos (.inl h1)]
        have HF := Lib.hid hf
        have d1 : decide (p ≤ z) = true := decide_eq_true h1
        clear hz hf hd
        go_wp2
        go_ret
        exact ⟨by rw [HF.out]; rfl, rfl⟩
      · have d1 : decide (p ≤ z) = false := decide_eq_false h1
        by_cases h2 : n ≤ p
        · have hf : ascF n (-1) ps = false := by rw [hz, if_pos (.inr h2)]
          have HF := Lib.hid hf
          have d2 : decide (n ≤ p) = true := decide_eq_true h2
          clear hz hf hd
          go_wp2
          go_ret
          exact ⟨by rw [HF.out]; rfl, rfl⟩
        · have d2 : decide (n ≤ p) = false := decide_eq_false h2
          rw [if_neg (by omega)] at hz
          have HF := Lib.hid hz
          clear hz hd
          go_wp2
          go_round
          case rel => exact ⟨k + 1, p, by go_num, by omega, rfl, HF.out⟩
          case measure => simp [intOf]; omega
    · obtain rfl : k = ps.length := by omega
      have hf := HA.out
      rw [List.drop_length] at hf
      have HF : Hid (ascF n (-1) ps = true) := hf
      clear hf
      go_wp2
      go_ret
      exact ⟨by rw [HF.out]; rfl, rfl⟩
end Go.Proofs.YtfbemmeonkceiaaDoor
