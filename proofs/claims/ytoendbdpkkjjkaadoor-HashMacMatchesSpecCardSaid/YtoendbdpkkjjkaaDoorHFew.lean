/- Contracts of the reference's Few, Joined, Same; of the law's clash. -/
import Derived.Test.YtoendbdpkkjjkaaDoorHRegG
namespace Go.Proofs.YtoendbdpkkjjkaaDoor
open Go.RowKit Hm Wm

def fewB (ss : List ByteArray) : Bool := decide (ss.length ≤ 12 ∧ ∀ s ∈ ss, s.size ≤ 400)
theorem fewB_yes {ss : List ByteArray} (h : fewB ss = true) : ss.length ≤ 12 ∧ ∀ s ∈ ss, s.size ≤ 400 := by unfold fewB at h; simpa using h
theorem fewB_mk {ss : List ByteArray} (h1 : ss.length ≤ 12) (h2 : ∀ s ∈ ss, s.size ≤ 400) : fewB ss = true := by unfold fewB; exact decide_eq_true ⟨h1, h2⟩
theorem fewB_long {ss : List ByteArray} (h : 12 < ss.length) : fewB ss = false := by unfold fewB; exact decide_eq_false (by omega)
theorem fewB_big {ss : List ByteArray} {z : ByteArray} (h : z ∈ ss) (hz : 400 < z.size) : fewB ss = false := by
  unfold fewB
  refine decide_eq_false ?_
  rintro ⟨_, h2⟩
  have := h2 z h
  omega
theorem take_all {ss : List ByteArray} {k : Nat} {z : ByteArray} (h : ss[k]? = some z) (ha : ∀ s ∈ ss.take k, s.size ≤ 400) (hz : z.size ≤ 400) : ∀ s ∈ ss.take (k + 1), s.size ≤ 400 := by
  obtain ⟨h1, h2⟩ := List.getElem?_eq_some_iff.1 h
  intro s hs
  rw [List.take_succ_eq_append_getElem h1, List.mem_append] at hs
  rcases hs with hs | hs
  · exact ha s hs
  · simp at hs; rw [hs, h2]; exact hz

set_option maxRecDepth 100000 in
set_option maxHeartbeats 400000 in
theorem few_any (A : Option Addr) (c : Nat) (ss : List ByteArray) (w : World) (hr : Rd w A (ss.map Value.string)) (hl : ss.length ≤ maxLen) :
    Calls Tryd.prog 15 #[.slice A ss.length c] w fun e w' => e = .returned (.bool (fewB ss)) ∧ w = w' := by
  unfold maxLen at hl
  have HR := Lib.hid hr
  by_cases h12 : 12 < ss.length
  · have d1 : decide ((12 : Int) < (ss.length : Int)) = true := by simp; omega
    have HF := Lib.hid (fewB_long h12)
    clear hr h12
    go_enter Tryd.func15, Tryd.ntmps15
    go_wp2
    go_ret
    exact ⟨(show _ = _ by rw [HF.out]; rfl), rfl⟩
  · have d1 : decide ((12 : Int) < (ss.length : Int)) = false := by simp; omega
    have H12 := Lib.hid h12
    clear hr h12
    go_enter Tryd.func15, Tryd.ntmps15
    go_wp2_with fail
    go_loop [3] (fun i => ∃ k : Nat, i = .int .i64 k ∧ k ≤ ss.length ∧ Hid (∀ s ∈ ss.take k, s.size ≤ 400)) (fun i => ss.length - (intOf i).toNat)
    case atStart => exact ⟨0, rfl, Nat.zero_le _, (fun s hs => by simp at hs : ∀ s ∈ ss.take 0, s.size ≤ 400)⟩
    case round =>
      obtain ⟨k, rfl, hk, HA⟩ := hrel
      by_cases hlt : k < ss.length
      · obtain ⟨z, hz⟩ : ∃ z, ss[k]? = some z := ⟨ss[k], List.getElem?_eq_getElem hlt⟩
        obtain ⟨bb, off, hA, hcell⟩ := HR.out.at_ (k := k) (u := .string z) (by simp [hz])
        subst hA
        have HZ := Lib.hid hz
        have bk : (k : Int) < (ss.length : Int) := by omega
        clear hz
        by_cases hb : 400 < z.size
        · have d2 : decide ((400 : Int) < (z.size : Int)) = true := by simp; omega
          have HF := Lib.hid (fewB_big (List.mem_of_getElem? HZ.out) hb)
          clear hb
          go_wp2
          go_ret
          exact ⟨(show _ = _ by rw [HF.out]; rfl), rfl⟩
        · have d2 : decide ((400 : Int) < (z.size : Int)) = false := by simp; omega
          have HN := Lib.hid (take_all HZ.out HA.out (by omega))
          clear hb
          go_wp2
          go_round
          case rel => exact ⟨k + 1, by go_num, by omega, HN.out⟩
          case measure => simp [intOf]; omega
      · obtain rfl : k = ss.length := by omega
        have HF := Lib.hid (fewB_mk (ss := ss) (by have := H12.out; omega) (by have := HA.out; rwa [List.take_length] at this))
        go_wp2
        go_ret
        exact ⟨(show _ = _ by rw [HF.out]; rfl), rfl⟩

/-- Strings, one after the other. -/
def joinB (ss : List ByteArray) : List UInt8 := ss.flatMap fun s => s.data.toList
theorem joinB_take (ss : List ByteArray) (k : Nat) (z : ByteArray) (h : ss[k]? = some z) : joinB (ss.take k) ++ z.data.toList = joinB (ss.take (k + 1)) := by
  obtain ⟨h1, h2⟩ := List.getElem?_eq_some_iff.1 h
  unfold joinB
  rw [List.take_succ_eq_append_getElem h1, List.flatMap_append, h2]; simp
theorem joinB_len (ss : List ByteArray) (h : ∀ s ∈ ss, s.size ≤ 400) : (joinB ss).length ≤ 400 * ss.length := by
  unfold joinB
  induction ss with
  | nil => simp
  | cons a r ih =>
    have h1 := h a List.mem_cons_self
    have h2 := ih fun s hs => h s (List.mem_cons_of_mem _ hs)
    have h3 : a.data.toList.length = a.size := Array.length_toList
    rw [List.flatMap_cons, List.length_append, List.length_cons]; omega
theorem joinB_le (ss : List ByteArray) (h1 : ss.length ≤ 12) (h : ∀ s ∈ ss, s.size ≤ 400) (k : Nat) : (joinB (ss.take k)).length ≤ 4800 := by
  have := joinB_len (ss.take k) fun s hs => h s (List.mem_of_mem_take hs)
  rw [List.length_take] at this
  omega

set_option maxRecDepth 100000 in
set_option maxHeartbeats 400000 in
theorem joined_any (A : Option Addr) (c : Nat) (ss : List ByteArray) (w : World) (hr : Rd w A (ss.map Value.string)) (h12 : ss.length ≤ 12) (hs : ∀ s ∈ ss, s.size ≤ 400) :
    Calls Tryd.prog 18 #[.slice A ss.length c] w fun e w' => e = .returned (.string (sb (joinB ss))) ∧ w = w' := by
  have HR := Lib.hid hr
  have HS := Lib.hid hs
  have H12 := Lib.hid h12
  clear hr hs
  go_enter Tryd.func18, Tryd.ntmps18
  go_wp2_with fail
  go_loop [3, 4] (fun s i => ∃ (k : Nat) (L : List UInt8), i = .int .i64 k ∧ k ≤ ss.length ∧ s = .string (sb L) ∧ Hid (joinB (ss.take k) = L)) (fun _ i => ss.length - (intOf i).toNat)
  case atStart => exact ⟨0, [], rfl, Nat.zero_le _, rfl, rfl⟩
  case round =>
    obtain ⟨k, L, rfl, hk, rfl, HL⟩ := hrel
    by_cases hlt : k < ss.length
    · obtain ⟨z, hz⟩ : ∃ z, ss[k]? = some z := ⟨ss[k], List.getElem?_eq_getElem hlt⟩
      obtain ⟨bb, off, hA, hcell⟩ := HR.out.at_ (k := k) (u := .string z) (by simp [hz])
      subst hA
      have HZ := Lib.hid hz
      have bk : (k : Int) < (ss.length : Int) := by omega
      have hcat := fun W : World => run_concat W (sb L) z (by
        rw [sb_size, ← HL.out]
        have h1 := joinB_le ss H12.out HS.out k
        have h2 := HS.out z (List.mem_of_getElem? HZ.out)
        omega)
      simp only [binOp_string_add, sb_list] at hcat
      have HJ := Lib.hid (joinB_take ss k z hz)
      rw [HL.out] at HJ
      clear hz
      go_wp2
      go_round
      case rel => exact ⟨k + 1, _, by go_num, by omega, rfl, HJ.out.symm⟩
      case measure => simp [intOf]; omega
    · obtain rfl : k = ss.length := by omega
      have hL := HL.out
      rw [List.take_length] at hL
      have HL2 := Lib.hid hL
      clear hL
      go_wp2
      go_ret
      exact ⟨(show _ = _ by rw [HL2.out]; rfl), rfl⟩
end Go.Proofs.YtoendbdpkkjjkaaDoor
