/- Arguments of bounded bulk. -/
import Derived.Test.YtpobblcokkgijaaWOpenB
import Derived.Test.YtpobblcokkgijaaRows
namespace Go.Proofs.Ytpobblcokkgijaa
open Go.RowKit Go.ChangeShapes Wm

theorem bulk_one {H : Type} (d : DataW H) : 1 ≤ Rows.uptoBulk d := by
  cases d with
  | lit l => cases l <;> simp [Rows.uptoBulk]
  | nil => simp [Rows.uptoBulk]
  | ptr d => simp [Rows.uptoBulk]
  | slice elems spare => simp [Rows.uptoBulk]
  | agg parts => simp [Rows.uptoBulk]
  | iface t d => simp [Rows.uptoBulk]
  | map entries => simp [Rows.uptoBulk]
  | held h => simp [Rows.uptoBulk]
theorem bulk_len {H : Type} (l : List (DataW H)) : l.length ≤ Rows.uptoBulkAll l := by
  induction l with
  | nil => simp [Rows.uptoBulkAll]
  | cons x r ih => have := bulk_one x; simp only [Rows.uptoBulkAll, List.length_cons]; omega
theorem bulk_slice {H : Type} {d : DataW H} {n B : Nat} (h : Rows.uptoBulk d ≤ B) (hd : d = .nil ∧ n = 0 ∨ ∃ elems spare, d = .slice elems spare ∧ elems.length = n) : n ≤ B := by
  rcases hd with ⟨_, rfl⟩ | ⟨elems, spare, rfl, rfl⟩
  · omega
  · have := bulk_len elems
    simp only [Rows.uptoBulk] at h
    omega
theorem bulk_strs {H : Type} (l : List ByteArray) : Rows.uptoBulkAll (strs l : List (DataW H)) = l.length + tot l := by
  induction l with
  | nil => simp [strs, Rows.uptoBulkAll, tot]
  | cons s r ih =>
    have e : (strs (s :: r) : List (DataW H)) = .lit (.string s.data.toList) :: strs r := rfl
    have hsz : s.data.toList.length = s.size := Array.length_toList (xs := s.data)
    rw [e]
    simp only [Rows.uptoBulkAll, Rows.uptoBulk, ih, hsz, List.length_cons]
    simp [tot]
    omega
theorem bulk_S {H : Type} {d : DataW H} {l : List ByteArray} {B : Nat} (h : Rows.uptoBulk d ≤ B) (hd : d = .nil ∧ l = [] ∨ ∃ spare, d = .slice (strs l) spare) : l.length + tot l ≤ B := by
  rcases hd with ⟨_, rfl⟩ | ⟨spare, rfl⟩
  · simp [tot]
  · simp only [Rows.uptoBulk] at h
    rw [bulk_strs] at h
    omega
theorem bulk_str {H : Type} {s : ByteArray} {B : Nat} (h : Rows.uptoBulk (DataW.lit (.string s.data.toList) : DataW H) ≤ B) : s.size ≤ B := by
  have hsz : s.data.toList.length = s.size := Array.length_toList (xs := s.data)
  simp only [Rows.uptoBulk] at h
  omega

section
variable {H : Type} {enc : TypeId × Value → H} {w : World} {a : Option Addr} {len cap : Nat} {d : DataW H} {p : List MemPlace}
theorem open_I2 (h : DataW.Trod enc Try.prog w 0 (fun _ => true) true 22 (.slice a len cap) d p) :
    ∃ l : List Int, l.length = len ∧ Rd w a (l.map (Value.int .i64)) ∧ (∀ z ∈ l, -9223372036854775808 ≤ z ∧ z ≤ 9223372036854775807) ∧ (d = .nil ∧ len = 0 ∨ ∃ elems spare, d = .slice elems spare ∧ elems.length = len) := by
  obtain ⟨fuel, hf⟩ := h
  rcases open_ints Try.underlying22 Try.underlying3 (by kernel_rfl) hf with ⟨hcs, hx⟩ | ⟨x, l, c, zs, hcs, _, hl, hm, hz, hx, hcell, hwz⟩
  · simp [Value.cells] at hcs
    obtain ⟨rfl, rfl, rfl⟩ := hcs
    injection hx with hd _
    exact ⟨[], rfl, Rd.nil _ _, (by intro z hz; simp at hz), .inl ⟨hd, rfl⟩⟩
  · simp [Value.cells] at hcs
    obtain ⟨rfl, rfl, rfl⟩ := hcs
    obtain ⟨L, h1, h2, h3⟩ := ints_in (.inr ⟨x, rfl, hl, hm, by simpa using hz, hcell, hwz⟩)
    injection hx with hd _
    have hz' : zs.length = cap := by simpa using hz
    exact ⟨L, h1, h2, h3, .inr ⟨_, _, hd, by simp [lits]; omega⟩⟩
theorem open_Y2 (h : DataW.Trod enc Try.prog w 0 (fun _ => true) true 28 (.slice a len cap) d p) :
    ∃ l : List UInt8, l.length = len ∧ Rd w a (bc l) ∧ (d = .nil ∧ len = 0 ∨ ∃ elems spare, d = .slice elems spare ∧ elems.length = len) := by
  obtain ⟨fuel, hf⟩ := h
  rcases open_ints Try.underlying28 Try.underlying5 (by kernel_rfl) hf with ⟨hcs, hx⟩ | ⟨x, l, c, zs, hcs, _, hl, hm, hz, hx, hcell, hwz⟩
  · simp [Value.cells] at hcs
    obtain ⟨rfl, rfl, rfl⟩ := hcs
    injection hx with hd _
    exact ⟨[], rfl, Rd.nil _ _, .inl ⟨hd, rfl⟩⟩
  · simp [Value.cells] at hcs
    obtain ⟨rfl, rfl, rfl⟩ := hcs
    obtain ⟨L, h1, h2, _⟩ := bytes_in (.inr ⟨x, rfl, hl, hm, by simpa using hz, hcell, hwz⟩)
    injection hx with hd _
    have hz' : zs.length = cap := by simpa using hz
    exact ⟨L, h1, h2, .inr ⟨_, _, hd, by simp [lits]; omega⟩⟩
theorem form_D {l : List (List UInt8)} (hl : l.length = len) (h : d = .nil ∧ l = [] ∨ ∃ elems spare, d = .slice elems spare ∧ elems.length = len) : d = .nil ∧ len = 0 ∨ ∃ elems spare, d = .slice elems spare ∧ elems.length = len := by
  rcases h with ⟨a, rfl⟩ | h
  · exact .inl ⟨a, hl.symm⟩
  · exact .inr h
end
end Go.Proofs.Ytpobblcokkgijaa
