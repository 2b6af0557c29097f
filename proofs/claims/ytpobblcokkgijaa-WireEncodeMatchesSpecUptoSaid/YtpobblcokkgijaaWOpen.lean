/- Arguments that came in: slices of integers and of strings, with the form's own reach. -/
import Derived.Test.YtpobblcokkgijaaWWalkC
import Derived.SizedLaws
import Derived.SliceStrings
namespace Go.Proofs.Ytpobblcokkgijaa
open Go.RowKit Go.ChangeShapes Wm

section
variable {H : Type} {enc : TypeId × Value → H} {w : World} {a : Option Addr} {len cap : Nat} {d : DataW H} {p : List MemPlace}

theorem open_I (h : DataW.Trod enc Try.prog w 0 (fun _ => true) true 22 (.slice a len cap) d p) (hw : ∀ n ∈ d.weights Try.prog 22, n ≤ reachBytes) :
    ∃ l : List Int, l.length = len ∧ Rd w a (l.map (Value.int .i64)) ∧ (∀ z ∈ l, -9223372036854775808 ≤ z ∧ z ≤ 9223372036854775807) ∧ len ≤ 140737488351232 := by
  obtain ⟨fuel, hf⟩ := h
  rcases open_ints Try.underlying22 Try.underlying3 (by kernel_rfl) hf with ⟨hcs, _⟩ | ⟨x, l, c, zs, hcs, _, hl, hm, hz, hx, hcell, hwz⟩
  · simp [Value.cells] at hcs
    obtain ⟨rfl, rfl, rfl⟩ := hcs
    exact ⟨[], rfl, Rd.nil _ _, (by intro z hz; simp at hz), by omega⟩
  · simp [Value.cells] at hcs
    obtain ⟨rfl, rfl, rfl⟩ := hcs
    obtain ⟨L, h1, h2, h3⟩ := ints_in (.inr ⟨x, rfl, hl, hm, by simpa using hz, hcell, hwz⟩)
    refine ⟨L, h1, h2, h3, ?_⟩
    injection hx with hd _
    have hb : Try.prog.bytesOf 3 = 8 := by kernel_rfl
    have hs := hw ((lits .i64 (zs.take len)).length * 8 + (lits .i64 (zs.drop len)).length * 8) (by
      rw [hd]
      simp only [DataW.weights]
      rw [show Try.prog.underlying 22 = some (.slice 3) from Try.underlying22]
      simp only [hb, ← Nat.add_mul]
      exact List.mem_cons_self)
    simp [lits, reachBytes] at hs hz
    omega

theorem open_str (s : ByteArray) (hw : ∀ n ∈ (DataW.lit (.string s.data.toList) : DataW H).weights Try.prog 9, n ≤ reachBytes) : s.size ≤ 140737488351232 := by
  have h := hw s.data.toList.length (by simp [DataW.weights])
  have hsz : s.data.toList.length = s.size := Array.length_toList (xs := s.data)
  rw [hsz] at h
  exact h
end

theorem weights_of {H : Type} {ts : List TypeId} {ds : List (DataW H)} (h : (DataW.weightsEach Try.prog ts ds).all (· ≤ reachBytes) = true) {j : Nat} {t : TypeId} {d : DataW H} (ht : ts[j]? = some t) (hd : ds[j]? = some d) : ∀ n ∈ d.weights Try.prog t, n ≤ reachBytes := fun n hn => by
  have := List.all_eq_true.1 h n (DataW.weights_mem_each ht hd n hn)
  simpa using this
end Go.Proofs.Ytpobblcokkgijaa
