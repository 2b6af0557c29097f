/- strings.Builder's WriteString, at a builder that the call made itself. -/
import Derived.Test.YtkjnfobaoaaopaaGreatDoorN31
import Derived.Lib.Builder
import Derived.Laws.Externs
namespace Go.Proofs.YtkjnfobaoaaopaaGreatDoor
open Go.RowKit Hm Wm Wn

theorem row_form {w : World} {base : Nat} {e : TypeId} {size n : Nat} {v : Value} {xs : List Value} (h : w.ownsRow base e size v n xs) : ∃ A c, v = .slice A n c := by
  rcases h.2 with ⟨rfl, rfl⟩ | ⟨g, cap, cur, rfl, _⟩
  · exact ⟨none, 0, rfl⟩
  · exact ⟨_, cap, rfl⟩
theorem bd_size : (Tryz.prog.info? 78).map (·.size) = some 2 := by kernel_rfl

set_option maxRecDepth 100000 in
set_option maxHeartbeats 1000000 in
theorem copyCheck_used (b : Nat) (w : World) (h0 : w.cell? ⟨b, 0, none⟩ = some (.pointer (some ⟨b, 0, none⟩))) :
    Calls Tryz.prog 71 #[.pointer (some ⟨b, 0, none⟩)] w fun e w' => e = .returned (.tuple #[]) ∧ w' = w := by
  obtain ⟨j, hj, _⟩ := Option.map_eq_some_iff.1 bd_size
  go_enter Tryz.func71, Tryz.ntmps71
  go_wp2
  rw [Lib.run_neq_ptr_same w _ Tryz.underlying76 hj]
  go_wp2
  go_end0
  exact ⟨rfl, rfl⟩

set_option maxRecDepth 100000 in
set_option maxHeartbeats 1000000 in
theorem copyCheck_fresh (b : Nat) (w : World) (h0 : w.cell? ⟨b, 0, none⟩ = some (.pointer none)) (hsh : w.shape? b = some (78, 2)) (hfz : w.frozen? ⟨b, 0, none⟩ = false) :
    Calls Tryz.prog 71 #[.pointer (some ⟨b, 0, none⟩)] w fun e w' => e = .returned (.tuple #[]) ∧ w' = w.setCell ⟨b, 0, none⟩ (.pointer (some ⟨b, 0, none⟩)) := by
  obtain ⟨j, hj, hjs⟩ := Option.map_eq_some_iff.1 bd_size
  go_enter Tryz.func71, Tryz.ntmps71
  go_wp2
  rw [Lib.run_to_unsafe w ⟨b, 0, none⟩ Tryz.underlying76 Tryz.underlying118 hj (by rw [hjs]; decide) hsh (Nat.zero_lt_succ 1)]
  simp only [Result.andThen]
  rw [Oper.upon_value]
  go_wp2
  rw [run_callFunc_extern Tryz.func89 (by kernel_rfl) (by kernel_rfl) (by kernel_rfl) (e := Extern.AbiNoEscape.same) (by kernel_rfl)]
  rw [Lib.run_noEscape]
  simp only [Result.andThen]
  rw [Oper.upon_value]
  go_wp2
  rw [Lib.run_from_unsafe w ⟨b, 0, none⟩ Tryz.underlying118 Tryz.underlying76 hj hsh (by kernel_rfl)]
  simp only [Result.andThen]
  rw [Oper.upon_value]
  go_wp2
  go_end0
  exact ⟨rfl, rfl⟩

theorem copyCheck_any (B b : Nat) (bs : List Value) (w : World) (h : Lib.IsBuilder 78 5 B b bs w) :
    Calls Tryz.prog 71 #[.pointer (some ⟨b, 0, none⟩)] w fun e w' => e = .returned (.tuple #[]) ∧ (Lib.BuilderAt 78 5 B b (.pointer (some ⟨b, 0, none⟩)) bs w' ∧ Only b w w') := by
  rcases h with h | h
  · refine (copyCheck_fresh b w h.cell0 h.shape h.frozen0).mono ?_
    rintro e w' ⟨rfl, rfl⟩
    exact ⟨rfl, h.used _, ⟨rfl, rfl, rfl, by simp, fun k hk => Below.heap_setCell _ _ _ _ hk⟩⟩
  · refine (copyCheck_used b w h.cell0).mono ?_
    rintro e w' ⟨rfl, rfl⟩
    exact ⟨rfl, h, ⟨rfl, rfl, rfl, rfl, fun _ _ => rfl⟩⟩

set_option maxRecDepth 100000 in
set_option maxHeartbeats 1000000 in
theorem write_any (B b : Nat) (bs : List Value) (s : ByteArray) (w : World) (h : Lib.IsBuilder 78 5 B b bs w) (hB : B ≤ w.heap.size) (hl : bs.length + s.size ≤ 1099511627776) :
    Calls Tryz.prog 51 #[.pointer (some ⟨b, 0, none⟩), .string s] w fun e w' => e = .returned (.tuple #[.int .i64 s.size, .nilIface]) ∧ Lib.IsBuilder 78 5 B b (bs ++ Lib.strCells s) w' ∧ Below B w w' := by
  have HC := Lib.hid (copyCheck_any B b bs w h)
  have hbB : B ≤ b := by rcases h with h | h <;> exact h.1
  have HL := Lib.hid hl
  clear h hl
  go_enter Tryz.func51, Tryz.ntmps51
  go_wp2_with fail
  refine HC.out.mono ?_
  rintro e w2 ⟨rfl, hbu, ho2⟩
  obtain ⟨_, v, hb, hown, hne⟩ := hbu
  have hc1 : w2.cell? ⟨b, 1, none⟩ = some v := Lib.cell_of_heap hb 1
  have hf1 : w2.frozen? ⟨b, 1, none⟩ = false := Lib.frozen_of_heap hb 1
  have hs2 : b < w2.heap.size := (Array.getElem?_eq_some_iff.1 hb).1
  have hsz : w2.heap.size = w.heap.size := ho2.size
  have HOWN := Lib.hid hown
  have HB2 := Lib.hid hb
  have HNE := Lib.hid hne
  have HO := Lib.hid ho2
  obtain ⟨i0, hi, hz0, hz1, hz2⟩ := info_parts u8_info
  have HI := Lib.hid hi
  clear hown hb hne ho2 hi
  go_wp2_with (at_builtin; refine Lib.wpList_append_own_string _ rfl (.tmp 12) (.tmp 13) 60 9 rfl B 5 i0 Tryz.underlying60 Tryz.underlying9 HI.out hz0 hz1 hz2 v bs.length bs rfl HOWN.out s rfl (by have := HL.out; unfold maxLen; omega) (by have := HL.out; omega) (by omega) ?_; intro v3 w3 ho3 hg3 hn3; obtain ⟨A3, c3, rfl⟩ := row_form ho3; have hb3 : w3.heap[b]? = some (.cells #[.pointer (some ⟨b, 0, none⟩), v] 78 (0, 0)) := (hg3.block b hs2 (fun e => HNE.out e.symm)).trans HB2.out; have hc3 : w3.cell? ⟨b, 1, none⟩ = some v := Lib.cell_of_heap hb3 1; have hf3 : w3.frozen? ⟨b, 1, none⟩ = false := Lib.frozen_of_heap hb3 1; have hs3 : b < w3.heap.size := (Array.getElem?_eq_some_iff.1 hb3).1; have HB3 := Lib.hid hb3; have HO3 := Lib.hid ho3; have HG3 := Lib.hid hg3; clear hb3 ho3 hg3 hn3)
  go_ret2
  refine ⟨rfl, .inr ?_, ?_⟩
  · have h3 := HO3.out
    refine Lib.BuilderAt.put hbB HB3.out ?_ (by decide)
    rw [List.length_append, Lib.strCells_length]
    exact h3
  · exact (((HO.out.below hbB).grown HG3.out (by omega) (fun k hk => (World.ownsRow.lt HOWN.out k hk).1))).setCell (p := ⟨b, 1, none⟩) hbB _
end Go.Proofs.YtkjnfobaoaaopaaGreatDoor
