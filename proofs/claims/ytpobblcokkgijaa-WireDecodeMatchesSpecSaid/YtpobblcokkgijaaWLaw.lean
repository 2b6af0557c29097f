/- What the laws need besides: 'append(b[:n:n], tail...)', and a slice of bytes that came in. -/
import Derived.Test.YtpobblcokkgijaaWSan
import Derived.ProofKit
import Derived.OpenShut
import Derived.ChangeOld
namespace Go.Proofs.Ytpobblcokkgijaa
open Go.RowKit Wm

theorem run_append_none {w : World} (ty : TypeId) (a : Addr) (B : Option Addr) (n c : Nat) :
    (Builtin.append_ #[28, 28] ty #[.slice (some a) n n, .slice B 0 c]).run Try.prog w = .ok (.slice (some a) n n) w := by
  obtain ⟨i0, hi, hz0, hz1, hz2⟩ := info_parts u8_info
  have hu : Try.prog.underlying 28 = some (.slice 5) := Try.underlying28
  cases B with
  | none => simp [Builtin.append_, run_underlying hu, sizeOf, typeInfo, hi, Builtin.lenOf, Builtin.firstCells, storeCells]
  | some b => simp [Builtin.append_, run_underlying hu, sizeOf, typeInfo, hi, Builtin.lenOf, Builtin.firstCells, storeCells, loadCells, loadCellsFrom]

/-- 'append(b[:n:n], tail...)': whatever came of it reads as both, one behind the other; nothing that was there has turned. -/
theorem run_join {w : World} (ty : TypeId) (A B : Option Addr) (c : Nat) (l r : List UInt8) (hne : l ≠ []) (hl : Rd w A (bc l)) (hr : Rd w B (bc r)) (h1 : l.length ≤ 1099511627776) (h2 : r.length ≤ 1099511627776) :
    ∃ A' c' w', (Builtin.append_ #[28, 28] ty #[.slice A l.length l.length, .slice B r.length c]).run Try.prog w = .ok (.slice A' (l ++ r).length c') w' ∧ (l ++ r).length ≤ c' ∧ Rd w' A' (bc (l ++ r)) ∧ Below w.heap.size w w' := by
  have hbne : bc l ≠ [] := by intro e; apply hne; have := bc_len l; rw [e] at this; exact List.eq_nil_of_length_eq_zero this.symm
  obtain ⟨a, rfl, hc⟩ := hl.news hbne
  by_cases hrn : r = []
  · subst hrn
    refine ⟨some a, l.length, w, ?_, by simp, by simpa using hl, Below.refl _ _⟩
    rw [List.append_nil]
    exact run_append_none ty a B l.length c
  · have hrne : bc r ≠ [] := by intro e; apply hrn; have := bc_len r; rw [e] at this; exact List.eq_nil_of_length_eq_zero this.symm
    have hrp := List.length_pos_iff.2 hrn
    obtain ⟨b, rfl, hd⟩ := hr.news hrne
    obtain ⟨i0, hi, hz0, hz1, hz2⟩ := info_parts u8_info
    have hrun := run_append_grow (P := Try.prog) w 28 ty 5 i0 _ Try.underlying28 hi hz0 a l.length l.length (bc l) (by rw [bc_len, hz1, Nat.mul_one]) hc b r.length c (bc r) (by rw [bc_len, hz1, Nat.mul_one]) hd (by omega) (by omega)
      (growslice_fits (by omega) (by rw [hz2]; omega))
    have hge := grownCap_ge w (l.length + r.length) l.length 5
    refine ⟨_, _, _, by rw [List.length_append]; exact hrun, by rw [List.length_append]; exact hge, ?_, (below_drew w 1).trans (below_alloc (w.drew) _)⟩
    intro _
    refine ⟨w.heap.size, 0, rfl, fun k u hu => ?_⟩
    rw [cell_of_row _ w.heap.size (0 + k) _ 5 (0, 0) (heap_alloc_new w.drew _)]
    rw [Nat.zero_add, bc_app] at *
    have hk : k < (bc l ++ bc r).length := by
      rcases Nat.lt_or_ge k (bc l ++ bc r).length with h | h
      · exact h
      · rw [List.getElem?_eq_none h] at hu; cases hu
    rw [← Array.getElem?_toList]
    simp only [Array.toList_append]
    rw [List.getElem?_append_left (by simpa using hk)]
    exact hu

theorem wpList_join {w : World} {ops : Array Oper} {rest : List Oper} {o : Oper} {a : Act} {Q : Exit → Act → World → Prop} (hgd : o.guard = none) (s x : Operand)
    (ho : o.op = .call { callee := .builtin .append, args := #[s, x], argTypes := #[28, 28] })
    (A B : Option Addr) (c : Nat) (l r : List UInt8) (hs : a.eval s = .slice A l.length l.length) (hx : a.eval x = .slice B r.length c) (hne : l ≠ []) (hl : Rd w A (bc l)) (hr : Rd w B (bc r)) (h1 : l.length ≤ 1099511627776) (h2 : r.length ≤ 1099511627776)
    (h : ∀ A' c' w', (l ++ r).length ≤ c' → Rd w' A' (bc (l ++ r)) → Below w.heap.size w w' → wpList Try.prog ops Q rest (a.put o.dst (.slice A' (l ++ r).length c')) w') :
    wpList Try.prog ops Q (o :: rest) a w := by
  refine wpList_plain hgd fun K hK => ?_
  obtain ⟨A', c', w', hrun, e1, e2, e3⟩ := run_join (w := w) o.type A B c l r hne hl hr h1 h2
  unfold Oper.wp execOp
  simp only [ho, resolve, invoke, builtin, Sem.run_bind, Sem.run_pure, Result.andThen_ok, List.map_toArray, List.map_cons, List.map_nil, hs, hx, hrun]
  exact hK _ _ (h A' c' w' e1 e2 e3)

/-- A slice of bytes that came in: it reads as a list of bytes. -/
theorem bytes_in {w : World} {a : Option Addr} {len cap : Nat} {zs : List Int}
    (h : (a = none ∧ len = 0 ∧ cap = 0 ∧ zs = []) ∨ ∃ x, a = some x ∧ len ≤ cap ∧ cap ≤ maxLen ∧ zs.length = cap ∧ (∀ i, i < zs.length → w.cell? (x.add i) = some (.int .u8 (zs.getD i 0))) ∧ ∀ n ∈ zs, (Lit.int .u8 n).wf = true) :
    ∃ l : List UInt8, l.length = len ∧ Rd w a (bc l) ∧ len ≤ cap ∧ cap ≤ maxLen := by
  rcases h with ⟨rfl, rfl, rfl, rfl⟩ | ⟨x, rfl, h1, h2, h3, h4, h5⟩
  · exact ⟨[], rfl, Rd.nil _ _, Nat.le_refl _, Nat.zero_le _⟩
  · refine ⟨(zs.take len).map fun n => UInt8.ofNat n.toNat, by simp; omega, ?_, h1, h2⟩
    intro hne
    have hlen : 0 < len := by
      rcases Nat.eq_zero_or_pos len with h0 | h0
      · subst h0; simp [bc] at hne
      · exact h0
    obtain ⟨b, off, rfl, hc⟩ := ints_at h4 (by omega)
    refine ⟨b, off, rfl, fun k u hu => ?_⟩
    have hk : k < len := by
      rcases Nat.lt_or_ge k len with h | h
      · exact h
      · rw [List.getElem?_eq_none (by rw [bc_len]; simp; omega)] at hu; cases hu
    have hkz : k < zs.length := by omega
    rw [hc k hkz]
    have hb := bounds_u8 (h5 zs[k] (List.getElem_mem hkz))
    have key : ((UInt8.ofNat zs[k].toNat).toNat : Int) = zs[k] := by
      rw [ofNat_toNat (by omega)]
      omega
    have e : (bc ((zs.take len).map fun n => UInt8.ofNat n.toNat))[k]? = some (.int .u8 zs[k]) := by
      simp only [bc, List.map_map, List.getElem?_map, List.getElem?_take, if_pos hk, List.getElem?_eq_getElem hkz, Option.map_some]
      show some (Value.int .u8 ((UInt8.ofNat zs[k].toNat).toNat : Int)) = _
      rw [key]
    rw [e] at hu
    injection hu with hu
    rw [← hu]
    simp [List.getD, hkz]
end Go.Proofs.Ytpobblcokkgijaa
