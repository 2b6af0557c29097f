/- Arguments that came in: slices of strings and of digests; how long they are by the form's reach or by the bulk; few. -/
import Derived.Test.YtpobblcokkgijaaWOpen
import Derived.Deep.Slices
namespace Go.Proofs.Ytpobblcokkgijaa
open Go.RowKit Go.ChangeShapes Go.Deep Wm

def tot (ss : List ByteArray) : Nat := (ss.map fun s => s.size).sum

set_option maxRecDepth 100000 in
set_option maxHeartbeats 400000 in
theorem few_any (A : Option Addr) (c : Nat) (ss : List ByteArray) (w : World) (hr : Rd w A (ss.map Value.string)) (ht : ss.length + tot ss ≤ 4611686018427387904) :
    Calls Try.prog 11 #[.slice A ss.length c] w fun e w' => e = .returned (.bool (decide (ss.length + tot ss ≤ 2000))) ∧ w = w' := by
  have HR := Lib.hid hr
  have HT := Lib.hid ht
  have hl : ss.length ≤ 4611686018427387904 := by omega
  clear hr ht
  go_enter Try.func11, Try.ntmps11
  go_wp2
  go_loop [3, 10] (fun n i => ∃ k t : Nat, i = .int .i64 k ∧ k ≤ ss.length ∧ n = .int .i64 (t : Int) ∧ Hid (t = ss.length + tot (ss.take k)) ∧ t ≤ 4611686018427387904) (fun _ i => ss.length - (intOf i).toNat)
  case atStart => exact ⟨0, ss.length, rfl, by omega, rfl, by show _ = _; simp [tot], by omega⟩
  case round =>
    obtain ⟨k, t, rfl, hk, rfl, HK, ht⟩ := hrel
    by_cases hlt : k < ss.length
    · obtain ⟨b, o, hA, hc⟩ := HR.out.at_ (k := k) (u := .string ss[k]) (by simp [hlt])
      subst hA
      have hs : tot (ss.take (k + 1)) = tot (ss.take k) + ss[k].size := by
        unfold tot
        rw [List.take_succ_eq_append_getElem hlt, List.map_append, List.sum_append]; simp
      have hle : tot (ss.take (k + 1)) ≤ tot ss := by
        have : tot ss = tot (ss.take (k + 1)) + tot (ss.drop (k + 1)) := by
          unfold tot
          rw [← List.sum_append, ← List.map_append, List.take_append_drop]
        omega
      obtain ⟨z, hz⟩ : ∃ z, ss[k] = z := ⟨_, rfl⟩
      rw [hz] at hc hs
      have hb : t + z.size ≤ 4611686018427387904 := by have h1 := HK.out; have h2 := HT.out; omega
      have HS := Lib.hid hs
      clear hs hz hle
      go_wp2
      go_round
      case rel => exact ⟨k + 1, t + z.size, by go_num, by omega, by go_num, by have h1 := HK.out; have h2 := HS.out; show _ = _; omega, hb⟩
      case measure => simp [intOf]; omega
    · have hkl : k = ss.length := by omega
      have hv : t = ss.length + tot ss := by rw [HK.out, List.take_of_length_le (by omega)]
      have HV := Lib.hid hv
      clear hkl hv
      go_wp2
      go_ret
      refine ⟨?_, rfl⟩
      have h1 := HV.out
      subst h1
      show Ending.returned (.bool (decide (((ss.length + tot ss : Nat) : Int) ≤ 2000))) = _
      congr 3
      rw [eq_iff_iff]; omega

section
variable {H : Type} {enc : TypeId × Value → H} {w : World} {a : Option Addr} {len cap : Nat} {d : DataW H} {p : List MemPlace}

theorem open_S (h : DataW.Trod enc Try.prog w 0 (fun _ => true) true 23 (.slice a len cap) d p) :
    ∃ l : List ByteArray, l.length = len ∧ Rd w a (l.map Value.string) ∧ (d = .nil ∧ l = [] ∨ ∃ spare, d = .slice (strs l) spare) := by
  obtain ⟨fuel, hf⟩ := h
  rcases open_strings Try.underlying23 Try.underlying9 (by kernel_rfl) hf with ⟨hcs, hx⟩ | ⟨x, l, c, ss, hcs, _, hl, hm, hz, hx, hcell, hws⟩
  · simp [Value.cells] at hcs
    obtain ⟨rfl, rfl, rfl⟩ := hcs
    injection hx with hd _
    exact ⟨[], rfl, Rd.nil _ _, .inl ⟨hd, rfl⟩⟩
  · simp [Value.cells] at hcs
    obtain ⟨rfl, rfl, rfl⟩ := hcs
    injection hx with hd _
    have hz' : ss.length = cap := by simpa using hz
    refine ⟨ss.take len, by simp; omega, ?_, .inr ⟨_, hd⟩⟩
    intro hne
    have hlen : 0 < len := by
      rcases Nat.eq_zero_or_pos len with h0 | h0
      · subst h0; simp at hne
      · exact h0
    have h0 := hcell 0 (by omega)
    obtain ⟨b, off, spot⟩ := x
    have hspot : spot = none := by simpa [Addr.add] using World.cell?_spot h0
    subst hspot
    refine ⟨b, off, rfl, fun k u hu => ?_⟩
    have hk : k < len := by
      rcases Nat.lt_or_ge k len with h | h
      · exact h
      · rw [List.getElem?_eq_none (by simp; omega)] at hu; cases hu
    have hc := hcell k (by omega)
    rw [Addr.add_mid] at hc
    rw [hc]
    have hkz : k < ss.length := by omega
    simp only [List.getElem?_map, List.getElem?_take, if_pos hk, List.getElem?_eq_getElem hkz, Option.map_some] at hu
    rw [← hu]
    simp [List.getD, hkz]

theorem trod_dig {base : Nat} {sp : Nat → Bool} {held : Bool} {fuel : Nat} {cs : List Value} {x : DataW H × List MemPlace} (h : DataW.trod enc Try.prog w base sp held fuel 57 cs = some x) :
    ∃ l : List UInt8, l.length = 16 ∧ cs = bc l ∧ ∃ parts, x.1 = .agg parts ∧ parts.length = 16 := by
  obtain ⟨xs, m, rfl, hx, hcl, hxl, hall⟩ := DataW.trod_array dig_under h
  have hc1 : Try.prog.cellsOf 5 = 1 := by kernel_rfl
  have hc16 : Try.prog.cellsOf 57 = 16 := by kernel_rfl
  rw [hc16] at hcl
  have hint : ∀ i, i < 16 → ∃ n : Int, cs[i]? = some (.int .u8 n) ∧ 0 ≤ n ∧ n ≤ 255 := by
    intro i hi
    have h1 := hall i hi
    rw [hc1, Nat.mul_one] at h1
    have hix : i < xs.length := by omega
    rw [List.getElem?_eq_getElem hix] at h1
    obtain ⟨n, hcs, _, hwf⟩ := DataW.trod_int Try.underlying5 h1
    have hic : i < cs.length := by omega
    rw [List.drop_eq_getElem_cons hic, List.take_succ_cons, List.take_zero] at hcs
    injection hcs with hcs _
    exact ⟨n, by rw [List.getElem?_eq_getElem hic, hcs], bounds_u8 hwf⟩
  refine ⟨cs.map fun v => match v with | .int _ n => UInt8.ofNat n.toNat | _ => 0, by simp [hcl], ?_, xs.map (·.1), by rw [hx], by simp [hxl]⟩
  apply List.ext_getElem?
  intro i
  rcases Nat.lt_or_ge i 16 with hi | hi
  · obtain ⟨n, hn, h0, h1⟩ := hint i hi
    rw [hn]
    simp only [bc, List.map_map, List.getElem?_map, hn, Option.map_some]
    show some (Value.int .u8 n) = some (Value.int .u8 ((UInt8.ofNat n.toNat).toNat : Int))
    rw [ofNat_toNat (by omega)]
    congr 2; omega
  · rw [List.getElem?_eq_none (by omega), List.getElem?_eq_none (by simp [bc]; omega)]

theorem open_D (h : DataW.Trod enc Try.prog w 0 (fun _ => true) true 24 (.slice a len cap) d p) :
    ∃ l : List (List UInt8), l.length = len ∧ Rd w a (dcs l) ∧ (∀ x ∈ l, x.length = 16) ∧ (d = .nil ∧ l = [] ∨ ∃ elems spare, d = .slice elems spare ∧ elems.length = len) := by
  obtain ⟨fuel, hf⟩ := h
  rcases open_slice Try.underlying24 hf with ⟨hcs, hx⟩ | ⟨x, l, c, m, n, D, Pl, hcs, _, hl, hm, hz, hx, hcell⟩
  · simp [Value.cells] at hcs
    obtain ⟨rfl, rfl, rfl⟩ := hcs
    injection hx with hd _
    exact ⟨[], rfl, Rd.nil _ _, (by intro x hx; simp at hx), .inl ⟨hd, rfl⟩⟩
  · simp [Value.cells] at hcs
    obtain ⟨rfl, rfl, rfl⟩ := hcs
    injection hx with hd _
    have hz' : m = cap := by simpa using hz
    have hc16 : Try.prog.cellsOf 57 = 16 := by kernel_rfl
    rw [hc16] at hcell
    have hone : ∀ i, i < len → ∃ l : List UInt8, l.length = 16 ∧ w.cells? 0 (x.add (i * 16)) 16 = some (bc l) := by
      intro i hi
      obtain ⟨cs, h1, h2⟩ := hcell i (by omega)
      obtain ⟨l, h3, rfl, _⟩ := trod_dig h2
      exact ⟨l, h3, h1⟩
    obtain ⟨L, hL⟩ : ∃ L : List (List UInt8), L.length = len ∧ ∀ i (hi : i < L.length), L[i].length = 16 ∧ w.cells? 0 (x.add (i * 16)) 16 = some (bc L[i]) := by
      clear hcell hd hf
      have key : ∀ k, k ≤ len → ∃ L : List (List UInt8), L.length = k ∧ ∀ i (hi : i < L.length), L[i].length = 16 ∧ w.cells? 0 (x.add (i * 16)) 16 = some (bc L[i]) := by
        intro k
        induction k with
        | zero => intro _; exact ⟨[], rfl, fun i hi => by simp at hi⟩
        | succ k ih =>
          intro hk
          obtain ⟨L, h1, h2⟩ := ih (by omega)
          obtain ⟨l, h3, h4⟩ := hone k (by omega)
          refine ⟨L ++ [l], by simp [h1], fun i hi => ?_⟩
          rcases Nat.lt_or_ge i L.length with h5 | h5
          · rw [List.getElem_append_left h5]; exact h2 i h5
          · have h6 : i = L.length := by simp at hi; omega
            subst h6
            rw [List.getElem_append_right (Nat.le_refl _)]
            simp only [Nat.sub_self, List.getElem_cons_zero]
            rw [h1]; exact ⟨h3, h4⟩
      exact key len (Nat.le_refl _)
    obtain ⟨hLl, hLe⟩ := hL
    refine ⟨L, hLl, ?_, fun y hy => ?_, .inr ⟨_, _, hd, by simp⟩⟩
    · intro hne
      have hlen : 0 < len := by
        rcases Nat.eq_zero_or_pos len with h0 | h0
        · have : L = [] := List.eq_nil_of_length_eq_zero (by omega)
          rw [this] at hne; exact absurd rfl hne
        · exact h0
      have hcellAt : ∀ i, i < len → ∀ j u, (bc (L.getD i []))[j]? = some u → w.cell? ((x.add (i * 16)).add j) = some u := by
        intro i hi j u hu
        obtain ⟨h1, h2⟩ := hLe i (by omega)
        have h3 := World.cells?_some h2
        have hg : L.getD i [] = L[i] := by simp [List.getD, List.getElem?_eq_getElem (show i < L.length by omega)]
        rw [hg] at hu
        have hj : j < 16 := by
          rcases Nat.lt_or_ge j 16 with h | h
          · exact h
          · rw [List.getElem?_eq_none (by rw [bc_len, h1]; exact h)] at hu; cases hu
        rw [h3.2.2 j hj]
        exact hu
      have h0 := hcellAt 0 hlen 0 (.int .u8 ((L.getD 0 [])[0]?.getD 0).toNat) (by
        obtain ⟨h1, _⟩ := hLe 0 (by omega)
        have hg : L.getD 0 [] = L[0] := by simp [List.getD, List.getElem?_eq_getElem (show 0 < L.length by omega)]
        rw [hg, bc_at (by omega)]
        simp [List.getElem?_eq_getElem (show 0 < L[0].length by omega)])
      obtain ⟨b, off, spot⟩ := x
      have hspot : spot = none := by simpa [Addr.add] using World.cell?_spot h0
      subst hspot
      refine ⟨b, off, rfl, fun k u hu => ?_⟩
      have h16 : ∀ y ∈ L, y.length = 16 := fun y hy => by obtain ⟨i, hi, rfl⟩ := List.getElem_of_mem hy; exact (hLe i hi).1
      have hk : k < L.length * 16 := by
        rcases Nat.lt_or_ge k (L.length * 16) with h | h
        · exact h
        · rw [List.getElem?_eq_none (by rw [dcs_len h16]; exact h)] at hu; cases hu
      have hki : k / 16 < L.length := by omega
      have hd2 := Nat.div_add_mod k 16
      have hm2 := Nat.mod_lt k (show 0 < 16 by omega)
      have hlt : k % 16 < (bc L[k / 16]).length := by rw [bc_len, (hLe _ hki).1]; exact hm2
      have h7 := dcs_at h16 hki (k % 16) _ (List.getElem?_eq_getElem hlt)
      rw [show k / 16 * 16 + k % 16 = k from by omega] at h7
      rw [h7] at hu
      have hg : L.getD (k / 16) [] = L[k / 16] := by simp [List.getD, List.getElem?_eq_getElem hki]
      have h8 := hcellAt (k / 16) (by omega) (k % 16) _ (by rw [hg]; exact List.getElem?_eq_getElem hlt)
      rw [Addr.add_mid, Addr.add_mid, show off + k / 16 * 16 + k % 16 = off + k from by omega] at h8
      rw [h8]; exact hu
    · obtain ⟨i, hi, rfl⟩ := List.getElem_of_mem hy
      exact (hLe i hi).1
end
end Go.Proofs.Ytpobblcokkgijaa
