/- What came in: digests, slices of digests and of integers, peaks. -/
import Derived.Test.YtfbemmeonkceiaaDoorKGlob
import Derived.Deep.Slices
import Derived.Lib.SmallJoins
import Derived.WideKeyPair
namespace Go.Proofs.YtfbemmeonkceiaaDoor
open Go.ChangeShapes Go.Deep Go.RowKit Hm Wm

/-- The cells of a list of digests. -/
def dcs (ds : List (List UInt8)) : List Value := ds.flatMap bc
theorem dcs_len {ds : List (List UInt8)} (h : ∀ d ∈ ds, d.length = 16) : (dcs ds).length = ds.length * 16 := by
  induction ds with
  | nil => rfl
  | cons d r ih =>
    have h1 := ih fun x hx => h x (List.mem_cons_of_mem _ hx)
    have h2 := h d (List.mem_cons_self)
    show (bc d ++ dcs r).length = _
    rw [List.length_append, h1, bc_len, h2, List.length_cons, Nat.add_mul]; omega
theorem dcs_at {ds : List (List UInt8)} (h : ∀ d ∈ ds, d.length = 16) {k : Nat} (hk : k < ds.length) (j : Nat) (u : Value) (hj : (bc ds[k])[j]? = some u) : (dcs ds)[k * 16 + j]? = some u := by
  have e : dcs ds = dcs (ds.take k) ++ (bc ds[k] ++ dcs (ds.drop (k + 1))) := by
    conv => lhs; rw [← List.take_append_drop k ds, List.drop_eq_getElem_cons hk]
    unfold dcs
    rw [List.flatMap_append]; rfl
  have hl : (dcs (ds.take k)).length = k * 16 := by
    rw [dcs_len fun x hx => h x (List.mem_of_mem_take hx), List.length_take, Nat.min_eq_left (by omega)]
  rw [e, List.getElem?_append_right (by omega), hl, show k * 16 + j - k * 16 = j from by omega]
  have hjl : j < (bc ds[k]).length := by
    rcases Nat.lt_or_ge j (bc ds[k]).length with h1 | h1
    · exact h1
    · rw [List.getElem?_eq_none h1] at hj; cases hj
  rw [List.getElem?_append_left hjl]; exact hj
/-- A slice of integers that came in. -/
theorem ints_in {w : World} {a : Option Addr} {len cap : Nat} {zs : List Int}
    (h : (a = none ∧ len = 0 ∧ cap = 0 ∧ zs = []) ∨ ∃ x, a = some x ∧ len ≤ cap ∧ cap ≤ maxLen ∧ zs.length = cap ∧ (∀ i, i < zs.length → w.cell? (x.add i) = some (.int .i64 (zs.getD i 0))) ∧ ∀ n ∈ zs, (Lit.int .i64 n).wf = true) :
    ∃ l : List Int, l.length = len ∧ Rd w a (l.map (Value.int .i64)) ∧ len ≤ cap ∧ cap ≤ maxLen := by
  rcases h with ⟨rfl, rfl, rfl, rfl⟩ | ⟨x, rfl, h1, h2, h3, h4, h5⟩
  · exact ⟨[], rfl, Rd.nil _ _, Nat.le_refl _, Nat.zero_le _⟩
  · refine ⟨zs.take len, by simp; omega, ?_, h1, h2⟩
    intro hne
    have hlen : 0 < len := by
      rcases Nat.eq_zero_or_pos len with h0 | h0
      · subst h0; simp at hne
      · exact h0
    obtain ⟨b, off, rfl, hc⟩ := ints_at h4 (by omega)
    refine ⟨b, off, rfl, fun k u hu => ?_⟩
    have hk : k < len := by
      rcases Nat.lt_or_ge k len with h | h
      · exact h
      · rw [List.getElem?_eq_none (by simp; omega)] at hu; cases hu
    have hkz : k < zs.length := by omega
    rw [hc k hkz]
    simp only [List.getElem?_map, List.getElem?_take, if_pos hk, List.getElem?_eq_getElem hkz, Option.map_some] at hu
    rw [← hu]
    simp [List.getD, hkz]

section
variable {H : Type} {enc : TypeId × Value → H} {w : World} {a : Option Addr} {len cap : Nat} {d : DataW H} {p : List MemPlace}
set_option maxRecDepth 100000 in
theorem trod_dig {base : Nat} {sp : Nat → Bool} {held : Bool} {fuel : Nat} {cs : List Value} {x : DataW H × List MemPlace} (h : DataW.trod enc Tryd.prog w base sp held fuel 31 cs = some x) :
    ∃ l : List UInt8, l.length = 16 ∧ cs = bc l ∧ ∃ parts, x.1 = .agg parts ∧ parts.length = 16 := by
  obtain ⟨xs, m, rfl, hx, hcl, hxl, hall⟩ := DataW.trod_array dg_under h
  have hc1 : Tryd.prog.cellsOf 5 = 1 := by kernel_rfl
  have hc16 : Tryd.prog.cellsOf 31 = 16 := by kernel_rfl
  rw [hc16] at hcl
  have hint : ∀ i, i < 16 → ∃ n : Int, cs[i]? = some (.int .u8 n) ∧ 0 ≤ n ∧ n ≤ 255 := by
    intro i hi
    have h1 := hall i hi
    rw [hc1, Nat.mul_one] at h1
    have hix : i < xs.length := by omega
    rw [List.getElem?_eq_getElem hix] at h1
    obtain ⟨n, hcs, _, hwf⟩ := DataW.trod_int Tryd.underlying5 h1
    have hic : i < cs.length := by omega
    rw [List.drop_eq_getElem_cons hic, List.take_succ_cons, List.take_zero] at hcs
    injection hcs with hcs _
    exact ⟨n, by rw [List.getElem?_eq_getElem hic, hcs], bounds_u8 hwf⟩
  refine ⟨cs.map fun v => match v with | .int _ n => UInt8.ofNat n.toNat | _ => 0, by simp [hcl], ?_, xs.map (·.1), by rw [hx], by simp [hxl]⟩
  apply List.ext_getElem?
  intro i
  rcases Nat.lt_or_ge i 16 with hi | hi
  · obtain ⟨n, hn, h0, h1⟩ := hint i hi
    rw [hn]
    simp only [bc, List.map_map, List.getElem?_map, hn, Option.map_some]
    show some (Value.int .u8 n) = some (Value.int .u8 ((UInt8.ofNat n.toNat).toNat : Int))
    rw [ofNat_toNat (by omega)]
    congr 2; omega
  · rw [List.getElem?_eq_none (by omega), List.getElem?_eq_none (by simp [bc]; omega)]

theorem open_Ds (h : DataW.Trod enc Tryd.prog w 0 (fun _ => true) true 22 (.slice a len cap) d p) :
    ∃ l : List (List UInt8), l.length = len ∧ Rd w a (dcs l) ∧ (∀ x ∈ l, x.length = 16) ∧ len ≤ cap ∧ cap ≤ maxLen := by
  obtain ⟨fuel, hf⟩ := h
  rcases open_slice Tryd.underlying22 hf with ⟨hcs, hx⟩ | ⟨x, l, c, m, n, D, Pl, hcs, _, hl, hm, hz, hx, hcell⟩
  · simp [Value.cells] at hcs
    obtain ⟨rfl, rfl, rfl⟩ := hcs
    injection hx with hd _
    exact ⟨[], rfl, Rd.nil _ _, (by intro x hx; simp at hx), Nat.le_refl _, Nat.zero_le _⟩
  · simp [Value.cells] at hcs
    obtain ⟨rfl, rfl, rfl⟩ := hcs
    injection hx with hd _
    have hz' : m = cap := by simpa using hz
    have hc16 : Tryd.prog.cellsOf 31 = 16 := by kernel_rfl
    rw [hc16] at hcell
    have hone : ∀ i, i < len → ∃ l : List UInt8, l.length = 16 ∧ w.cells? 0 (x.add (i * 16)) 16 = some (bc l) := by
      intro i hi
      obtain ⟨cs, h1, h2⟩ := hcell i (by omega)
      obtain ⟨l, h3, rfl, _⟩ := trod_dig h2
      exact ⟨l, h3, h1⟩
    obtain ⟨L, hL⟩ : ∃ L : List (List UInt8), L.length = len ∧ ∀ i (hi : i < L.length), L[i].length = 16 ∧ w.cells? 0 (x.add (i * 16)) 16 = some (bc L[i]) := by
      clear hcell hd hf
      have key : ∀ k, k ≤ len → ∃ L : List (List UInt8), L.length = k ∧ ∀ i (hi : i < L.length), L[i].length = 16 ∧ w.cells? 0 (x.add (i * 16)) 16 = some (bc L[i]) := by
        intro k
        induction k with
        | zero => intro _; exact ⟨[], rfl, fun i hi => by simp at hi⟩
        | succ k ih =>
          intro hk
          obtain ⟨L, h1, h2⟩ := ih (by omega)
          obtain ⟨l, h3, h4⟩ := hone k (by omega)
          refine ⟨L ++ [l], by simp [h1], fun i hi => ?_⟩
          rcases Nat.lt_or_ge i L.length with h5 | h5
          · rw [List.getElem_append_left h5]; exact h2 i h5
          · have h6 : i = L.length := by simp at hi; omega
            subst h6
            rw [List.getElem_append_right (Nat.le_refl _)]
            simp only [Nat.sub_self, List.getElem_cons_zero]
            rw [h1]; exact ⟨h3, h4⟩
      exact key len (Nat.le_refl _)
    obtain ⟨hLl, hLe⟩ := hL
    refine ⟨L, hLl, ?_, fun y hy => ?_, hl, hm⟩
    · intro hne
      have hlen : 0 < len := by
        rcases Nat.eq_zero_or_pos len with h0 | h0
        · have : L = [] := List.eq_nil_of_length_eq_zero (by omega)
          rw [this] at hne; exact absurd rfl hne
        · exact h0
      have hcellAt : ∀ i, i < len → ∀ j u, (bc (L.getD i []))[j]? = some u → w.cell? ((x.add (i * 16)).add j) = some u := by
        intro i hi j u hu
        obtain ⟨h1, h2⟩ := hLe i (by omega)
        have h3 := World.cells?_some h2
        have hg : L.getD i [] = L[i] := by simp [List.getD, List.getElem?_eq_getElem (show i < L.length by omega)]
        rw [hg] at hu
        have hj : j < 16 := by
          rcases Nat.lt_or_ge j 16 with h | h
          · exact h
          · rw [List.getElem?_eq_none (by rw [bc_len, h1]; exact h)] at hu; cases hu
        rw [h3.2.2 j hj]
        exact hu
      have h0 := hcellAt 0 hlen 0 (.int .u8 ((L.getD 0 [])[0]?.getD 0).toNat) (by
        obtain ⟨h1, _⟩ := hLe 0 (by omega)
        have hg : L.getD 0 [] = L[0] := by simp [List.getD, List.getElem?_eq_getElem (show 0 < L.length by omega)]
        rw [hg, bc_at (by omega)]
        simp [List.getElem?_eq_getElem (show 0 < L[0].length by omega)])
      obtain ⟨b, off, spot⟩ := x
      have hspot : spot = none := by simpa [Addr.add] using World.cell?_spot h0
      subst hspot
      refine ⟨b, off, rfl, fun k u hu => ?_⟩
      have h16 : ∀ y ∈ L, y.length = 16 := fun y hy => by obtain ⟨i, hi, rfl⟩ := List.getElem_of_mem hy; exact (hLe i hi).1
      have hk : k < L.length * 16 := by
        rcases Nat.lt_or_ge k (L.length * 16) with h | h
        · exact h
        · rw [List.getElem?_eq_none (by rw [dcs_len h16]; exact h)] at hu; cases hu
      have hki : k / 16 < L.length := by omega
      have hd2 := Nat.div_add_mod k 16
      have hm2 := Nat.mod_lt k (show 0 < 16 by omega)
      have hlt : k % 16 < (bc L[k / 16]).length := by rw [bc_len, (hLe _ hki).1]; exact hm2
      have h7 := dcs_at h16 hki (k % 16) _ (List.getElem?_eq_getElem hlt)
      rw [show k / 16 * 16 + k % 16 = k from by omega] at h7
      rw [h7] at hu
      have hg : L.getD (k / 16) [] = L[k / 16] := by simp [List.getD, List.getElem?_eq_getElem hki]
      have h8 := hcellAt (k / 16) (by omega) (k % 16) _ (by rw [hg]; exact List.getElem?_eq_getElem hlt)
      rw [Addr.add_mid, Addr.add_mid, show off + k / 16 * 16 + k % 16 = off + k from by omega] at h8
      rw [h8]; exact hu
    · obtain ⟨i, hi, rfl⟩ := List.getElem_of_mem hy
      exact (hLe i hi).1

theorem ints_of (h : DataW.Trod enc Tryd.prog w 0 (fun _ => true) true 37 (.slice a len cap) d p) :
    ∃ l : List Int, l.length = len ∧ RdI w a l ∧ len ≤ cap ∧ cap ≤ maxLen := by
  obtain ⟨fuel, hf⟩ := h
  rcases open_ints Tryd.underlying37 Tryd.underlying3 (by kernel_rfl) hf with ⟨hcs, hx⟩ | ⟨x, l, c, zs, hcs, _, hl, hm, hz, hx, hcell, hwz⟩
  · simp [Value.cells] at hcs
    obtain ⟨rfl, rfl, rfl⟩ := hcs
    exact ⟨[], rfl, Rd.nil _ _, Nat.le_refl _, Nat.zero_le _⟩
  · simp [Value.cells] at hcs
    obtain ⟨rfl, rfl, rfl⟩ := hcs
    exact ints_in (.inr ⟨x, rfl, hl, hm, by simpa using hz, hcell, hwz⟩)
theorem digs_of (h : DataW.Trod enc Tryd.prog w 0 (fun _ => true) true 22 (.slice a len cap) d p) :
    ∃ l : List Dg, l.length = len ∧ RdD w a l ∧ len ≤ cap ∧ cap ≤ maxLen := by
  obtain ⟨l, hl, hr, h16, h1, h2⟩ := open_Ds h
  refine ⟨l.attach.map fun x => ⟨x.1, h16 x.1 x.2⟩, by simp [hl], ?_, h1, h2⟩
  have e : dl (l.attach.map fun x => (⟨x.1, h16 x.1 x.2⟩ : Dg)) = dcs l := by
    unfold dl dcs
    rw [List.flatMap_map]
    show l.attach.flatMap (fun x => bc x.1) = _
    conv => rhs; rw [← List.attach_map_subtype_val l]
    rw [List.flatMap_map]
  unfold RdD
  rw [e]; exact hr
set_option maxRecDepth 100000 in
theorem dig_of {r : Reach} {b0 : Nat} {v : Value} (hval : Value.okWide Tryd.prog w r b0 31 v) (h : DataW.Trod enc Tryd.prog w 0 (fun _ => true) true 31 v d p) : ∃ x : Dg, v = dv x := by
  obtain ⟨cs, rfl, hsz⟩ : ∃ cs, v = .agg cs ∧ cs.size = Tryd.prog.cellsOf 31 := by
    simp only [Value.okWide, dg_under] at hval
    obtain ⟨cs, h1, h2, _⟩ := hval
    exact ⟨cs, h1, h2⟩
  obtain ⟨fuel, hf⟩ := h
  obtain ⟨l, hl, hcs, _⟩ := trod_dig hf
  refine ⟨⟨l, hl⟩, ?_⟩
  have e : cs.toList = bc l := by simpa [Value.cells] using hcs
  show Value.agg cs = .agg (bc l).toArray
  rw [← e]
end
end Go.Proofs.YtfbemmeonkceiaaDoor
