/- Contracts of merkle's Leaf and Node; words for digests in memory. -/
import Derived.Test.YtfbemmeonkceiaaDoorKMath
namespace Go.Proofs.YtfbemmeonkceiaaDoor
open Go.RowKit Hm Wm

/-- A digest as a value. -/
def dv (d : Dg) : Value := .agg (dc d).toArray
theorem dv_eq (d : Dg) : dv d = .agg (bc d.1).toArray := rfl
/-- The cells of a list of digests. -/
def dl (l : List Dg) : List Value := l.flatMap dc
theorem dl_nil : dl [] = [] := rfl
theorem dl_one (d : Dg) : dl [d] = dc d := by simp [dl]
theorem dl_app (a b : List Dg) : dl (a ++ b) = dl a ++ dl b := by simp [dl]
theorem dl_len (l : List Dg) : (dl l).length = l.length * 16 := by
  induction l with
  | nil => rfl
  | cons d r ih => show (dc d ++ dl r).length = _; rw [List.length_append, ih, dc_len, List.length_cons]; omega
theorem dl_oneCell (l : List Dg) : ∀ v ∈ dl l, v.oneCell' = true := by
  intro v hv
  obtain ⟨d, _, h⟩ := List.mem_flatMap.1 hv
  exact dc_one d v h
theorem dl_take (l : List Dg) (k : Nat) : dl (l.take k) = (dl l).take (k * 16) := by
  rcases Nat.le_total k l.length with h | h
  · have e : dl l = dl (l.take k) ++ dl (l.drop k) := by rw [← dl_app, List.take_append_drop]
    have h2 : (dl (l.take k)).length = k * 16 := by rw [dl_len, List.length_take]; omega
    rw [e, List.take_append_of_le_length (by omega), List.take_of_length_le (l := dl (l.take k)) (by omega)]
  · rw [List.take_of_length_le h, List.take_of_length_le (by rw [dl_len]; omega)]
theorem dl_drop (l : List Dg) (k : Nat) : dl (l.drop k) = (dl l).drop (k * 16) := by
  rcases Nat.le_total k l.length with h | h
  · have e : dl l = dl (l.take k) ++ dl (l.drop k) := by rw [← dl_app, List.take_append_drop]
    have h2 : (dl (l.take k)).length = k * 16 := by rw [dl_len, List.length_take]; omega
    rw [e, List.drop_append_of_le_length (by omega), List.drop_of_length_le (l := dl (l.take k)) (by omega), List.nil_append]
  · rw [List.drop_of_length_le h, List.drop_of_length_le (l := dl l) (by rw [dl_len]; omega)]; rfl
theorem dl_at (l : List Dg) {k : Nat} (hk : k < l.length) (j : Nat) (u : Value) (hj : (dc l[k])[j]? = some u) : (dl l)[k * 16 + j]? = some u := by
  have hjl : j < (dc l[k]).length := by
    rcases Nat.lt_or_ge j (dc l[k]).length with h1 | h1
    · exact h1
    · rw [List.getElem?_eq_none h1] at hj; cases hj
  have e : l = l.take k ++ (l[k] :: l.drop (k + 1)) := by rw [← List.drop_eq_getElem_cons hk, List.take_append_drop]
  have e2 : dl l = dl (l.take k) ++ (dc l[k] ++ dl (l.drop (k + 1))) := by
    conv => lhs; rw [e, dl_app]
    rfl
  have hl : (dl (l.take k)).length = k * 16 := by rw [dl_len, List.length_take]; omega
  rw [e2, List.getElem?_append_right (by omega), hl, show k * 16 + j - k * 16 = j from by omega, List.getElem?_append_left hjl]; exact hj
/-- A slice of digests reads as a list. -/
def RdD (w : World) (A : Option Addr) (l : List Dg) : Prop := Rd w A (dl l)
theorem RdD.nil (w : World) (A : Option Addr) : RdD w A [] := Rd.nil w A
theorem RdD.below {w w' : World} {A : Option Addr} {l : List Dg} (h : RdD w A l) (hb : Below w.heap.size w w') : RdD w' A l := Rd.below h hb
theorem RdD.take {w : World} {A : Option Addr} {l : List Dg} (h : RdD w A l) (k : Nat) : RdD w A (l.take k) := by
  unfold RdD; rw [dl_take]; exact Rd.take h _
/-- Where the part from k on begins. -/
def dA (A : Option Addr) (n k : Nat) : Option Addr := if n = k then A else A.map (·.add (k * 16))
theorem RdD.drop {w : World} {A : Option Addr} {l : List Dg} (h : RdD w A l) (k : Nat) : RdD w (dA A l.length k) (l.drop k) := by
  unfold RdD dA
  rw [dl_drop]
  rcases Nat.lt_trichotomy l.length k with hk | hk | hk
  · rw [List.drop_of_length_le (by rw [dl_len]; omega)]; exact Rd.nil _ _
  · rw [List.drop_of_length_le (by rw [dl_len]; omega)]; exact Rd.nil _ _
  · have := Rd.cut (k := k * 16) (cap := l.length * 16) h (by rw [dl_len]; exact Nat.le_refl _)
    rw [if_neg (by omega)] at this ⊢
    exact this
theorem RdD.range {w : World} {A : Option Addr} {l : List Dg} (h : RdD w A l) {k : Nat} (hk : k < l.length) : ∃ b off, A = some ⟨b, off, none⟩ ∧ w.rangeAt b (off + k * 16) (dc l[k]) := by
  have hne : dl l ≠ [] := by intro e; have := dl_len l; rw [e] at this; simp at this; omega
  obtain ⟨b, off, hA, hc⟩ := h hne
  refine ⟨b, off, hA, fun j u hu => ?_⟩
  have := hc (k * 16 + j) u (dl_at l hk j u hu)
  rw [← Nat.add_assoc] at this; exact this

theorem dd_zero : (Tryd.prog.info? 31).map (·.zero) = some (some (.agg (zb 16).toArray)) := dg_zero
theorem dd_size (d : Dg) : (Tryd.prog.info? 31).map (·.size) = some (dc d).length := by rw [dc_len]; exact dg_size
theorem dd_len (d : Dg) : (dc d).length = (zb 16).length := by rw [dc_len]; rfl

theorem encP_short {ss : List ByteArray} {n : Nat} (hn : n ≤ 1000000000) (h : ∀ s ∈ ss, s.size ≤ n) : (encP ss).length ≤ ss.length * (n + 10) := by
  unfold encP
  induction ss with
  | nil => simp
  | cons s r ih =>
    have h1 := ih fun x hx => h x (List.mem_cons_of_mem _ hx)
    have h2 := h s List.mem_cons_self
    have h3 := encB_len s.data.toList
    have h4 : s.data.toList.length = s.size := Array.length_toList
    have h5 := enc_le (n := (s.data.toList.length : Int)) (by omega) (by omega)
    rw [List.flatMap_cons, List.length_append, List.length_cons, Nat.add_mul]
    omega

/-- Of, of digests. -/
theorem ofD_any (tag : Int) (A : Option Addr) (c : Nat) (ss : List ByteArray) (w : World) (hg : Glob w) (hr : Rd w A (ss.map Value.string)) (hz : ∀ s ∈ ss, s.size ≤ 1000000) (hl : ss.length ≤ 2) :
    Calls Tryd.prog 37 #[.int .i64 tag, .slice A ss.length c] w fun e w' => e = .returned (dv (hashD tag ss)) ∧ Below w.heap.size w w' :=
  of_any tag A c ss w hg hr hz (by omega) (by have := encP_short (n := 1000000) (by omega) hz; have h2 : ss.length * (1000000 + 10) ≤ 2 * (1000000 + 10) := Nat.mul_le_mul_right _ hl; omega)

set_option maxRecDepth 100000 in
set_option maxHeartbeats 400000 in
theorem leaf_any (s : ByteArray) (w : World) (hg : Glob w) (hs : s.size ≤ 1000000) :
    Calls Tryd.prog 14 #[.string s] w fun e w' => e = .returned (dv (leafD s)) ∧ Below w.heap.size w w' := by
  have hb := (Below.refl w.heap.size w).alloc (Nat.le_refl _) (.cells (zb 16).toArray 31)
  have HB := Lib.hid (Blk.new w 31 (zb 16))
  have HG := Lib.hid (hg.next hb)
  have HBW := Lib.hid hb
  clear hb hg
  go_enter Tryd.func14, Tryd.ntmps14
  go_wp2_with (first | (refine wpList_alloc_zero rfl 31 rfl (zb 16) dg_zero ?_))
  have hb1 := (Below.refl _ _).alloc (w := w.alloc (.cells (zb 16).toArray 31)) (Nat.le_refl _) (.cells #[.string s] 9)
  have hr1 := rd_fr (w.alloc (.cells (zb 16).toArray 31)) #[.string s] [.string s] 9 (0, 0) rfl
  rw [size_alloc] at hr1
  refine (ofD_any 30 _ 1 [s] _ (HG.out.next hb1) hr1 (by intro x hx; rw [List.mem_singleton.1 hx]; exact hs) (by simp)).mono ?_
  rintro e w2 ⟨rfl, hb2⟩
  have hb3 := hb1.trans (hb2.mono hb1.size)
  have K2 := Lib.hid (HB.out.next hb3)
  have B2 := Lib.hid (HBW.out.trans (hb3.mono HBW.out.size))
  clear hb1 hb2 hb3
  rw [← leafD_eq]
  go_wp2_with (refine wpList_store_all rfl _ (.tmp 2) (.tmp 5) rfl w.heap.size _ (zb 16) (dc (leafD s)) rfl rfl K2.out (dd_len _) (dd_size _) (dc_one _) ?_; intro w7 HB7 ho7)
  exact bodyPost_ret (results_blk rfl _ _ w.heap.size _ (dc (leafD s)) _ rfl HB7.out dg_under rfl (dd_size _)) rfl ⟨rfl, B2.out.trans (ho7.below (Nat.le_refl _))⟩
end Go.Proofs.YtfbemmeonkceiaaDoor
