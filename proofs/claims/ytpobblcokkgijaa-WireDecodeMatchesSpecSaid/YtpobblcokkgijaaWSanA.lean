/- What each call of the laws' examples comes to. -/
import Derived.Test.YtpobblcokkgijaaWSame
namespace Go.Proofs.Ytpobblcokkgijaa
open Go.RowKit Wm

theorem Below.next {a b c : World} (h : Below a.heap.size a b) (k : Below b.heap.size b c) : Below a.heap.size a c := h.trans (k.mono h.size)
theorem below_alloc (w : World) (o : Obj) : Below w.heap.size w (w.alloc o) := (Below.refl _ _).alloc (Nat.le_refl _) o
theorem rd_of (w : World) (cs : Array Value) (t : TypeId) (xs : List Value) (h : cs = xs.toArray) : Rd (w.alloc (.cells cs t)) (some ⟨w.heap.size, 0, none⟩) xs := by
  subst h; exact Rd.of_new w xs t
theorem range_below {w w' : World} {b o : Nat} {xs : List Value} (h : w.rangeAt b o xs) (hb : Below w.heap.size w w') : w'.rangeAt b o xs := fun j v hv => by
  have h1 := h j v hv
  rw [hb.cell (p := ⟨b, o + j, none⟩) (World.block_lt_of_cell? w _ h1)]; exact h1

/-- Of an own row of bytes: its form, and that it reads. -/
theorem OwnB.out {w : World} {base : Nat} {v : Value} {l : List UInt8} (h : OwnB w base v l) : ∃ A c, v = .slice A l.length c ∧ Rd w A (bc l) ∧ l.length ≤ c := by
  obtain ⟨A, c, rfl, _, hc⟩ := h.form
  exact ⟨A, c, rfl, h.rd, hc⟩
theorem row_out {w : World} {base : Nat} {e : TypeId} {size n : Nat} {v : Value} {xs : List Value} (h : w.ownsRow base e size v n xs) : ∃ A c, v = .slice A n c ∧ Rd w A xs ∧ n ≤ c := by
  rcases h.2 with ⟨rfl, rfl⟩ | ⟨g, cap, cur, rfl, _, _, hle, _⟩
  · exact ⟨none, 0, rfl, Rd.of_row h, by omega⟩
  · exact ⟨_, cap, rfl, Rd.of_row h, hle⟩

theorem s_int1 (w : World) : Calls Try.prog 24 #[.slice (some ⟨w.heap.size, 0, none⟩) 3 3] (w.alloc (.cells #[.int .u8 128, .int .u8 1, .int .u8 9] 5)) fun e w' => e = .returned (.tuple #[.int .i64 64, .int .i64 2, .int .i64 0]) ∧ Below w.heap.size w w' :=
  (getInt_at (l := [128, 1, 9]) (n := 64) (u := 2) (e := 0) (by decide +kernel) _ 3 _ (by decide) (rd_of w _ _ _ rfl)).mono fun _ _ ⟨he, hw⟩ => ⟨he, hw ▸ below_alloc _ _⟩
theorem s_int2 (w : World) : Calls Try.prog 24 #[.slice (some ⟨w.heap.size, 0, none⟩) 1 1] (w.alloc (.cells #[.int .u8 128] 5)) fun e w' => e = .returned (.tuple #[.int .i64 0, .int .i64 0, .int .i64 10]) ∧ Below w.heap.size w w' :=
  (getInt_at (l := [128]) (n := 0) (u := 0) (e := 10) (by decide +kernel) _ 1 _ (by decide) (rd_of w _ _ _ rfl)).mono fun _ _ ⟨he, hw⟩ => ⟨he, hw ▸ below_alloc _ _⟩
theorem s_int3 (w : World) : Calls Try.prog 24 #[.slice (some ⟨w.heap.size, 0, none⟩) 2 2] (w.alloc (.cells #[.int .u8 128, .int .u8 0] 5)) fun e w' => e = .returned (.tuple #[.int .i64 0, .int .i64 0, .int .i64 11]) ∧ Below w.heap.size w w' :=
  (getInt_at (l := [128, 0]) (n := 0) (u := 0) (e := 11) (by decide +kernel) _ 2 _ (by decide) (rd_of w _ _ _ rfl)).mono fun _ _ ⟨he, hw⟩ => ⟨he, hw ▸ below_alloc _ _⟩
theorem s_bytes (w : World) : Calls Try.prog 26 #[.slice (some ⟨w.heap.size, 0, none⟩) 4 4] (w.alloc (.cells #[.int .u8 4, .int .u8 97, .int .u8 98, .int .u8 7] 5)) fun e w' => e = .returned (.tuple #[.string { data := #[97, 98] }, .int .i64 3, .int .i64 0]) ∧ Below w.heap.size w w' :=
  (getBytes_at (l := [4, 97, 98, 7]) (x := [97, 98]) (u := 3) (e := 0) (by decide +kernel) _ 4 _ (by decide) (by decide) (rd_of w _ _ _ rfl)).mono fun _ _ ⟨he, hw⟩ => ⟨he, hw ▸ below_alloc _ _⟩
theorem s_ints (w : World) : Calls Try.prog 28 #[.slice (some ⟨w.heap.size, 0, none⟩) 3 3] (w.alloc (.cells #[.int .u8 4, .int .u8 2, .int .u8 1] 5)) fun e w' => ∃ A c, e = .returned (.tuple #[.slice A 2 c, .int .i64 3, .int .i64 0]) ∧ Rd w' A ([1, -1].map (Value.int .i64)) ∧ Below w.heap.size w w' := by
  refine (getInts_any _ 3 [4, 2, 1] _ (by decide) (by decide) (rd_of w _ _ _ rfl)).mono ?_
  rintro e w' ⟨v, rfl, ho, hb⟩
  rw [show getL 1 gi [4, 2, 1] = ([1, -1], 3, 0) from by decide +kernel] at ho ⊢
  obtain ⟨A, c, rfl, hr, _⟩ := row_out ho
  exact ⟨A, c, rfl, hr, Below.next (below_alloc _ _) hb⟩
theorem s_strs (w : World) : Calls Try.prog 31 #[.slice (some ⟨w.heap.size, 0, none⟩) 5 5] (w.alloc (.cells #[.int .u8 4, .int .u8 0, .int .u8 2, .int .u8 97, .int .u8 5] 5)) fun e w' => ∃ A c, e = .returned (.tuple #[.slice A 2 c, .int .i64 4, .int .i64 0]) ∧ Rd w' A ([⟨#[]⟩, ⟨#[97]⟩].map Value.string) ∧ Below w.heap.size w w' := by
  refine (getStrings_any _ 5 [4, 0, 2, 97, 5] _ (by decide) (by decide) (rd_of w _ _ _ rfl)).mono ?_
  rintro e w' ⟨v, rfl, ho, hb⟩
  rw [show getL 1 gb [4, 0, 2, 97, 5] = ([[], [97]], 4, 0) from by decide +kernel] at ho ⊢
  obtain ⟨A, c, rfl, hr, _⟩ := row_out ho
  exact ⟨A, c, rfl, hr, Below.next (below_alloc _ _) hb⟩

def dd : List UInt8 := [1, 2, 0, 0, 0, 0, 0, 0, 0, 0, 0, 0, 0, 0, 0, 0]
theorem s_digs (w : World) : Calls Try.prog 22 #[.slice (some ⟨w.heap.size + 1, 0, none⟩) 1 1] ((w.alloc (.cells (bc dd).toArray 57)).alloc (.cells (bc dd).toArray 57)) fun e w' => ∃ A c, e = .returned (.slice A 17 c) ∧ Rd w' A (bc (2 :: dd)) ∧ 17 ≤ c ∧ w'.rangeAt w.heap.size 0 (bc dd) ∧ Below w.heap.size w w' := by
  have hr : Rd ((w.alloc (.cells (bc dd).toArray 57)).alloc (.cells (bc dd).toArray 57)) (some ⟨w.heap.size + 1, 0, none⟩) (dcs [dd]) := by
    have h := Rd.of_new (w.alloc (.cells (bc dd).toArray 57)) (bc dd) 57
    rw [show (w.alloc (.cells (bc dd).toArray 57)).heap.size = w.heap.size + 1 from by simp] at h
    rw [show dcs [dd] = bc dd from by simp [dcs]]
    exact h
  have h0 := range_below (rangeAt_new w (bc dd) 57) (below_alloc _ (.cells (bc dd).toArray 57))
  refine (digs_any _ 1 [dd] _ hr (by intro d hd; simp at hd; subst hd; rfl) (by decide) (by decide +kernel)).mono ?_
  rintro e w' ⟨v, rfl, ho, hb⟩
  rw [show encD [dd] = 2 :: dd from by decide +kernel] at ho
  obtain ⟨A, c, rfl, hra, hc⟩ := ho.out
  exact ⟨A, c, rfl, hra, hc, range_below h0 hb, Below.next (Below.next (below_alloc _ _) (below_alloc _ _)) hb⟩
theorem s_getDigs (A : Option Addr) (c : Nat) (w : World) (hr : Rd w A (bc (2 :: dd))) (hc : 17 ≤ c) : Calls Try.prog 34 #[.slice A 17 c] w fun e w' => ∃ A c, e = .returned (.tuple #[.slice A 1 c, .int .i64 17, .int .i64 0]) ∧ Rd w' A (dcs [dd]) ∧ Below w.heap.size w w' := by
  refine (getDigs_any A c (2 :: dd) w hc (by decide) hr).mono ?_
  rintro e w' ⟨v, rfl, ho, _, hb⟩
  rw [show getL 16 gd (2 :: dd) = ([dd], 17, 0) from by decide +kernel] at ho ⊢
  obtain ⟨A, c, rfl, hr, _⟩ := row_out ho
  exact ⟨A, c, rfl, hr, hb⟩
theorem s_sameTexts (A : Option Addr) (c : Nat) (w : World) (hr : Rd w A ([⟨#[]⟩, ⟨#[97]⟩].map Value.string)) : Calls Try.prog 33 #[.slice A 2 c, .slice (some ⟨w.heap.size, 0, none⟩) 2 2] (w.alloc (.cells #[.string { data := #[] }, .string { data := #[97] }] 9)) fun e w' => e = .returned (.bool true) ∧ Below w.heap.size w w' :=
  (sameTexts_any A _ c 2 [⟨#[]⟩, ⟨#[97]⟩] _ (hr.below (below_alloc _ _)) (rd_of w _ _ _ rfl) (by decide)).mono fun _ _ ⟨he, n, hw⟩ => ⟨he, hw ▸ below_drewN (below_alloc _ _) n⟩
theorem s_sameInts (A : Option Addr) (c : Nat) (w : World) (hr : Rd w A ([1, -1].map (Value.int .i64))) : Calls Try.prog 30 #[.slice A 2 c, .slice (some ⟨w.heap.size, 0, none⟩) 2 2] (w.alloc (.cells #[.int .i64 1, .int .i64 (-1)] 3)) fun e w' => e = .returned (.bool true) ∧ Below w.heap.size w w' :=
  (sameInts_any A _ c 2 [1, -1] _ (hr.below (below_alloc _ _)) (rd_of w _ _ _ rfl) (by decide)).mono fun _ _ ⟨he, n, hw⟩ => ⟨he, hw ▸ below_drewN (below_alloc _ _) n⟩
theorem s_sameDigs (A : Option Addr) (c : Nat) (w : World) (hr : Rd w A (dcs [dd])) : Calls Try.prog 36 #[.slice A 1 c, .slice (some ⟨w.heap.size, 0, none⟩) 1 1] (w.alloc (.cells (bc dd).toArray 57)) fun e w' => e = .returned (.bool true) ∧ Below w.heap.size w w' :=
  (sameDigs_any A _ c 1 [dd] _ (hr.below (below_alloc _ _)) (rd_of w _ _ _ (by simp [dcs])) (by intro d hd; simp at hd; subst hd; rfl) (by decide)).mono fun _ _ ⟨he, n, hw⟩ => ⟨he, hw ▸ below_drewN (below_alloc _ _) n⟩
theorem s_strings (w : World) : Calls Try.prog 20 #[.slice (some ⟨w.heap.size, 0, none⟩) 2 2] (w.alloc (.cells #[.string { data := #[] }, .string { data := #[97] }] 9)) fun e w' => ∃ A c, e = .returned (.slice A 4 c) ∧ Rd w' A (bc [4, 0, 2, 97]) ∧ Below w.heap.size w w' := by
  refine (strs_any _ 2 [⟨#[]⟩, ⟨#[97]⟩] _ (rd_of w _ _ _ rfl) (by intro s hs; simp at hs; rcases hs with rfl | rfl <;> decide) (by decide) (by decide +kernel)).mono ?_
  rintro e w' ⟨v, rfl, ho, hb⟩
  rw [show encS [⟨#[]⟩, ⟨#[97]⟩] = [4, 0, 2, 97] from by decide +kernel] at ho
  obtain ⟨A, c, rfl, hr, _⟩ := ho.out
  exact ⟨A, c, rfl, hr, Below.next (below_alloc _ _) hb⟩
theorem s_Int (w : World) : Calls Try.prog 14 #[.int .i64 (-65)] w fun e w' => ∃ A c, e = .returned (.slice A 2 c) ∧ Rd w' A (bc [129, 1]) ∧ Below w.heap.size w w' := by
  refine (int_any (-65) w (by decide) (by decide)).mono ?_
  rintro e w' ⟨v, rfl, ho, hb⟩
  rw [show enc (-65) = [129, 1] from by decide +kernel] at ho
  obtain ⟨A, c, rfl, hr, _⟩ := ho.out
  exact ⟨A, c, rfl, hr, hb⟩
theorem s_Bytes (w : World) : Calls Try.prog 16 #[.string { data := #[97, 98] }] w fun e w' => ∃ A c, e = .returned (.slice A 3 c) ∧ Rd w' A (bc [4, 97, 98]) ∧ Below w.heap.size w w' := by
  refine (bytes_any { data := #[97, 98] } w (by decide)).mono ?_
  rintro e w' ⟨v, rfl, ho, hb⟩
  rw [show encB ({ data := #[97, 98] } : ByteArray).data.toList = [4, 97, 98] from by decide +kernel] at ho
  obtain ⟨A, c, rfl, hr, _⟩ := ho.out
  exact ⟨A, c, rfl, hr, hb⟩
theorem s_Ints (w : World) : Calls Try.prog 18 #[.slice (some ⟨w.heap.size, 0, none⟩) 2 2] (w.alloc (.cells #[.int .i64 1, .int .i64 (-1)] 3)) fun e w' => ∃ A c, e = .returned (.slice A 3 c) ∧ Rd w' A (bc [4, 2, 1]) ∧ Below w.heap.size w w' := by
  refine (ints_any _ 2 [1, -1] _ (rd_of w _ _ _ rfl) (by intro z hz; simp at hz; rcases hz with rfl | rfl <;> decide) (by decide) (by decide +kernel)).mono ?_
  rintro e w' ⟨v, rfl, ho, hb⟩
  rw [show encI [1, -1] = [4, 2, 1] from by decide +kernel] at ho
  obtain ⟨A, c, rfl, hr, _⟩ := ho.out
  exact ⟨A, c, rfl, hr, Below.next (below_alloc _ _) hb⟩
theorem s_same2 (A : Option Addr) (c : Nat) (w : World) (hr : Rd w A (bc [129, 1])) : Calls Try.prog 13 #[.slice A 2 c, .slice (some ⟨w.heap.size, 0, none⟩) 2 2] (w.alloc (.cells #[.int .u8 129, .int .u8 1] 5)) fun e w' => e = .returned (.bool true) ∧ Below w.heap.size w w' :=
  (same_any A _ c 2 [129, 1] [129, 1] _ (hr.below (below_alloc _ _)) (rd_of w _ _ _ rfl)).mono fun _ _ ⟨he, hw⟩ => ⟨he, hw ▸ below_alloc _ _⟩
theorem s_same3 (A : Option Addr) (c : Nat) (w : World) (hr : Rd w A (bc [4, 97, 98])) : Calls Try.prog 13 #[.slice A 3 c, .slice (some ⟨w.heap.size, 0, none⟩) 3 3] (w.alloc (.cells #[.int .u8 4, .int .u8 97, .int .u8 98] 5)) fun e w' => e = .returned (.bool true) ∧ Below w.heap.size w w' :=
  (same_any A _ c 3 [4, 97, 98] [4, 97, 98] _ (hr.below (below_alloc _ _)) (rd_of w _ _ _ rfl)).mono fun _ _ ⟨he, hw⟩ => ⟨he, hw ▸ below_alloc _ _⟩
theorem s_same3i (A : Option Addr) (c : Nat) (w : World) (hr : Rd w A (bc [4, 2, 1])) : Calls Try.prog 13 #[.slice A 3 c, .slice (some ⟨w.heap.size, 0, none⟩) 3 3] (w.alloc (.cells #[.int .u8 4, .int .u8 2, .int .u8 1] 5)) fun e w' => e = .returned (.bool true) ∧ Below w.heap.size w w' :=
  (same_any A _ c 3 [4, 2, 1] [4, 2, 1] _ (hr.below (below_alloc _ _)) (rd_of w _ _ _ rfl)).mono fun _ _ ⟨he, hw⟩ => ⟨he, hw ▸ below_alloc _ _⟩
theorem s_same4 (A : Option Addr) (c : Nat) (w : World) (hr : Rd w A (bc [4, 0, 2, 97])) : Calls Try.prog 13 #[.slice A 4 c, .slice (some ⟨w.heap.size, 0, none⟩) 4 4] (w.alloc (.cells #[.int .u8 4, .int .u8 0, .int .u8 2, .int .u8 97] 5)) fun e w' => e = .returned (.bool true) ∧ Below w.heap.size w w' :=
  (same_any A _ c 4 [4, 0, 2, 97] [4, 0, 2, 97] _ (hr.below (below_alloc _ _)) (rd_of w _ _ _ rfl)).mono fun _ _ ⟨he, hw⟩ => ⟨he, hw ▸ below_alloc _ _⟩
end Go.Proofs.Ytpobblcokkgijaa
