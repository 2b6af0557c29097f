/- The walk of WireTruncated. -/
import Derived.Test.YtpobblcokkgijaaWWalkE
namespace Go.Proofs.Ytpobblcokkgijaa
open Go.RowKit Go.ChangeShapes Wm

section
variable {H : Type} {d : DataW H} {n : Nat}
theorem reach_S {l : List ByteArray} (hw : ∀ n ∈ d.weights Try.prog 23, n ≤ reachBytes) (hd : d = .nil ∧ l = [] ∨ ∃ spare, d = .slice (strs l) spare) : l.length ≤ 140737488351232 ∧ ∀ s ∈ l, s.size ≤ 140737488351232 := by
  rcases hd with ⟨_, rfl⟩ | ⟨spare, rfl⟩
  · exact ⟨by simp, by intro s hs; simp at hs⟩
  · have hu : Try.prog.underlying 23 = some (.slice 9) := Try.underlying23
    have hb : Try.prog.bytesOf 9 = 16 := by kernel_rfl
    simp only [DataW.weights, hu, hb] at hw
    have h1 := hw _ List.mem_cons_self
    have hl : (strs l : List (DataW H)).length = l.length := by simp [strs]
    rw [hl] at h1
    simp only [reachBytes] at h1 hw
    refine ⟨by omega, fun s hs => ?_⟩
    have hsz : s.data.toList.length = s.size := Array.length_toList (xs := s.data)
    have h2 : ∀ (l : List ByteArray), s ∈ l → s.size ∈ DataW.weightsAll Try.prog 9 (strs l : List (DataW H)) := by
      intro l
      induction l with
      | nil => intro h; simp at h
      | cons z r ih =>
        intro h
        have e : (strs (z :: r) : List (DataW H)) = .lit (.string z.data.toList) :: strs r := rfl
        rw [e]
        simp only [DataW.weightsAll, DataW.weights]
        rcases List.mem_cons.1 h with rfl | h3
        · rw [hsz]; exact List.mem_append_left _ List.mem_cons_self
        · exact List.mem_append_right _ (ih h3)
    exact hw _ (List.mem_cons_of_mem _ (List.mem_append_left _ (h2 l hs)))
theorem reach_D (hw : ∀ n ∈ d.weights Try.prog 24, n ≤ reachBytes) (hd : d = .nil ∧ n = 0 ∨ ∃ elems spare, d = .slice elems spare ∧ elems.length = n) : n ≤ 140737488351232 := by
  rcases hd with ⟨_, rfl⟩ | ⟨elems, spare, rfl, rfl⟩
  · omega
  · have hu : Try.prog.underlying 24 = some (.slice 57) := Try.underlying24
    have hb : Try.prog.bytesOf 57 = 16 := by kernel_rfl
    simp only [DataW.weights, hu, hb] at hw
    have h1 := hw _ List.mem_cons_self
    simp only [reachBytes] at h1
    omega
end

theorem tot_le {ss : List ByteArray} {B : Nat} (h : ∀ s ∈ ss, s.size ≤ B) : tot ss ≤ ss.length * B := by
  induction ss with
  | nil => simp [tot]
  | cons z r ih =>
    have h1 := ih fun s hs => h s (List.mem_cons_of_mem _ hs)
    have h2 := h z List.mem_cons_self
    have ht : tot (z :: r) = z.size + tot r := by simp [tot]
    rw [ht, List.length_cons, Nat.add_mul, Nat.one_mul]; omega

theorem rd_take {w : World} {A : Option Addr} {E : List UInt8} {i : Nat} (h : Rd w A (bc E)) : Rd w A (bc (E.take i)) := by rw [bc_take]; exact h.take i

/-- What an encoding's beginnings come to. -/
def Short (f : FuncId) (E : List UInt8) : Prop := ∀ (W : World) (A : Option Addr) (c i : Nat), i < E.length → Rd W A (bc E) → E.length ≤ c →
  Calls Try.prog f #[.slice A i c] W fun x w' => ∃ v u, x = .returned (.tuple #[v, .int .i64 u, .int .i64 10]) ∧ Below W.heap.size W w'

theorem sh_int (n : Int) (h : -9223372036854775808 ≤ n) (h' : n ≤ 9223372036854775807) : Short 24 (enc n) := by
  intro W A c i hi hr hc
  have hl : ((enc n).take i).length = i := by rw [List.length_take]; omega
  have hle := enc_le h h'
  have h1 := getInt_at (gi_short h h' hi) A c W (by omega) (rd_take hr)
  rw [hl] at h1
  exact h1.mono fun _ _ ⟨he, hw⟩ => ⟨_, _, he, hw ▸ Below.refl _ _⟩
theorem sh_bytes (x : List UInt8) (hx : x.length ≤ 2000) : Short 26 (encB x) := by
  intro W A c i hi hr hc
  have hl : ((encB x).take i).length = i := by rw [List.length_take]; omega
  have hle := encB_le x (by omega)
  have h1 := getBytes_at (gb_short x i (by omega) hi) A c W (by omega) (by omega) (rd_take hr)
  rw [hl] at h1
  exact h1.mono fun _ _ ⟨he, hw⟩ => ⟨_, _, he, hw ▸ Below.refl _ _⟩
theorem sh_ints (zs : List Int) (hz : ∀ z ∈ zs, -9223372036854775808 ≤ z ∧ z ≤ 9223372036854775807) (hn : zs.length ≤ 2000) : Short 28 (encI zs) := by
  intro W A c i hi hr hc
  have hl : ((encI zs).take i).length = i := by rw [List.length_take]; omega
  have hle := encI_len zs hz (by omega)
  have h1 := getInts_any A c ((encI zs).take i) W (by omega) (by omega) (rd_take hr)
  have h2 : (getL 1 gi ((encI zs).take i)).2.2 = 10 := getL_short 1 zs (fun z hm r => gi_enc (hz z hm).1 (hz z hm).2 r) (fun z hm k hk => by rw [gi_short (hz z hm).1 (hz z hm).2 hk]) (by omega) (by omega) i hi
  rw [hl, h2] at h1
  exact h1.mono fun _ _ ⟨v, he, _, hb⟩ => ⟨_, _, he, hb⟩
theorem sh_strs (ss : List ByteArray) (hn : ss.length + tot ss ≤ 2000) : Short 31 (encS ss) := by
  intro W A c i hi hr hc
  have hl : ((encS ss).take i).length = i := by rw [List.length_take]; omega
  have hle := encS_len ss hn
  have hm : ∀ s ∈ ss, s.size ≤ 2000 := fun s hs => by have := tot_mem hs; omega
  have e : encS ss = encL encB (ss.map fun s => s.data.toList) := by
    unfold encS encL
    rw [List.length_map, List.flatMap_map]
  have hx : ∀ x ∈ (ss.map fun s => s.data.toList), x.length ≤ 2000 := by
    intro x hx
    obtain ⟨s, hs, rfl⟩ := List.mem_map.1 hx
    have := hm s hs
    rw [show s.data.toList.length = s.size from Array.length_toList (xs := s.data)]; exact this
  have h1 := getStrings_any A c ((encS ss).take i) W (by omega) (by omega) (rd_take hr)
  have h2 : (getL 1 gb ((encS ss).take i)).2.2 = 10 := by
    rw [e] at hi ⊢
    exact getL_short 1 _ (fun x hm r => gb_enc x r (by have := hx x hm; omega)) (fun x hm k hk => by rw [gb_short x k (by have := hx x hm; omega) hk]) (by omega) (by rw [List.length_map]; omega) i hi
  rw [hl, h2] at h1
  exact h1.mono fun _ _ ⟨v, he, _, hb⟩ => ⟨_, _, he, hb⟩
theorem sh_digs (ds : List (List UInt8)) (hd : ∀ d ∈ ds, d.length = 16) (hn : ds.length ≤ 2000) : Short 34 (encD ds) := by
  intro W A c i hi hr hc
  have hl : ((encD ds).take i).length = i := by rw [List.length_take]; omega
  have hle : (encD ds).length ≤ 40000 := by
    unfold encD encL
    rw [List.length_append, flat16 ds hd]
    have h1 := enc_le (n := (ds.length : Int)) (by omega) (by omega)
    omega
  have h1 := getDigs_any A c ((encD ds).take i) W (by omega) (by omega) (rd_take hr)
  rw [hl, getD_short ds hd (by omega) i hi] at h1
  exact h1.mono fun _ _ ⟨v, he, _, _, hb⟩ => ⟨_, _, he, hb⟩

/-- The encoder's call, and what the beginnings of the encoding come to. -/
theorem pk_int (n : Int) (h : -9223372036854775808 ≤ n ∧ n ≤ 9223372036854775807) : ∃ E : List UInt8, Short 24 E ∧
    (∀ W, Calls Try.prog 14 #[.int .i64 n] W fun x w' => ∃ B cB, x = .returned (.slice B E.length cB) ∧ Rd w' B (bc E) ∧ E.length ≤ cB ∧ Below W.heap.size W w') := by
  refine ⟨enc n, sh_int n h.1 h.2, fun W => (int_any n W h.1 h.2).mono ?_⟩
  rintro y w' ⟨v, rfl, ho, hb⟩
  obtain ⟨B, cB, rfl, hr, hcB⟩ := ho.out
  exact ⟨B, cB, rfl, hr, hcB, hb⟩
theorem pk_bytes (s : ByteArray) (hs : s.size ≤ 2000) : ∃ E : List UInt8, Short 26 E ∧
    (∀ W, Calls Try.prog 16 #[.string s] W fun x w' => ∃ B cB, x = .returned (.slice B E.length cB) ∧ Rd w' B (bc E) ∧ E.length ≤ cB ∧ Below W.heap.size W w') := by
  have hsz : s.data.toList.length = s.size := Array.length_toList (xs := s.data)
  refine ⟨encB s.data.toList, sh_bytes _ (by omega), fun W => (bytes_any s W (by omega)).mono ?_⟩
  rintro y w' ⟨v, rfl, ho, hb⟩
  obtain ⟨B, cB, rfl, hr, hcB⟩ := ho.out
  exact ⟨B, cB, rfl, hr, hcB, hb⟩
theorem pk_ints (A0 : Option Addr) (c0 : Nat) (zs : List Int) (hz : ∀ z ∈ zs, -9223372036854775808 ≤ z ∧ z ≤ 9223372036854775807) (hl : zs.length ≤ 2000) : ∃ E : List UInt8, Short 28 E ∧
    (∀ W, Rd W A0 (zs.map (Value.int .i64)) → Calls Try.prog 18 #[.slice A0 zs.length c0] W fun x w' => ∃ B cB, x = .returned (.slice B E.length cB) ∧ Rd w' B (bc E) ∧ E.length ≤ cB ∧ Below W.heap.size W w') := by
  have hle := encI_len zs hz (by omega)
  refine ⟨encI zs, sh_ints zs hz hl, fun W h0 => (ints_any A0 c0 zs W h0 hz (by omega) (by omega)).mono ?_⟩
  rintro y w' ⟨v, rfl, ho, hb⟩
  obtain ⟨B, cB, rfl, hr, hcB⟩ := ho.out
  exact ⟨B, cB, rfl, hr, hcB, hb⟩
theorem pk_strs (A0 : Option Addr) (c0 : Nat) (ss : List ByteArray) (hl : ss.length + tot ss ≤ 2000) : ∃ E : List UInt8, Short 31 E ∧
    (∀ W, Rd W A0 (ss.map Value.string) → Calls Try.prog 20 #[.slice A0 ss.length c0] W fun x w' => ∃ B cB, x = .returned (.slice B E.length cB) ∧ Rd w' B (bc E) ∧ E.length ≤ cB ∧ Below W.heap.size W w') := by
  have hle := encS_len ss hl
  have hm : ∀ s ∈ ss, s.size ≤ 2000 := fun s hs => by have := tot_mem hs; omega
  refine ⟨encS ss, sh_strs ss hl, fun W h0 => (strs_any A0 c0 ss W h0 (fun s hs => by have := hm s hs; omega) (by omega) (by omega)).mono ?_⟩
  rintro y w' ⟨v, rfl, ho, hb⟩
  obtain ⟨B, cB, rfl, hr, hcB⟩ := ho.out
  exact ⟨B, cB, rfl, hr, hcB, hb⟩
theorem pk_digs (A0 : Option Addr) (c0 : Nat) (ds : List (List UInt8)) (hd : ∀ d ∈ ds, d.length = 16) (hl : ds.length ≤ 2000) : ∃ E : List UInt8, Short 34 E ∧
    (∀ W, Rd W A0 (dcs ds) → Calls Try.prog 22 #[.slice A0 ds.length c0] W fun x w' => ∃ B cB, x = .returned (.slice B E.length cB) ∧ Rd w' B (bc E) ∧ E.length ≤ cB ∧ Below W.heap.size W w') := by
  have hle : (encD ds).length ≤ 40000 := by
    unfold encD encL
    rw [List.length_append, flat16 ds hd]
    have h1 := enc_le (n := (ds.length : Int)) (by omega) (by omega)
    omega
  refine ⟨encD ds, sh_digs ds hd hl, fun W h0 => (digs_any A0 c0 ds W h0 hd (by omega) (by omega)).mono ?_⟩
  rintro y w' ⟨v, rfl, ho, hb⟩
  obtain ⟨B, cB, rfl, hr, hcB⟩ := ho.out
  exact ⟨B, cB, rfl, hr, hcB, hb⟩

/-- The five slices that the loop goes over. -/
def Five (w : World) (g : Nat) (vs : List Value) : Prop := ∀ k u, vs[k]? = some u → w.cell? ⟨g, k, none⟩ = some u
theorem Five.below {w w' : World} {g : Nat} {vs : List Value} (h : Five w g vs) (hb : Below w.heap.size w w') : Five w' g vs := fun k u hu => by
  have h1 := h k u hu
  rw [hb.cell (p := ⟨g, k, none⟩) (World.block_lt_of_cell? w _ h1)]; exact h1

set_option maxRecDepth 100000 in
set_option maxHeartbeats 4000000 in
theorem walkTruncated (n : Int) (s : ByteArray) (A1 A2 A3 : Option Addr) (c1 c2 c3 : Nat) (zs : List Int) (ss : List ByteArray) (ds : List (List UInt8)) (w : World) (hn : -9223372036854775808 ≤ n ∧ n ≤ 9223372036854775807)
    (hr1 : Rd w A1 (zs.map (Value.int .i64))) (hr2 : Rd w A2 (ss.map Value.string)) (hr3 : Rd w A3 (dcs ds)) (hz : ∀ z ∈ zs, -9223372036854775808 ≤ z ∧ z ≤ 9223372036854775807) (hd : ∀ d ∈ ds, d.length = 16)
    (hs : s.size ≤ 140737488351232) (hn1 : zs.length ≤ 140737488351232) (hn2 : ss.length ≤ 140737488351232 ∧ ∀ s ∈ ss, s.size ≤ 140737488351232) (hn3 : ds.length ≤ 140737488351232) :
    Calls Try.prog 9 #[.int .i64 n, .string s, .slice A1 zs.length c1, .slice A2 ss.length c2, .slice A3 ds.length c3] w fun e w' => e = .returned (.bool true) ∧ Below w.heap.size w w' := by
  obtain ⟨hn21, hn22⟩ := hn2
  by_cases hl : s.size + 10 * zs.length + 16 * ds.length ≤ 400
  · by_cases hl2 : ss.length ≤ 40
    · have htt := tot_le hn22
      have HF := Lib.hid (few_any A2 c2 ss w hr2 (by have := Nat.mul_le_mul_right 140737488351232 hl2; omega))
      by_cases hl3 : ss.length + tot ss ≤ 2000
      · rw [decide_eq_true hl3] at HF
        obtain ⟨E0, s0, e0⟩ := pk_int n hn
        obtain ⟨E1, s1, e1⟩ := pk_bytes s (by omega)
        obtain ⟨E2, s2, e2⟩ := pk_ints A1 c1 zs hz (by omega)
        obtain ⟨E3, s3, e3⟩ := pk_strs A2 c2 ss hl3
        obtain ⟨E4, s4, e4⟩ := pk_digs A3 c3 ds hd (by omega)
        have S0 := Lib.hid s0
        have HE0 := Lib.hid e0
        have S1 := Lib.hid s1
        have HE1 := Lib.hid e1
        have S2 := Lib.hid s2
        have HE2 := Lib.hid e2
        have S3 := Lib.hid s3
        have HE3 := Lib.hid e3
        have S4 := Lib.hid s4
        have HE4 := Lib.hid e4
        have HR1 := Lib.hid hr1
        have HR2 := Lib.hid hr2
        have HR3 := Lib.hid hr3
        clear s0 s1 s2 s3 s4 e0 e1 e2 e3 e4 hr1 hr2 hr3 hz hd hn22 htt hl3 hn
        go_enter Try.func9, Try.ntmps9
        go_wp2_with fail
        refine HF.out.mono ?_
        rintro x w0 ⟨rfl, rfl⟩
        go_wp2_with fail
        refine (HE0.out _).mono ?_
        rintro x w1 ⟨B0, k0, rfl, g0, cc0, b0⟩
        have G0 := Lib.hid g0
        clear g0
        go_wp2_with fail
        refine (HE1.out _).mono ?_
        rintro x w2 ⟨B1, k1, rfl, g1, cc1, b1⟩
        have G1 := Lib.hid g1
        clear g1
        go_wp2_with fail
        refine (HE2.out _ (HR1.out.below (Below.next b0 b1))).mono ?_
        rintro x w3 ⟨B2, k2, rfl, g2, cc2, b2⟩
        have G2 := Lib.hid g2
        clear g2
        go_wp2_with fail
        refine (HE3.out _ (HR2.out.below (Below.next b0 (Below.next b1 b2)))).mono ?_
        rintro x w4 ⟨B3, k3, rfl, g3, cc3, b3⟩
        have G3 := Lib.hid g3
        clear g3
        go_wp2_with fail
        refine (HE4.out _ (HR3.out.below (Below.next b0 (Below.next b1 (Below.next b2 b3))))).mono ?_
        rintro x w5 ⟨B4, k4, rfl, g4, cc4, b4⟩
        have G0' := Lib.hid (G0.out.below (Below.next b1 (Below.next b2 (Below.next b3 b4))))
        have G1' := Lib.hid (G1.out.below (Below.next b2 (Below.next b3 b4)))
        have G2' := Lib.hid (G2.out.below (Below.next b3 b4))
        have G3' := Lib.hid (G3.out.below b4)
        have G4' := Lib.hid g4
        have K5 := Lib.hid (Below.next b0 (Below.next b1 (Below.next b2 (Below.next b3 b4))))
        clear b0 b1 b2 b3 b4 g4 G0 G1 G2 G3 HE0 HE1 HE2 HE3 HE4 HR1 HR2 HR3 HF
        go_wp2
        have V := Lib.hid (show Five (w5.alloc (.cells #[.slice B0 E0.length k0, .slice B1 E1.length k1, .slice B2 E2.length k2, .slice B3 E3.length k3, .slice B4 E4.length k4] 28)) w5.heap.size [.slice B0 E0.length k0, .slice B1 E1.length k1, .slice B2 E2.length k2, .slice B3 E3.length k3, .slice B4 E4.length k4] from fun k u hu => by
          rw [cell_of_row _ w5.heap.size k _ 28 (0, 0) (heap_alloc_new w5 _)]
          rw [List.getElem?_toArray]; exact hu)
        obtain ⟨W5, hW5⟩ : ∃ W5, w5.alloc (.cells #[.slice B0 E0.length k0, .slice B1 E1.length k1, .slice B2 E2.length k2, .slice B3 E3.length k3, .slice B4 E4.length k4] 28) = W5 := ⟨_, rfl⟩
        have KW := Lib.hid (show Below w5.heap.size w5 W5 by rw [← hW5]; exact below_alloc _ _)
        rw [hW5] at V ⊢
        clear hW5
        go_loopw [49] (fun i wr => ∃ k : Nat, i = .int .i64 k ∧ k ≤ 5 ∧ Below W5.heap.size W5 wr) (fun i _ => 5 - (intOf i).toNat)
        case atStart => exact ⟨0, rfl, by omega, Below.refl _ _⟩
        case round =>
          obtain ⟨k, rfl, hk, hb⟩ := hrel
          have hk5 : k = 0 ∨ k = 1 ∨ k = 2 ∨ k = 3 ∨ k = 4 ∨ k = 5 := by omega
          rcases hk5 with rfl | rfl | rfl | rfl | rfl | rfl
          · have hcell := (V.out.below hb) 0 _ rfl
            obtain ⟨wo, hwo⟩ : ∃ wo : World, wr = wo := ⟨_, rfl⟩
            rw [hwo] at hcell hb ⊢
            have HG := Lib.hid ((G0'.out.below KW.out).below hb)
            have HB := Lib.hid hb
            clear hb hwo
            by_cases h500 : 500 < E0.length
            all_goals
              go_wp2
              go_loopw [57] (fun i wx => ∃ j : Nat, i = .int .i64 j ∧ j ≤ 500 ∧ j ≤ E0.length ∧ Below wo.heap.size wo wx) (fun i _ => 500 - (intOf i).toNat)
              case atStart => exact ⟨0, rfl, by omega, by omega, Below.refl _ _⟩
              case round =>
                obtain ⟨j, rfl, hj, hj2, hbx⟩ := hrel
                by_cases hlt : j < 500 ∧ j < E0.length
                · obtain ⟨hl1, hl2'⟩ := hlt
                  have HC := Lib.hid (S0.out wr B0 k0 j hl2' (HG.out.below hbx) cc0)
                  have hjc : j ≤ k0 := by omega
                  go_wp2_with fail
                  refine HC.out.mono ?_
                  rintro x wy ⟨vv, uu, rfl, hby⟩
                  go_wp2
                  go_roundw
                  case rel => first | exact ⟨j + 1, by go_num, by omega, by omega, Below.next hbx hby⟩ | ((repeat apply Exists.intro); exact ⟨⟨j + 1, by go_num, by omega, by omega, Below.next hbx hby⟩, rfl⟩)
                  case measure => simp [intOf]; omega
                · have hge : 500 ≤ j ∨ E0.length ≤ j := by omega
                  go_wp2
                  go_roundw
                  case rel => exact ⟨0 + 1, by go_num, by omega, Below.next HB.out hbx⟩
                  case measure => simp [intOf]
          · have hcell := (V.out.below hb) 1 _ rfl
            obtain ⟨wo, hwo⟩ : ∃ wo : World, wr = wo := ⟨_, rfl⟩
            rw [hwo] at hcell hb ⊢
            have HG := Lib.hid ((G1'.out.below KW.out).below hb)
            have HB := Lib.hid hb
            clear hb hwo
            by_cases h500 : 500 < E1.length
            all_goals
              go_wp2
              go_loopw [57] (fun i wx => ∃ j : Nat, i = .int .i64 j ∧ j ≤ 500 ∧ j ≤ E1.length ∧ Below wo.heap.size wo wx) (fun i _ => 500 - (intOf i).toNat)
              case atStart => exact ⟨0, rfl, by omega, by omega, Below.refl _ _⟩
              case round =>
                obtain ⟨j, rfl, hj, hj2, hbx⟩ := hrel
                by_cases hlt : j < 500 ∧ j < E1.length
                · obtain ⟨hl1, hl2'⟩ := hlt
                  have HC := Lib.hid (S1.out wr B1 k1 j hl2' (HG.out.below hbx) cc1)
                  have hjc : j ≤ k1 := by omega
                  go_wp2_with fail
                  refine HC.out.mono ?_
                  rintro x wy ⟨vv, uu, rfl, hby⟩
                  go_wp2
                  go_roundw
                  case rel => first | exact ⟨j + 1, by go_num, by omega, by omega, Below.next hbx hby⟩ | ((repeat apply Exists.intro); exact ⟨⟨j + 1, by go_num, by omega, by omega, Below.next hbx hby⟩, rfl⟩)
                  case measure => simp [intOf]; omega
                · have hge : 500 ≤ j ∨ E1.length ≤ j := by omega
                  go_wp2
                  go_roundw
                  case rel => exact ⟨1 + 1, by go_num, by omega, Below.next HB.out hbx⟩
                  case measure => simp [intOf]
          · have hcell := (V.out.below hb) 2 _ rfl
            obtain ⟨wo, hwo⟩ : ∃ wo : World, wr = wo := ⟨_, rfl⟩
            rw [hwo] at hcell hb ⊢
            have HG := Lib.hid ((G2'.out.below KW.out).below hb)
            have HB := Lib.hid hb
            clear hb hwo
            by_cases h500 : 500 < E2.length
            all_goals
              go_wp2
              go_loopw [57] (fun i wx => ∃ j : Nat, i = .int .i64 j ∧ j ≤ 500 ∧ j ≤ E2.length ∧ Below wo.heap.size wo wx) (fun i _ => 500 - (intOf i).toNat)
              case atStart => exact ⟨0, rfl, by omega, by omega, Below.refl _ _⟩
              case round =>
                obtain ⟨j, rfl, hj, hj2, hbx⟩ := hrel
                by_cases hlt : j < 500 ∧ j < E2.length
                · obtain ⟨hl1, hl2'⟩ := hlt
                  have HC := Lib.hid (S2.out wr B2 k2 j hl2' (HG.out.below hbx) cc2)
                  have hjc : j ≤ k2 := by omega
                  go_wp2_with fail
                  refine HC.out.mono ?_
                  rintro x wy ⟨vv, uu, rfl, hby⟩
                  go_wp2
                  go_roundw
                  case rel => first | exact ⟨j + 1, by go_num, by omega, by omega, Below.next hbx hby⟩ | ((repeat apply Exists.intro); exact ⟨⟨j + 1, by go_num, by omega, by omega, Below.next hbx hby⟩, rfl⟩)
                  case measure => simp [intOf]; omega
                · have hge : 500 ≤ j ∨ E2.length ≤ j := by omega
                  go_wp2
                  go_roundw
                  case rel => exact ⟨2 + 1, by go_num, by omega, Below.next HB.out hbx⟩
                  case measure => simp [intOf]
          · have hcell := (V.out.below hb) 3 _ rfl
            obtain ⟨wo, hwo⟩ : ∃ wo : World, wr = wo := ⟨_, rfl⟩
            rw [hwo] at hcell hb ⊢
            have HG := Lib.hid ((G3'.out.below KW.out).below hb)
            have HB := Lib.hid hb
            clear hb hwo
            by_cases h500 : 500 < E3.length
            all_goals
              go_wp2
              go_loopw [57] (fun i wx => ∃ j : Nat, i = .int .i64 j ∧ j ≤ 500 ∧ j ≤ E3.length ∧ Below wo.heap.size wo wx) (fun i _ => 500 - (intOf i).toNat)
              case atStart => exact ⟨0, rfl, by omega, by omega, Below.refl _ _⟩
              case round =>
                obtain ⟨j, rfl, hj, hj2, hbx⟩ := hrel
                by_cases hlt : j < 500 ∧ j < E3.length
                · obtain ⟨hl1, hl2'⟩ := hlt
                  have HC := Lib.hid (S3.out wr B3 k3 j hl2' (HG.out.below hbx) cc3)
                  have hjc : j ≤ k3 := by omega
                  go_wp2_with fail
                  refine HC.out.mono ?_
                  rintro x wy ⟨vv, uu, rfl, hby⟩
                  go_wp2
                  go_roundw
                  case rel => first | exact ⟨j + 1, by go_num, by omega, by omega, Below.next hbx hby⟩ | ((repeat apply Exists.intro); exact ⟨⟨j + 1, by go_num, by omega, by omega, Below.next hbx hby⟩, rfl⟩)
                  case measure => simp [intOf]; omega
                · have hge : 500 ≤ j ∨ E3.length ≤ j := by omega
                  go_wp2
                  go_roundw
                  case rel => exact ⟨3 + 1, by go_num, by omega, Below.next HB.out hbx⟩
                  case measure => simp [intOf]
          · have hcell := (V.out.below hb) 4 _ rfl
            obtain ⟨wo, hwo⟩ : ∃ wo : World, wr = wo := ⟨_, rfl⟩
            rw [hwo] at hcell hb ⊢
            have HG := Lib.hid ((G4'.out.below KW.out).below hb)
            have HB := Lib.hid hb
            clear hb hwo
            by_cases h500 : 500 < E4.length
            all_goals
              go_wp2
              go_loopw [57] (fun i wx => ∃ j : Nat, i = .int .i64 j ∧ j ≤ 500 ∧ j ≤ E4.length ∧ Below wo.heap.size wo wx) (fun i _ => 500 - (intOf i).toNat)
              case atStart => exact ⟨0, rfl, by omega, by omega, Below.refl _ _⟩
              case round =>
                obtain ⟨j, rfl, hj, hj2, hbx⟩ := hrel
                by_cases hlt : j < 500 ∧ j < E4.length
                · obtain ⟨hl1, hl2'⟩ := hlt
                  have HC := Lib.hid (S4.out wr B4 k4 j hl2' (HG.out.below hbx) cc4)
                  have hjc : j ≤ k4 := by omega
                  go_wp2_with fail
                  refine HC.out.mono ?_
                  rintro x wy ⟨vv, uu, rfl, hby⟩
                  go_wp2
                  go_roundw
                  case rel => first | exact ⟨j + 1, by go_num, by omega, by omega, Below.next hbx hby⟩ | ((repeat apply Exists.intro); exact ⟨⟨j + 1, by go_num, by omega, by omega, Below.next hbx hby⟩, rfl⟩)
                  case measure => simp [intOf]; omega
                · have hge : 500 ≤ j ∨ E4.length ≤ j := by omega
                  go_wp2
                  go_roundw
                  case rel => exact ⟨4 + 1, by go_num, by omega, Below.next HB.out hbx⟩
                  case measure => simp [intOf]
          · go_wp2_with (go_at_call 12; refine (sanity_any _).mono ?_; rintro e w9 ⟨rfl, hb9⟩)
            go_ret
            exact ⟨rfl, Below.next K5.out (Below.next KW.out (Below.next hb hb9))⟩
      · rw [decide_eq_false hl3] at HF
        clear hr1 hr2 hr3 hz hd hn22 htt
        go_enter Try.func9, Try.ntmps9
        go_wp2_with (first | (go_at_call 11; refine HF.out.mono ?_; rintro x w0 ⟨rfl, rfl⟩) | (go_at_call 12; refine (sanity_any _).mono ?_; rintro e w1 ⟨rfl, hb1⟩))
        go_ret
        exact ⟨rfl, hb1⟩
    · clear hr1 hr2 hr3 hz hd hn22
      go_enter Try.func9, Try.ntmps9
      go_wp2_with (go_at_call 12; refine (sanity_any _).mono ?_; rintro e w1 ⟨rfl, hb1⟩)
      go_ret
      exact ⟨rfl, hb1⟩
  · clear hr1 hr2 hr3 hz hd hn22
    go_enter Try.func9, Try.ntmps9
    go_wp2_with (go_at_call 12; refine (sanity_any _).mono ?_; rintro e w1 ⟨rfl, hb1⟩)
    go_ret
    exact ⟨rfl, hb1⟩
end Go.Proofs.Ytpobblcokkgijaa
