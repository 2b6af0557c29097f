/- The reference's Digests; the walk of WireEncodeMatchesSpec. -/
import Derived.Test.YtpobblcokkgijaaWRefE
namespace Go.Proofs.Ytpobblcokkgijaa
open Go.RowKit Wm

set_option maxRecDepth 100000 in
set_option maxHeartbeats 1000000 in
theorem rdigs_any (A : Option Addr) (c : Nat) (ds : List (List UInt8)) (w : World) (hr : Rd w A (dcs ds)) (hz : ∀ d ∈ ds, d.length = 16) (hl : ds.length ≤ 549755813888) (ht : (encD ds).length ≤ 549755813888) :
    Calls Try.prog 23 #[.slice A ds.length c] w fun e w' => ∃ v, e = .returned v ∧ OwnB w' w.heap.size v (encD ds) ∧ Below w.heap.size w w' := by
  have HZ := Lib.hid hz
  have HR := Lib.hid hr
  have HT := Lib.hid ht
  clear hz hr ht
  go_enter Try.func23, Try.ntmps23
  go_wp2_with fail
  refine (rint_any _ _ (by omega) (by omega)).mono ?_
  rintro e w1 ⟨v1, rfl, ho1, hb1⟩
  go_wp2
  go_loopw [3, 4] (fun b i wr => ∃ k : Nat, i = .int .i64 k ∧ k ≤ ds.length ∧ OwnB wr w.heap.size b (enc ds.length ++ (ds.take k).flatMap (fun d => d)) ∧ w.heap.size ≤ wr.heap.size ∧ Below w.heap.size w wr)
    (fun _ i _ => ds.length - (intOf i).toNat)
  case atStart => exact ⟨0, rfl, by omega, by simpa using ho1, hb1.size, hb1⟩
  case round =>
    obtain ⟨k, rfl, hk, ho, hbs, hb⟩ := hrel
    clear ho1 hb1
    by_cases hlt : k < ds.length
    · have hR1 := HR.out.below hb
      obtain ⟨bb, off, hA, hrg⟩ := dcs_rd hR1 HZ.out hlt
      clear hR1
      subst hA
      have hzk := HZ.out ds[k] (List.getElem_mem hlt)
      have HP := Lib.hid (Nat.le_trans (encL_part (fun d : List UInt8 => d) ds (k + 1)) HT.out)
      have hstep := encL_step (fun d : List UInt8 => d) ds k hlt
      obtain ⟨z, hze⟩ : ∃ z, ds[k] = z := ⟨_, rfl⟩
      rw [hze] at hrg hzk hstep
      have HS := Lib.hid hstep
      have HO := Lib.hid ho
      have HL := Lib.hid hzk
      have HRZ := Lib.hid (show Rd wr (some ⟨bb, off + k * 16, none⟩) (bc z) from fun _ => ⟨bb, off + k * 16, rfl, hrg⟩)
      clear hze hstep ho hrg hzk
      go_wp2_with (at_builtin; refine wpList_both rfl (.tmp 14) (.tmp 18) rfl w.heap.size _ _ z rfl HO.out (some ⟨bb, off + k * 16, none⟩) 16 ?c0 HRZ.out ?c1 hbs ?c2 ?_; rotate_left 3; intro v3 w3 ho3 hb3)
      go_roundw
      case rel => exact ⟨k + 1, by go_num, by omega, by rw [← HS.out]; exact ho3, Nat.le_trans hbs hb3.size, hb.trans hb3⟩
      case measure => simp [intOf]; omega
      case c0 => rw [HL.out]; rfl
      case c1 => exact ne_of_pos (by rw [HL.out]; omega)
      case c2 =>
        have h5 := HP.out
        rw [← HS.out] at h5
        rw [List.length_append] at h5
        omega
    · have HE := Lib.hid (encL_end (fun d : List UInt8 => d) ds k hlt)
      go_wp2
      go_ret
      exact ⟨_, rfl, by unfold encD; rw [← HE.out]; exact ho, hb⟩

theorem Both.of {f : FuncId} {args : Array Value} {E : List UInt8} {W : World} (h : Calls Try.prog f args W fun e w' => ∃ v, e = .returned v ∧ OwnB w' W.heap.size v E ∧ Below W.heap.size W w') :
    Calls Try.prog f args W fun e w' => ∃ B cB, e = .returned (.slice B E.length cB) ∧ Rd w' B (bc E) ∧ Below W.heap.size W w' := by
  refine h.mono ?_
  rintro y w' ⟨v, rfl, ho, hb⟩
  obtain ⟨B, cB, rfl, hr, _⟩ := ho.out
  exact ⟨B, cB, rfl, hr, hb⟩

theorem same_yes (A B : Option Addr) (c c' : Nat) (E : List UInt8) (w : World) (hl : Rd w A (bc E)) (hr : Rd w B (bc E)) :
    Calls Try.prog 13 #[.slice A E.length c, .slice B E.length c'] w fun e w' => e = .returned (.bool true) ∧ w = w' :=
  (same_any A B c c' E E w hl hr).mono fun _ _ ⟨he, hw⟩ => ⟨by rw [he]; simp, hw⟩

set_option maxRecDepth 100000 in
set_option maxHeartbeats 4000000 in
theorem walkEncode (n : Int) (s : ByteArray) (A1 A2 A3 : Option Addr) (c1 c2 c3 : Nat) (zs : List Int) (ss : List ByteArray) (ds : List (List UInt8)) (w : World) (hn : -9223372036854775808 ≤ n ∧ n ≤ 9223372036854775807)
    (hr1 : Rd w A1 (zs.map (Value.int .i64))) (hr2 : Rd w A2 (ss.map Value.string)) (hr3 : Rd w A3 (dcs ds)) (hz : ∀ z ∈ zs, -9223372036854775808 ≤ z ∧ z ≤ 9223372036854775807) (hd : ∀ d ∈ ds, d.length = 16)
    (hs : s.size ≤ 1048576) (hn1 : zs.length ≤ 1048576) (hn2 : ss.length + tot ss ≤ 1048576) (hn3 : ds.length ≤ 1048576) :
    Calls Try.prog 3 #[.int .i64 n, .string s, .slice A1 zs.length c1, .slice A2 ss.length c2, .slice A3 ds.length c3] w fun e w' => e = .returned (.bool true) ∧ Below w.heap.size w w' := by
  have HF := Lib.hid (few_any A2 c2 ss w hr2 (by omega))
  by_cases hl : s.size + zs.length + ds.length ≤ 2000
  · by_cases hl2 : ss.length + tot ss ≤ 2000
    · rw [decide_eq_true hl2] at HF
      have hle2 := encI_len zs hz (by omega)
      have hle3 := encS_len ss hl2
      have hle4 : (encD ds).length ≤ 40000 := by
        unfold encD encL
        rw [List.length_append, flat16 ds hd]
        have h1 := enc_le (n := (ds.length : Int)) (by omega) (by omega)
        omega
      have hm : ∀ s ∈ ss, s.size ≤ 1099511627776 := fun s hs => by have := tot_mem hs; omega
      have E0 := Lib.hid (fun W => Both.of (int_any n W hn.1 hn.2))
      have F0 := Lib.hid (fun W => rint_f n W hn.1 hn.2)
      have E1 := Lib.hid (fun W => Both.of (bytes_any s W (by omega)))
      have F1 := Lib.hid (fun W => rbytes_f s W (by omega))
      have E2 := Lib.hid (fun W h => Both.of (ints_any A1 c1 zs W h hz (by omega) (by omega)))
      have F2 := Lib.hid (fun W h => Both.of (rints_any A1 c1 zs W h hz (by omega) (by omega)))
      have E3 := Lib.hid (fun W h => Both.of (strs_any A2 c2 ss W h hm (by omega) (by omega)))
      have F3 := Lib.hid (fun W h => Both.of (rstrs_any A2 c2 ss W h hm (by omega) (by omega)))
      have E4 := Lib.hid (fun W h => Both.of (digs_any A3 c3 ds W h hd (by omega) (by omega)))
      have F4 := Lib.hid (fun W h => Both.of (rdigs_any A3 c3 ds W h hd (by omega) (by omega)))
      obtain ⟨X0, e0⟩ : ∃ X, enc n = X := ⟨_, rfl⟩
      obtain ⟨X1, e1⟩ : ∃ X, encB s.data.toList = X := ⟨_, rfl⟩
      obtain ⟨X2, e2⟩ : ∃ X, encI zs = X := ⟨_, rfl⟩
      obtain ⟨X3, e3⟩ : ∃ X, encS ss = X := ⟨_, rfl⟩
      obtain ⟨X4, e4⟩ : ∃ X, encD ds = X := ⟨_, rfl⟩
      rw [e0] at E0 F0
      rw [e1] at E1 F1
      rw [e2] at E2 F2
      rw [e3] at E3 F3
      rw [e4] at E4 F4
      have HR1 := Lib.hid hr1
      have HR2 := Lib.hid hr2
      have HR3 := Lib.hid hr3
      clear e0 e1 e2 e3 e4 hr1 hr2 hr3 hz hd hm hle2 hle3 hle4 hn2 hl2 hn
      go_enter Try.func3, Try.ntmps3
      go_wp2_with fail
      refine HF.out.mono ?_
      rintro x w0 ⟨rfl, rfl⟩
      go_wp2_with fail
      refine (sanity_any _).mono ?_
      rintro x v0 ⟨rfl, k0⟩
      have K0 := Lib.hid k0
      clear k0
      go_wp2_with fail
      refine (E0.out _).mono ?_
      rintro x y0 ⟨B0, cb0, rfl, g0, p0⟩
      have G0 := Lib.hid g0
      clear g0
      go_wp2_with fail
      refine (F0.out _).mono ?_
      rintro x z0 ⟨D0, cd0, rfl, h0, q0⟩
      have HH0 := Lib.hid h0
      have GG0 := Lib.hid (G0.out.below q0)
      have K1 := Lib.hid (Below.next K0.out (Below.next p0 q0))
      clear h0 p0 q0 G0
      go_wp2_with fail
      refine (same_yes B0 D0 cb0 cd0 X0 _ GG0.out HH0.out).mono ?_
      rintro x t0 ⟨rfl, rfl⟩
      go_wp2_with fail
      refine (E1.out _).mono ?_
      rintro x y1 ⟨B1, cb1, rfl, g1, p1⟩
      have G1 := Lib.hid g1
      clear g1
      go_wp2_with fail
      refine (F1.out _).mono ?_
      rintro x z1 ⟨D1, cd1, rfl, h1, q1⟩
      have HH1 := Lib.hid h1
      have GG1 := Lib.hid (G1.out.below q1)
      have K2 := Lib.hid (Below.next K1.out (Below.next p1 q1))
      clear h1 p1 q1 G1
      go_wp2_with fail
      refine (same_yes B1 D1 cb1 cd1 X1 _ GG1.out HH1.out).mono ?_
      rintro x t1 ⟨rfl, rfl⟩
      go_wp2_with fail
      refine (E2.out _ (HR1.out.below K2.out)).mono ?_
      rintro x y2 ⟨B2, cb2, rfl, g2, p2⟩
      have G2 := Lib.hid g2
      clear g2
      go_wp2_with fail
      refine (F2.out _ (HR1.out.below (Below.next K2.out p2))).mono ?_
      rintro x z2 ⟨D2, cd2, rfl, h2, q2⟩
      have HH2 := Lib.hid h2
      have GG2 := Lib.hid (G2.out.below q2)
      have K3 := Lib.hid (Below.next K2.out (Below.next p2 q2))
      clear h2 p2 q2 G2
      go_wp2_with fail
      refine (same_yes B2 D2 cb2 cd2 X2 _ GG2.out HH2.out).mono ?_
      rintro x t2 ⟨rfl, rfl⟩
      go_wp2_with fail
      refine (E3.out _ (HR2.out.below K3.out)).mono ?_
      rintro x y3 ⟨B3, cb3, rfl, g3, p3⟩
      have G3 := Lib.hid g3
      clear g3
      go_wp2_with fail
      refine (F3.out _ (HR2.out.below (Below.next K3.out p3))).mono ?_
      rintro x z3 ⟨D3, cd3, rfl, h3, q3⟩
      have HH3 := Lib.hid h3
      have GG3 := Lib.hid (G3.out.below q3)
      have K4 := Lib.hid (Below.next K3.out (Below.next p3 q3))
      clear h3 p3 q3 G3
      go_wp2_with fail
      refine (same_yes B3 D3 cb3 cd3 X3 _ GG3.out HH3.out).mono ?_
      rintro x t3 ⟨rfl, rfl⟩
      go_wp2_with fail
      refine (E4.out _ (HR3.out.below K4.out)).mono ?_
      rintro x y4 ⟨B4, cb4, rfl, g4, p4⟩
      have G4 := Lib.hid g4
      clear g4
      go_wp2_with fail
      refine (F4.out _ (HR3.out.below (Below.next K4.out p4))).mono ?_
      rintro x z4 ⟨D4, cd4, rfl, h4, q4⟩
      have HH4 := Lib.hid h4
      have GG4 := Lib.hid (G4.out.below q4)
      have K5 := Lib.hid (Below.next K4.out (Below.next p4 q4))
      clear h4 p4 q4 G4
      go_wp2_with fail
      refine (same_yes B4 D4 cb4 cd4 X4 _ GG4.out HH4.out).mono ?_
      rintro x t4 ⟨rfl, rfl⟩
      go_wp2
      go_ret
      exact ⟨rfl, K5.out⟩
    · rw [decide_eq_false hl2] at HF
      clear hr1 hr2 hr3 hz hd
      go_enter Try.func3, Try.ntmps3
      go_wp2_with (first | (go_at_call 11; refine HF.out.mono ?_; rintro x w0 ⟨rfl, rfl⟩) | (go_at_call 12; refine (sanity_any _).mono ?_; rintro e w1 ⟨rfl, hb1⟩))
      go_ret
      exact ⟨rfl, hb1⟩
  · clear HF hr1 hr2 hr3 hz hd
    go_enter Try.func3, Try.ntmps3
    go_wp2_with (go_at_call 12; refine (sanity_any _).mono ?_; rintro e w1 ⟨rfl, hb1⟩)
    go_ret
    exact ⟨rfl, hb1⟩
end Go.Proofs.Ytpobblcokkgijaa
