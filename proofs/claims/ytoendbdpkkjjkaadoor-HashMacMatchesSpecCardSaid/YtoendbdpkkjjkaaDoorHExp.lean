/- Contract of Expand. -/
import Derived.Test.YtoendbdpkkjjkaaDoorHExpM
namespace Go.Proofs.YtoendbdpkkjjkaaDoor
open Go.RowKit Hm Wm

theorem bd_drew {T e : TypeId} {B b : Nat} {bs : List Value} {w : World} (h : Lib.IsBuilder T e B b bs w) : Lib.IsBuilder T e B b bs w.drew := h
theorem bd_next {T e : TypeId} {B b : Nat} {bs : List Value} {w w' : World} (h : Lib.IsBuilder T e B b bs w) (hb : Below w.heap.size w w') : Lib.IsBuilder T e B b bs w' := by
  have aux : ∀ p, Lib.BuilderAt T e B b p bs w → Lib.BuilderAt T e B b p bs w' := by
    rintro p ⟨hB, v, hbk, hown, hne⟩
    have hlt : b < w.heap.size := (Array.getElem?_eq_some_iff.1 hbk).1
    refine ⟨hB, v, (hb.block b hlt).trans hbk, ⟨hown.1, ?_⟩, hne⟩
    rcases hown.2 with hn | ⟨g, cap, cur, rfl, hbg, hg, rest⟩
    · exact .inl hn
    · exact .inr ⟨g, cap, cur, rfl, hbg, (hb.block g (Array.getElem?_eq_some_iff.1 hg).1).trans hg, rest⟩
  rcases h with h | h
  · exact .inl (aux _ h)
  · exact .inr (aux _ h)

set_option maxRecDepth 100000 in
set_option maxHeartbeats 2000000 in
theorem expand_any (seed : ByteArray) (N : Nat) (w : World) (hg : Glob w) (hs : seed.size ≤ 1000000) (h1 : 1 ≤ N) (h2 : N ≤ 1048576) :
    Calls Tryd.prog 31 #[.string seed, .int .i64 N] w fun e w' => e = .returned (.string ⟨(expand seed.data.toList N).toArray⟩) ∧ Below w.heap.size w w' := by
  have hg2 := hg.two
  have HG := Lib.hid hg
  have HSZ := Lib.hid hs
  have i1 : ¬ ((N : Int) < 1) := by omega
  have i2 : ¬ (1048576 < (N : Int)) := by omega
  have d1 : decide ((N : Int) < 1) = false := by simpa using i1
  have d2 : decide (1048576 < (N : Int)) = false := by simpa using i2
  clear hg hs
  go_enter Tryd.func31, Tryd.ntmps31
  go_wp2_with fail
  refine (keyedBy_any seed _ HG.out HSZ.out).mono ?_
  rintro e w2 ⟨ci, co, hci, hco, rfl, hb2⟩
  have N2 := Lib.hid (Blk.new w2 76 (zs ++ zs))
  have B2 := Lib.hid (hb2.alloc hb2.size (.cells (zs ++ zs).toArray 76))
  have G2 := Lib.hid ((HG.out.next hb2).next ((Below.refl w2.heap.size w2).alloc (Nat.le_refl _) (.cells (zs ++ zs).toArray 76)))
  have hsz2 : w.heap.size ≤ w2.heap.size := hb2.size
  have HCI := Lib.hid hci
  have HCO := Lib.hid hco
  clear hb2 hci hco
  go_wp2_with (first | (refine wpList_alloc_zero rfl 76 rfl (zs ++ zs) kd_zero ?_) | (refine wpList_store_all rfl _ (.tmp 5) (.tmp 16) rfl w2.heap.size _ (zs ++ zs) (ci ++ co) rfl rfl N2.out (by rw [kd_len HCI.out HCO.out, List.length_append, zs_len]) (by rw [kd_size, kd_len HCI.out HCO.out]) (kd_one HCI.out HCO.out) ?_; intro w3 HB3 ho3))
  obtain ⟨SD, hSD⟩ : ∃ SD, seed.data.toList = SD := ⟨_, rfl⟩
  rw [hSD] at HCI HCO
  have HSD := Lib.hid hSD
  have hs3 : w2.heap.size < w3.heap.size := HB3.out.lt
  have hfresh := Lib.fresh_isBuilder 82 5 w3
  have HF := Lib.hid hfresh
  have HBW := Lib.hid ((B2.out.trans (ho3.below hsz2)).alloc (by omega) (.cells #[.pointer none, .slice none 0 0] 82))
  have HKD := Lib.hid (HB3.out.alloc (.cells #[.pointer none, .slice none 0 0] 82))
  clear hfresh ho3 HB3 B2 N2 G2 hSD
  go_loopw [7] (fun i wr => ∃ k : Nat, i = .int .i64 k ∧ 32 * k ≤ N + 31 ∧ Hid (Lib.IsBuilder 82 5 w3.heap.size w3.heap.size (bc ((ex SD k).take N)) wr) ∧ Hid (Blk wr w2.heap.size 76 (ci ++ co)) ∧ Hid (Below w.heap.size w wr) ∧ w3.heap.size < wr.heap.size)
    (fun i _ => (N + 31) / 32 - (intOf i).toNat)
  case atStart => exact ⟨0, rfl, by omega, (by show Lib.IsBuilder _ _ _ _ _ _; rw [show bc ((ex SD 0).take N) = [] from by simp [ex, bc]]; exact HF.out), HKD.out, HBW.out, by simp⟩
  case round =>
    clear HF HKD HBW
    obtain ⟨k, rfl, hk, HU, HKD, HB, hsz⟩ := hrel
    by_cases hlt : 32 * k < N
    · obtain ⟨L, hL⟩ : ∃ L, (ex SD k).take N = L := ⟨_, rfl⟩
      have hLl : (bc L).length = 32 * k := by rw [bc_len, ← hL, List.length_take, ex_len]; omega
      have hstep := ex_step SD N k hlt
      rw [hL] at HU hstep
      obtain ⟨H, hH⟩ : ∃ H, Hm.hmac SD (enc k) = H := ⟨_, rfl⟩
      have hHl : H.length = 32 := by rw [← hH, hmac_len]
      rw [hH] at hstep
      have HST := Lib.hid hstep
      have HHL := Lib.hid hHl
      have HLL := Lib.hid hLl
      have hkb : (k : Int) ≤ 40000 := by omega
      have bk : ((32 * k : Nat) : Int) < (N : Int) := by omega
      clear hstep hHl hL
      go_wp2_with fail
      refine (bdLen_any w3.heap.size w3.heap.size (bc L) _ HU.out).mono ?_
      rintro e w' ⟨rfl, rfl⟩
      rw [hLl]
      obtain ⟨n0, hn0⟩ : ∃ n0, 32 * k = n0 := ⟨_, rfl⟩
      rw [hn0] at hLl bk HST hlt ⊢
      have HN0 := Lib.hid hn0
      have HLL2 := Lib.hid hLl
      clear hLl hn0 HLL
      go_wp2_with fail
      refine wp_region_held_drew (S := HeldS w w2.heap.size 76 (ci ++ co)) (by kernel_rfl) ⟨HKD.out.drew, HB.out.drew, (HG.out.next HB.out).drew⟩ (fun hS4 => ?_)
      have hU4 := bd_drew HU.out
      have hsz4 : w3.heap.size < wr.drew.heap.size := hsz
      have hbl4 := Below.refl wr.drew.heap.size wr.drew
      generalize wr.drew = w4 at hS4 hU4 hbl4 hsz4 ⊢
      clear HU HKD HB hsz
      refine reg_take (i := 0) (some 22) rfl rfl rfl (by kernel_rfl) (by kernel_rfl) (by kernel_rfl) (.agg (ci ++ co).toArray) (fun _ _ _ h => h) (fun W hW => exec_load 76 (.tmp 5) rfl _ _ rfl (load_kd hW HCI.out.len HCO.out.len)) hS4 ?_
      go_frame
      refine reg_take (i := 1) (some 23) rfl rfl rfl (by kernel_rfl) (by kernel_rfl) (by kernel_rfl) (.pointer (some ⟨w2.heap.size, 0, none⟩)) (fun _ _ _ h => h) (fun W _ => exec_fieldAddr 76 (.tmp 5) 0 rfl _ _ rfl (run_fieldAt_k0 W w2.heap.size)) hS4 ?_
      go_frame
      refine reg_take (i := 2) (some 24) rfl rfl rfl (by kernel_rfl) (by kernel_rfl) (by kernel_rfl) (.agg ci.toArray) (fun _ _ _ h => h) (fun W hW => exec_load 36 (.tmp 23) rfl _ _ rfl (load_ki hW HCI.out.len)) hS4 ?_
      go_frame
      refine reg_take (i := 3) (some 25) rfl rfl rfl (by kernel_rfl) (by kernel_rfl) (by kernel_rfl) (.int .i64 k) (fun _ _ _ h => h) (fun W _ => exec_move (.tmp 7) rfl _ rfl) hS4 ?_
      go_frame
      refine reg_two (i := 4) (k := 7) (by kernel_rfl) ?_ ?_
      · refine op_call (some 26) rfl rfl rfl rfl Tryd.func51 (by kernel_rfl) (by kernel_rfl) #[.int .i64 k] rfl (int_any k w4 (by omega) (by omega)) ?_
        rintro e w5 ⟨v4, rfl, ho4, hb5⟩
        obtain ⟨A4, c4, rfl, hr5, hc4⟩ := own_out ho4
        have hS5 := hS4.next hb5
        have hbl5 := hbl4.trans (hb5.mono hbl4.size)
        refine ⟨_, rfl, hS5, ?_⟩
        go_frame
        refine reg_two (i := 5) (k := 7) (by kernel_rfl) ?_ ?_
        · refine op_call (some 27) rfl rfl rfl rfl Tryd.func35 (by kernel_rfl) (by kernel_rfl) #[.agg ci.toArray, .slice A4 (enc k).length c4] rfl (addB ci _ A4 c4 (enc k) w5 HCI.out hS5.2.2 hr5 hc4 (by have := enc_le (n := (k : Int)) (by omega) (by omega); rw [xored_len, keyBlock_len]; omega)) ?_
          rintro e w6 ⟨c5, hc5, rfl, hb6⟩
          have hS6 := hS5.next hb6
          have hbl6 := hbl5.trans (hb6.mono hbl5.size)
          refine ⟨_, rfl, hS6, ?_⟩
          go_frame
          refine reg_two (i := 6) (k := 7) (by kernel_rfl) ?_ ?_
          · refine op_call (some 28) rfl rfl rfl rfl Tryd.func47 (by kernel_rfl) (by kernel_rfl) #[.agg (ci ++ co).toArray, .agg c5.toArray] rfl (keyedSum_any ci co c5 _ _ w6 HCI.out.len HCO.out hc5 hS6.2.2 (by rw [xored_len, keyBlock_len]; omega) (by have := enc_le (n := (k : Int)) (by omega) (by omega); rw [List.length_append, xored_len, keyBlock_len]; omega)) ?_
            rintro e w7 ⟨rfl, hb7⟩
            rw [hmac_def, hH]
            have hS7 := hS6.next hb7
            have hbl7 := hbl6.trans (hb7.mono hbl6.size)
            refine ⟨_, rfl, hS7, ?_⟩
            go_frame
            refine regH_one (i := 7) (by kernel_rfl) (op_alloc (some 8) rfl rfl rfl 24 rfl (zb 32) a32_zero ?_)
            have hba7 := (Below.refl w7.heap.size w7).alloc (Nat.le_refl _) (.cells (zb 32).toArray 24)
            have hS8 := hS7.next hba7
            have hbl8 := hbl7.trans (hba7.mono hbl7.size)
            have hg8 := Blk.new w7 24 (zb 32)
            refine ⟨hS8, ?_⟩
            go_frame
            generalize hgd : w7.heap.size = g at hg8 ⊢
            have hgc : w4.heap.size ≤ g := by (have := hbl7.size; omega)
            have hgb : w3.heap.size < g := by omega
            clear hgd
            generalize w7.alloc (.cells (zb 32).toArray 24) = w8 at hS8 hbl8 hg8 ⊢
            refine reg_store_all (i := 8) rfl rfl rfl (by kernel_rfl) 24 (.tmp 8) (.tmp 28) rfl g _ (zb 32) (bc H) rfl rfl hg8 (by rw [bc_len, zb_len, HHL.out]) (by rw [a32_size, bc_len, HHL.out]) (bc_one _) ?_
            intro w9 hb9 ho9
            refine ⟨hS8.only ho9 hg2 (by omega) (by omega), wpAnyH_done (by kernel_rfl) ?_ _⟩
            have E1 := Lib.hid (hbl8.trans (ho9.below (by omega)))
            have E2 := Lib.hid hb9
            have E3 := Lib.hid hgb
            go_frame
            have U9 := Lib.hid (bd_next hU4 E1.out)
            have KD9 := Lib.hid (hS4.1.next E1.out)
            have FB9 := Lib.hid (hS4.2.1.trans (E1.out.mono hS4.2.1.size))
            have hsz9 : w3.heap.size < w9.heap.size := by have := E1.out.size; omega
            have hgne : g ≠ w3.heap.size := by have := E3.out; omega
            obtain ⟨d, hd⟩ : ∃ d, N - n0 = d := ⟨_, rfl⟩
            obtain ⟨x, hx⟩ : ∃ x, H.take (min 32 d) = x := ⟨_, rfl⟩
            have hxl : x.length = min 32 d := by rw [← hx, List.length_take, HHL.out]; omega
            have hsub : (N : Int) - (n0 : Int) = (d : Int) := by omega
            have hd0 : 0 < d := by omega
            have hmin : min (32 : Int) (d : Int) = (x.length : Int) := by omega
            have hsl := fun (W : World) => run_slice_to 24 32 a32_under W g x.length (by omega)
            have HXL := Lib.hid hxl
            have HX := Lib.hid hx
            have HD := Lib.hid hd
            clear hd hx hxl
            go_wp2_with fail
            refine (bdLen_any w3.heap.size w3.heap.size (bc L) w9 U9.out).mono ?_
            rintro e w' ⟨rfl, rfl⟩
            rw [HLL2.out]
            go_wp2_with fail
            refine (bdWrite_any w3.heap.size w3.heap.size g 32 24 L x H w9 U9.out (by omega) E2.out hgne (by rw [← HX.out, List.length_take, HHL.out]; rw [List.take_eq_take_iff]; have := HHL.out; omega) (by have h1 := HXL.out; have h2 := HLL2.out; rw [bc_len] at h2; omega)).mono ?_
            rintro e w10 ⟨rfl, hbu, hb10⟩
            have hLx : L ++ x = (ex SD (k + 1)).take N := by (have h := HST.out; rw [HD.out, HX.out] at h; exact h)
            rw [hLx] at hbu
            have U10 : Hid (Lib.IsBuilder 82 5 w3.heap.size w3.heap.size (bc ((ex SD (k + 1)).take N)) w10) := Or.inr hbu
            have KD10 := Lib.hid (KD9.out.below hb10 (by omega))
            have FB10 := Lib.hid (FB9.out.trans (hb10.mono (by omega)))
            have hsz10 : w3.heap.size < w10.heap.size := Nat.lt_of_lt_of_le hsz9 hb10.size
            clear hb10 hbu hLx hsl hmin hsz9
            go_wp2
            go_roundw
            case rel => exact ⟨k + 1, by go_num, by have := HN0.out; omega, U10.out, KD10.out, FB10.out, hsz10⟩
            case measure => have := HN0.out; simp [intOf]; omega
          · refine op_alloc (some 8) rfl rfl rfl 24 rfl (zb 32) a32_zero ?_
            have hba6 := (Below.refl w6.heap.size w6).alloc (Nat.le_refl _) (.cells (zb 32).toArray 24)
            have hS7 := hS6.next hba6
            have hbl7 := hbl6.trans (hba6.mono hbl6.size)
            have hg7 := Blk.new w6 24 (zb 32)
            refine ⟨hS7, ?_⟩
            go_frame
            generalize hgd : w6.heap.size = g at hg7 ⊢
            have hgc : w4.heap.size ≤ g := by (have := hbl6.size; omega)
            have hgb : w3.heap.size < g := by omega
            clear hgd
            generalize w6.alloc (.cells (zb 32).toArray 24) = w7 at hS7 hbl7 hg7 ⊢
            refine regH_one (i := 6) (by kernel_rfl) (op_call (some 28) rfl rfl rfl rfl Tryd.func47 (by kernel_rfl) (by kernel_rfl) #[.agg (ci ++ co).toArray, .agg c5.toArray] rfl (keyedSum_any ci co c5 _ _ w7 HCI.out.len HCO.out hc5 hS7.2.2 (by rw [xored_len, keyBlock_len]; omega) (by have := enc_le (n := (k : Int)) (by omega) (by omega); rw [List.length_append, xored_len, keyBlock_len]; omega)) ?_)
            rintro e w8 ⟨rfl, hb8⟩
            rw [hmac_def, hH]
            have hS8 := hS7.next hb8
            have hbl8 := hbl7.trans (hb8.mono hbl7.size)
            have hg8 := hg7.next hb8
            refine ⟨_, rfl, hS8, ?_⟩
            go_frame
            refine reg_store_all (i := 8) rfl rfl rfl (by kernel_rfl) 24 (.tmp 8) (.tmp 28) rfl g _ (zb 32) (bc H) rfl rfl hg8 (by rw [bc_len, zb_len, HHL.out]) (by rw [a32_size, bc_len, HHL.out]) (bc_one _) ?_
            intro w9 hb9 ho9
            refine ⟨hS8.only ho9 hg2 (by omega) (by omega), wpAnyH_done (by kernel_rfl) ?_ _⟩
            have E1 := Lib.hid (hbl8.trans (ho9.below (by omega)))
            have E2 := Lib.hid hb9
            have E3 := Lib.hid hgb
            go_frame
            have U9 := Lib.hid (bd_next hU4 E1.out)
            have KD9 := Lib.hid (hS4.1.next E1.out)
            have FB9 := Lib.hid (hS4.2.1.trans (E1.out.mono hS4.2.1.size))
            have hsz9 : w3.heap.size < w9.heap.size := by have := E1.out.size; omega
            have hgne : g ≠ w3.heap.size := by have := E3.out; omega
            obtain ⟨d, hd⟩ : ∃ d, N - n0 = d := ⟨_, rfl⟩
            obtain ⟨x, hx⟩ : ∃ x, H.take (min 32 d) = x := ⟨_, rfl⟩
            have hxl : x.length = min 32 d := by rw [← hx, List.length_take, HHL.out]; omega
            have hsub : (N : Int) - (n0 : Int) = (d : Int) := by omega
            have hd0 : 0 < d := by omega
            have hmin : min (32 : Int) (d : Int) = (x.length : Int) := by omega
            have hsl := fun (W : World) => run_slice_to 24 32 a32_under W g x.length (by omega)
            have HXL := Lib.hid hxl
            have HX := Lib.hid hx
            have HD := Lib.hid hd
            clear hd hx hxl
            go_wp2_with fail
            refine (bdLen_any w3.heap.size w3.heap.size (bc L) w9 U9.out).mono ?_
            rintro e w' ⟨rfl, rfl⟩
            rw [HLL2.out]
            go_wp2_with fail
            refine (bdWrite_any w3.heap.size w3.heap.size g 32 24 L x H w9 U9.out (by omega) E2.out hgne (by rw [← HX.out, List.length_take, HHL.out]; rw [List.take_eq_take_iff]; have := HHL.out; omega) (by have h1 := HXL.out; have h2 := HLL2.out; rw [bc_len] at h2; omega)).mono ?_
            rintro e w10 ⟨rfl, hbu, hb10⟩
            have hLx : L ++ x = (ex SD (k + 1)).take N := by (have h := HST.out; rw [HD.out, HX.out] at h; exact h)
            rw [hLx] at hbu
            have U10 : Hid (Lib.IsBuilder 82 5 w3.heap.size w3.heap.size (bc ((ex SD (k + 1)).take N)) w10) := Or.inr hbu
            have KD10 := Lib.hid (KD9.out.below hb10 (by omega))
            have FB10 := Lib.hid (FB9.out.trans (hb10.mono (by omega)))
            have hsz10 : w3.heap.size < w10.heap.size := Nat.lt_of_lt_of_le hsz9 hb10.size
            clear hb10 hbu hLx hsl hmin hsz9
            go_wp2
            go_roundw
            case rel => exact ⟨k + 1, by go_num, by have := HN0.out; omega, U10.out, KD10.out, FB10.out, hsz10⟩
            case measure => have := HN0.out; simp [intOf]; omega
        · refine op_alloc (some 8) rfl rfl rfl 24 rfl (zb 32) a32_zero ?_
          have hba5 := (Below.refl w5.heap.size w5).alloc (Nat.le_refl _) (.cells (zb 32).toArray 24)
          have hS6 := hS5.next hba5
          have hbl6 := hbl5.trans (hba5.mono hbl5.size)
          have hg6 := Blk.new w5 24 (zb 32)
          have hr6 := hr5.below hba5
          refine ⟨hS6, ?_⟩
          go_frame
          generalize hgd : w5.heap.size = g at hg6 ⊢
          have hgc : w4.heap.size ≤ g := by (have := hbl5.size; omega)
          have hgb : w3.heap.size < g := by omega
          clear hgd
          generalize w5.alloc (.cells (zb 32).toArray 24) = w6 at hS6 hbl6 hg6 hr6 ⊢
          refine regH_one (i := 5) (by kernel_rfl) (op_call (some 27) rfl rfl rfl rfl Tryd.func35 (by kernel_rfl) (by kernel_rfl) #[.agg ci.toArray, .slice A4 (enc k).length c4] rfl (addB ci _ A4 c4 (enc k) w6 HCI.out hS6.2.2 hr6 hc4 (by have := enc_le (n := (k : Int)) (by omega) (by omega); rw [xored_len, keyBlock_len]; omega)) ?_)
          rintro e w7 ⟨c5, hc5, rfl, hb7⟩
          have hS7 := hS6.next hb7
          have hbl7 := hbl6.trans (hb7.mono hbl6.size)
          have hg7 := hg6.next hb7
          refine ⟨_, rfl, hS7, ?_⟩
          go_frame
          refine regH_one (i := 6) (by kernel_rfl) (op_call (some 28) rfl rfl rfl rfl Tryd.func47 (by kernel_rfl) (by kernel_rfl) #[.agg (ci ++ co).toArray, .agg c5.toArray] rfl (keyedSum_any ci co c5 _ _ w7 HCI.out.len HCO.out hc5 hS7.2.2 (by rw [xored_len, keyBlock_len]; omega) (by have := enc_le (n := (k : Int)) (by omega) (by omega); rw [List.length_append, xored_len, keyBlock_len]; omega)) ?_)
          rintro e w8 ⟨rfl, hb8⟩
          rw [hmac_def, hH]
          have hS8 := hS7.next hb8
          have hbl8 := hbl7.trans (hb8.mono hbl7.size)
          have hg8 := hg7.next hb8
          refine ⟨_, rfl, hS8, ?_⟩
          go_frame
          refine reg_store_all (i := 8) rfl rfl rfl (by kernel_rfl) 24 (.tmp 8) (.tmp 28) rfl g _ (zb 32) (bc H) rfl rfl hg8 (by rw [bc_len, zb_len, HHL.out]) (by rw [a32_size, bc_len, HHL.out]) (bc_one _) ?_
          intro w9 hb9 ho9
          refine ⟨hS8.only ho9 hg2 (by omega) (by omega), wpAnyH_done (by kernel_rfl) ?_ _⟩
          have E1 := Lib.hid (hbl8.trans (ho9.below (by omega)))
          have E2 := Lib.hid hb9
          have E3 := Lib.hid hgb
          go_frame
          have U9 := Lib.hid (bd_next hU4 E1.out)
          have KD9 := Lib.hid (hS4.1.next E1.out)
          have FB9 := Lib.hid (hS4.2.1.trans (E1.out.mono hS4.2.1.size))
          have hsz9 : w3.heap.size < w9.heap.size := by have := E1.out.size; omega
          have hgne : g ≠ w3.heap.size := by have := E3.out; omega
          obtain ⟨d, hd⟩ : ∃ d, N - n0 = d := ⟨_, rfl⟩
          obtain ⟨x, hx⟩ : ∃ x, H.take (min 32 d) = x := ⟨_, rfl⟩
          have hxl : x.length = min 32 d := by rw [← hx, List.length_take, HHL.out]; omega
          have hsub : (N : Int) - (n0 : Int) = (d : Int) := by omega
          have hd0 : 0 < d := by omega
          have hmin : min (32 : Int) (d : Int) = (x.length : Int) := by omega
          have hsl := fun (W : World) => run_slice_to 24 32 a32_under W g x.length (by omega)
          have HXL := Lib.hid hxl
          have HX := Lib.hid hx
          have HD := Lib.hid hd
          clear hd hx hxl
          go_wp2_with fail
          refine (bdLen_any w3.heap.size w3.heap.size (bc L) w9 U9.out).mono ?_
          rintro e w' ⟨rfl, rfl⟩
          rw [HLL2.out]
          go_wp2_with fail
          refine (bdWrite_any w3.heap.size w3.heap.size g 32 24 L x H w9 U9.out (by omega) E2.out hgne (by rw [← HX.out, List.length_take, HHL.out]; rw [List.take_eq_take_iff]; have := HHL.out; omega) (by have h1 := HXL.out; have h2 := HLL2.out; rw [bc_len] at h2; omega)).mono ?_
          rintro e w10 ⟨rfl, hbu, hb10⟩
          have hLx : L ++ x = (ex SD (k + 1)).take N := by (have h := HST.out; rw [HD.out, HX.out] at h; exact h)
          rw [hLx] at hbu
          have U10 : Hid (Lib.IsBuilder 82 5 w3.heap.size w3.heap.size (bc ((ex SD (k + 1)).take N)) w10) := Or.inr hbu
          have KD10 := Lib.hid (KD9.out.below hb10 (by omega))
          have FB10 := Lib.hid (FB9.out.trans (hb10.mono (by omega)))
          have hsz10 : w3.heap.size < w10.heap.size := Nat.lt_of_lt_of_le hsz9 hb10.size
          clear hb10 hbu hLx hsl hmin hsz9
          go_wp2
          go_roundw
          case rel => exact ⟨k + 1, by go_num, by have := HN0.out; omega, U10.out, KD10.out, FB10.out, hsz10⟩
          case measure => have := HN0.out; simp [intOf]; omega
      · refine op_alloc (some 8) rfl rfl rfl 24 rfl (zb 32) a32_zero ?_
        have hba4 := (Below.refl w4.heap.size w4).alloc (Nat.le_refl _) (.cells (zb 32).toArray 24)
        have hS5 := hS4.next hba4
        have hbl5 := hbl4.trans (hba4.mono hbl4.size)
        have hg5 := Blk.new w4 24 (zb 32)
        refine ⟨hS5, ?_⟩
        go_frame
        generalize hgd : w4.heap.size = g at hg5 ⊢
        have hgc : w4.heap.size ≤ g := by (have := hbl4.size; omega)
        have hgb : w3.heap.size < g := by omega
        clear hgd
        generalize w4.alloc (.cells (zb 32).toArray 24) = w5 at hS5 hbl5 hg5 ⊢
        refine regH_one (i := 4) (by kernel_rfl) (op_call (some 26) rfl rfl rfl rfl Tryd.func51 (by kernel_rfl) (by kernel_rfl) #[.int .i64 k] rfl (int_any k w5 (by omega) (by omega)) ?_)
        rintro e w6 ⟨v4, rfl, ho4, hb6⟩
        obtain ⟨A4, c4, rfl, hr6, hc4⟩ := own_out ho4
        have hS6 := hS5.next hb6
        have hbl6 := hbl5.trans (hb6.mono hbl5.size)
        have hg6 := hg5.next hb6
        refine ⟨_, rfl, hS6, ?_⟩
        go_frame
        refine regH_one (i := 5) (by kernel_rfl) (op_call (some 27) rfl rfl rfl rfl Tryd.func35 (by kernel_rfl) (by kernel_rfl) #[.agg ci.toArray, .slice A4 (enc k).length c4] rfl (addB ci _ A4 c4 (enc k) w6 HCI.out hS6.2.2 hr6 hc4 (by have := enc_le (n := (k : Int)) (by omega) (by omega); rw [xored_len, keyBlock_len]; omega)) ?_)
        rintro e w7 ⟨c5, hc5, rfl, hb7⟩
        have hS7 := hS6.next hb7
        have hbl7 := hbl6.trans (hb7.mono hbl6.size)
        have hg7 := hg6.next hb7
        refine ⟨_, rfl, hS7, ?_⟩
        go_frame
        refine regH_one (i := 6) (by kernel_rfl) (op_call (some 28) rfl rfl rfl rfl Tryd.func47 (by kernel_rfl) (by kernel_rfl) #[.agg (ci ++ co).toArray, .agg c5.toArray] rfl (keyedSum_any ci co c5 _ _ w7 HCI.out.len HCO.out hc5 hS7.2.2 (by rw [xored_len, keyBlock_len]; omega) (by have := enc_le (n := (k : Int)) (by omega) (by omega); rw [List.length_append, xored_len, keyBlock_len]; omega)) ?_)
        rintro e w8 ⟨rfl, hb8⟩
        rw [hmac_def, hH]
        have hS8 := hS7.next hb8
        have hbl8 := hbl7.trans (hb8.mono hbl7.size)
        have hg8 := hg7.next hb8
        refine ⟨_, rfl, hS8, ?_⟩
        go_frame
        refine reg_store_all (i := 8) rfl rfl rfl (by kernel_rfl) 24 (.tmp 8) (.tmp 28) rfl g _ (zb 32) (bc H) rfl rfl hg8 (by rw [bc_len, zb_len, HHL.out]) (by rw [a32_size, bc_len, HHL.out]) (bc_one _) ?_
        intro w9 hb9 ho9
        refine ⟨hS8.only ho9 hg2 (by omega) (by omega), wpAnyH_done (by kernel_rfl) ?_ _⟩
        have E1 := Lib.hid (hbl8.trans (ho9.below (by omega)))
        have E2 := Lib.hid hb9
        have E3 := Lib.hid hgb
        go_frame
        have U9 := Lib.hid (bd_next hU4 E1.out)
        have KD9 := Lib.hid (hS4.1.next E1.out)
        have FB9 := Lib.hid (hS4.2.1.trans (E1.out.mono hS4.2.1.size))
        have hsz9 : w3.heap.size < w9.heap.size := by have := E1.out.size; omega
        have hgne : g ≠ w3.heap.size := by have := E3.out; omega
        obtain ⟨d, hd⟩ : ∃ d, N - n0 = d := ⟨_, rfl⟩
        obtain ⟨x, hx⟩ : ∃ x, H.take (min 32 d) = x := ⟨_, rfl⟩
        have hxl : x.length = min 32 d := by rw [← hx, List.length_take, HHL.out]; omega
        have hsub : (N : Int) - (n0 : Int) = (d : Int) := by omega
        have hd0 : 0 < d := by omega
        have hmin : min (32 : Int) (d : Int) = (x.length : Int) := by omega
        have hsl := fun (W : World) => run_slice_to 24 32 a32_under W g x.length (by omega)
        have HXL := Lib.hid hxl
        have HX := Lib.hid hx
        have HD := Lib.hid hd
        clear hd hx hxl
        go_wp2_with fail
        refine (bdLen_any w3.heap.size w3.heap.size (bc L) w9 U9.out).mono ?_
        rintro e w' ⟨rfl, rfl⟩
        rw [HLL2.out]
        go_wp2_with fail
        refine (bdWrite_any w3.heap.size w3.heap.size g 32 24 L x H w9 U9.out (by omega) E2.out hgne (by rw [← HX.out, List.length_take, HHL.out]; rw [List.take_eq_take_iff]; have := HHL.out; omega) (by have h1 := HXL.out; have h2 := HLL2.out; rw [bc_len] at h2; omega)).mono ?_
        rintro e w10 ⟨rfl, hbu, hb10⟩
        have hLx : L ++ x = (ex SD (k + 1)).take N := by (have h := HST.out; rw [HD.out, HX.out] at h; exact h)
        rw [hLx] at hbu
        have U10 : Hid (Lib.IsBuilder 82 5 w3.heap.size w3.heap.size (bc ((ex SD (k + 1)).take N)) w10) := Or.inr hbu
        have KD10 := Lib.hid (KD9.out.below hb10 (by omega))
        have FB10 := Lib.hid (FB9.out.trans (hb10.mono (by omega)))
        have hsz10 : w3.heap.size < w10.heap.size := Nat.lt_of_lt_of_le hsz9 hb10.size
        clear hb10 hbu hLx hsl hmin hsz9
        go_wp2
        go_roundw
        case rel => exact ⟨k + 1, by go_num, by have := HN0.out; omega, U10.out, KD10.out, FB10.out, hsz10⟩
        case measure => have := HN0.out; simp [intOf]; omega
    · have hx := ex_take SD N k (by omega)
      rw [hx] at HU
      have HX := Lib.hid hx
      have hLl : (bc (expand SD N)).length = N := by rw [bc_len, expand_len]
      clear hx
      go_wp2_with fail
      refine (bdLen_any w3.heap.size w3.heap.size (bc (expand SD N)) _ HU.out).mono ?_
      rintro e w' ⟨rfl, rfl⟩
      rw [hLl]
      clear hLl
      go_wp2_with fail
      refine (bdString_any w3.heap.size w3.heap.size (expand SD N) wr HU.out (by omega)).mono ?_
      rintro e w5 ⟨rfl, hb5⟩
      have FB := Lib.hid (HB.out.trans (hb5.mono (by omega)))
      clear hb5
      go_wp2
      go_ret
      exact ⟨(show _ = _ by rw [HSD.out]; rfl), FB.out⟩
end Go.Proofs.YtoendbdpkkjjkaaDoor
