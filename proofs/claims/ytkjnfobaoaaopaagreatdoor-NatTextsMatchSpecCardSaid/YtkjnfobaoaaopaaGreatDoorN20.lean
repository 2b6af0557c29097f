/- divMod: the walk. -/
import Derived.Test.YtkjnfobaoaaopaaGreatDoorN19
import Derived.Deep.LoopGhost
namespace Go.Proofs.YtkjnfobaoaaopaaGreatDoor
open Go.RowKit Hm Wm Wn

theorem digW_top {M : Nat} (h : M ≠ 0) : ∃ top, (digW M)[(digW M).length - 1]? = some top ∧ 0 < top ∧ top < B := by
  obtain ⟨g1, _⟩ := digW_ge h
  have hk : (digW M).length - 1 < (digW M).length := by omega
  refine ⟨_, List.getElem?_eq_getElem hk, ?_, dig_digW M _ (List.getElem_mem hk)⟩
  have h2 := trim_digW M
  unfold Trim at h2
  rw [List.getLast?_eq_getElem?, List.getElem?_eq_getElem hk] at h2
  exact Nat.pos_of_ne_zero fun e => h2 (by rw [e])
section
variable {P : Program} {md : Region.Mode} {ops : Array Oper} {Q : Exit → Act → World → Prop} {S : Array Bool → World → Prop} {i j fuel : Nat} {listed : Array Bool} {a : Act} {w : World}
theorem late_two (hr : Region.ready md ops listed = [i, j]) (h : wpOp P ops Q i (fun a' w' => S (listed.setIfInBounds i true) w' ∧ wpAnyT P md ops Q S fuel (listed.setIfInBounds i true) a' w') a w)
    (h2 : wpOp P ops Q j (fun a' w' => S (listed.setIfInBounds j true) w' ∧ wpAnyT P md ops Q S fuel (listed.setIfInBounds j true) a' w') a w) : wpAnyT P md ops Q S (fuel + 1) listed a w :=
  ⟨fun h0 => (by rw [hr] at h0; cases h0), fun k hk => by
    rw [hr] at hk
    rcases List.mem_cons.1 hk with rfl | hk
    · exact h
    · obtain rfl : k = j := by simpa using hk
      exact h2⟩
end
theorem run_sub1I (n : Nat) (h : 0 < n) (h2 : n ≤ 1000000) (w : World) : (binOp .sub 3 (.int .i64 n) (.int .i64 1)).run Tryz.prog w = .ok (.int .i64 ((n - 1 : Nat) : Int)) w := by
  simp [binOp, go_sem]
  simp [IntKind.wrap, IntKind.bits, IntKind.signed]; omega
/-- The highest digit of a row that is not less than a power. -/
theorem top_pos {D : List Nat} {n : Nat} (hD : Dig D) (hl : D.length = n) (hn : 0 < n) (h : B ^ (n - 1) ≤ num D) : ∃ t, D[n - 1]? = some t ∧ 0 < t ∧ t < B := by
  have hk : n - 1 < D.length := by omega
  refine ⟨_, List.getElem?_eq_getElem hk, ?_, hD _ (List.getElem_mem hk)⟩
  refine Nat.pos_of_ne_zero fun e => ?_
  have g1 := (win_split D (n - 1) 0 (by omega)).2.2.2.1
  have g2 : D.drop (n - 1) = [0] := by rw [List.drop_eq_getElem_cons hk, List.drop_eq_nil_of_le (by omega), e]
  have g3 := num_lt (hD.take (n - 1))
  rw [List.length_take, Nat.min_eq_left (by omega)] at g3
  rw [g2] at g1
  simp only [num, Nat.mul_zero, Nat.add_zero] at g1
  omega
theorem rdW_take {w : World} {g : Nat} {t : TypeId} {l : List Nat} (k : Nat) (h : Blk w g t (ws l)) : RdW w (some ⟨g, 0, none⟩) (l.take k) := fun _ => ⟨g, 0, rfl, fun j u hu => by
  rw [Nat.zero_add, h.cell j]
  unfold ws at hu ⊢
  rw [List.getElem?_map] at hu ⊢
  rw [List.getElem?_take] at hu
  by_cases hj : j < k
  · rw [if_pos hj] at hu; exact hu
  · rw [if_neg hj] at hu; cases hu⟩
theorem cell_w {w : World} {g i v : Nat} {t : TypeId} {l : List Nat} (h : Blk w g t (ws l)) (hv : l[i]? = some v) : w.cell? ⟨g, i, none⟩ = some (.int .u64 (v : Int)) := by
  rw [h.cell i]
  unfold ws
  rw [List.getElem?_map, hv]
  rfl
/-- A slice that lies in memory made since. -/
def Fr (b : Nat) (v : Value) : Prop := ∀ (a : Addr) (n c : Nat), v = .slice (some a) n c → b ≤ a.block
set_option maxRecDepth 100000 in
set_option maxHeartbeats 1000000 in
theorem divMod_longF (A : Option Addr) (c : Nat) (X : List Nat) (A2 : Option Addr) (c2 : Nat) (Y : List Nat) (top : Nat) (w : World) (hr : RdW w A X) (hr2 : RdW w A2 Y) (hX : Dig X) (hY : Dig Y) (hn : 0 < Y.length) (ht : Y[Y.length - 1]? = some top) (ht0 : 0 < top) (htB : top < B) (hle : Y.length ≤ X.length) (hl : X.length ≤ 100000) :
    Calls Tryz.prog 33 #[.slice A X.length c, .slice A2 Y.length c2] w fun e w' => ∃ v1 v2, e = .returned (.tuple #[v1, v2]) ∧ NewW w' (num X / num Y) v1 ∧ NewW w' (num X % num Y) v2 ∧ Below w.heap.size w w' ∧ Fr w.heap.size v1 := by
  obtain ⟨s, hs0, hs, hb1, hb2⟩ := lz_bounds (y := top) (by omega) htB
  have hLZ := Tryz.bits_LeadingZeros64 (top : Int) w (by omega) (by unfold B at htB; omega)
  rw [Int.toNat_natCast, hs0] at hLZ
  have hk : Y.length - 1 < Y.length := by omega
  obtain ⟨b, off, rfl, hcell⟩ := hr2.cell hk
  rw [List.getElem?_eq_getElem hk] at ht
  rw [Option.some.inj ht] at hcell
  have HLZ := Lib.hid hLZ
  have HR := Lib.hid hr
  have HR2 := Lib.hid hr2
  have HX := Lib.hid hX
  have HY := Lib.hid hY
  have HT := Lib.hid (show Y[Y.length - 1]? = some top by rw [List.getElem?_eq_getElem hk, Option.some.inj ht])
  have HT0 := Lib.hid (And.intro ht0 htB)
  have HB2 := Lib.hid (And.intro hb1 hb2)
  have d1 : decide ((X.length : Int) < (Y.length : Int)) = false := decide_eq_false (by omega)
  have d1' : decide (X.length < Y.length) = false := decide_eq_false (by omega)
  clear hr hr2 hX hY ht ht0 htB hb1 hb2 hs0 hLZ
  go_enter Tryz.func33, Tryz.ntmps33
  go_wp2_with fail
  go_step3
  go_wp2_with fail
  refine HLZ.out.mono ?_
  rintro e w0 ⟨rfl, hw⟩
  obtain rfl : w = w0 := hw.symm
  go_wp2_with fail
  refine (up_any (some ⟨b, off, none⟩) c2 Y s w HR2.out HY.out (by omega) (by omega)).mono ?_
  rintro e w1 ⟨rfl, ⟨P, hP⟩, hb1⟩
  have HP := Lib.hid hP
  have HB1 := Lib.hid hb1
  clear hP hb1
  go_wp2_with (refine wpList_hiW rfl (.tmp 26) (.tmp 27) rfl (some ⟨w.heap.size, 0, none⟩) (Y.length + 1) (Y.length + 1) Y.length (by omega) (Nat.le_refl _) rfl rfl ?_)
  refine (up_any A c X s w1 (HR.out.next HB1.out) HX.out (by omega) hl).mono ?_
  rintro e w2 ⟨rfl, ⟨R, hR⟩, hb2⟩
  have HRR := Lib.hid hR
  have HBB := Lib.hid hb2
  clear hR hb2
  obtain ⟨k, hk2⟩ : ∃ k, X.length - Y.length + 1 = k := ⟨_, rfl⟩
  have HKE := Lib.hid (show (X.length : Int) - (Y.length : Int) + 1 = (k : Int) by omega)
  have hk100 : k ≤ 100001 := by omega
  go_wp2_with (refine wpList_makeW rfl (.tmp 36) (.tmp 36) rfl k (congrArg (Value.int .i64) HKE.out) (congrArg (Value.int .i64) HKE.out) (by omega) ?_; intro w3 HK3 HB3)
  go_step3
  go_wp2_with fail
  obtain ⟨g1, hg1⟩ : ∃ g1, w.heap.size = g1 := ⟨_, rfl⟩
  obtain ⟨g2, hg2⟩ : ∃ g2, w1.heap.size = g2 := ⟨_, rfl⟩
  obtain ⟨g3, hg3⟩ : ∃ g3, w2.heap.size = g3 := ⟨_, rfl⟩
  have hp0 := HP.out
  have hr0 := HRR.out
  have hq0 := HK3.out
  have hbA := HB1.out
  have hbB := HBB.out
  have hbC := HB3.out
  obtain ⟨p1, p2, p3, p4⟩ := hp0
  obtain ⟨r1, r2, r3, r4⟩ := hr0
  have hlt1 := p4.lt
  have hlt2 := r4.lt
  obtain ⟨v1, v2, v3, v4⟩ := dv_divisor HY.out hn HT.out HT0.out.1 HB2.out.2 (by omega) p1 p2
  have hst := DvI.start (s := s) HX.out v3 hn hle rfl r1 r3 r2
  rw [hk2] at hst
  have hS0 : DmS w X Y s g1 g2 g3 P R (zd k) k w3 := ⟨by rw [← hg1]; exact (p4.next hbB).next hbC, by rw [← hg2]; exact r4.next hbC, by rw [← hg3]; exact hq0, hst, (hbA.trans (hbB.mono hbA.size)).trans (hbC.mono (Nat.le_trans hbA.size hbB.size))⟩
  have hne : g1 < g2 ∧ g2 < g3 := ⟨by omega, by omega⟩
  have HNE := Lib.hid hne
  have HG1 := Lib.hid hg1
  have HDV := Lib.hid (And.intro v1 (And.intro v2 (And.intro v3 v4)))
  have HP3 := Lib.hid p3
  rw [hg1, hg2, hg3]
  have HS0 := Lib.hid hS0
  clear p1 p2 p3 p4 r1 r2 r3 r4 hq0 hbA hbB hbC hlt1 hlt2 v1 v2 v3 v4 hst hne hS0 HP HRR HK3 HB1 HBB HB3 hg2 hg3 hw hcell HLZ d1 d1'
  clear hg1
  go_loopg [9, 10] k (fun g iv _ wr => ∃ R Q, iv = .int .i64 ((g : Int) - 1) ∧ g ≤ k ∧ Hid (DmS w X Y s g1 g2 g3 P R Q g wr))
  case atStart => exact ⟨R, zd k, rfl, Nat.le_refl _, HS0⟩
  case round =>
    obtain ⟨R, Q, rfl, hgk, HS⟩ := hrel
    cases gk with
    | zero =>
      have hS := HS.out
      have hql := hS.st.ql
      have hrl := hS.st.rl
      rw [hk2] at hql
      obtain ⟨q1, q2⟩ := hS.st.done rfl (by omega)
      have hdg := hS.st.rd
      have hqd := hS.st.qd
      have ht1 := trim_any (some ⟨g3, 0, none⟩) k Q wr (rdW_blk hS.b3) hqd (by omega) (by omega)
      have hd1 := down_any g2 (X.length + 1) R s wr hS.b2 hdg (by omega) (by omega)
      rw [hql] at ht1
      rw [hrl] at hd1
      have hdl := dnL_len R s
      rw [hrl] at hdl
      have HT1 := Lib.hid ht1
      have HD1 := Lib.hid hd1
      have HQR := Lib.hid (RdW.trim (rdW_blk hS.b3) hqd)
      have HQL := Lib.hid (show (digW (num Q)).length ≤ k by have h := digW_len (num_lt hqd); omega)
      have HDL := Lib.hid hdl
      have HQ1 := Lib.hid q1
      have HQ2 := Lib.hid q2
      have HDD := Lib.hid (dnL_dig R s (by omega) hdg)
      have HBW := Lib.hid hS.below
      have HW2 := Lib.hid (show w.heap.size ≤ g2 by have := HNE.out; have := HG1.out; omega)
      clear hS hql hrl q1 q2 hdg hqd ht1 hd1 hdl HS
      go_wp2_with fail
      refine HT1.out.mono ?_
      rintro e w4 ⟨rfl, hw⟩
      obtain rfl : wr = w4 := hw.symm
      go_wp2_with fail
      refine HD1.out.mono ?_
      rintro e w5 ⟨rfl, hk5, ho5⟩
      have ht2 := trim_any (some ⟨g2, 0, none⟩) (X.length + 1) (dnL R s) w5 (rdW_blk hk5) HDD.out (by rw [HDL.out]; exact Nat.le_refl _) (by rw [HDL.out]; omega)
      rw [HDL.out] at ht2
      have HT2 := Lib.hid ht2
      have HV1 := Lib.hid (show NewW w5 (num X / num Y) (.slice (some ⟨g3, 0, none⟩) (digW (num Q)).length k) by
        rw [← HQ1.out]
        exact ⟨_, _, rfl, HQR.out.only ho5 (.inr fun a ha => by cases ha; show g3 ≠ g2; have := HNE.out.2; omega), HQL.out⟩)
      have HV2 := Lib.hid (show NewW w5 (num X % num Y) (.slice (some ⟨g2, 0, none⟩) (digW (num (dnL R s))).length (X.length + 1 : Nat)) by
        rw [← HQ2.out]
        exact ⟨_, _, rfl, RdW.trim (rdW_blk hk5) HDD.out, by have h := digW_len (num_lt HDD.out); rw [HDL.out] at h; exact h⟩)
      have HB5 := Lib.hid (HBW.out.trans (ho5.below HW2.out))
      clear hk5 ho5 ht2
      go_wp2_with fail
      refine HT2.out.mono ?_
      rintro e w6 ⟨rfl, hw⟩
      obtain rfl : w5 = w6 := hw.symm
      go_wp2_with fail
      rw [Exit.noGoto_ret]
      go_ret2
      exact ⟨_, _, rfl, HV1.out, HV2.out, HB5.out, fun a n c h => by cases h; show w.heap.size ≤ g3; have := HNE.out; have := HW2.out; omega⟩
    | succ i =>
      rw [show ((i + 1 : Nat) : Int) - 1 = (i : Int) by omega]
      have hS := HS.out
      have hql := hS.st.ql
      have hrl := hS.st.rl
      obtain ⟨v1, v2, v3, v4⟩ := HDV.out
      have hin : i + (Y.length + 1) ≤ R.length := by rw [hrl]; omega
      obtain ⟨e1, e2, e3⟩ := hS.st.digit hin v4
      obtain ⟨s1, s2, s3, _, _⟩ := win_split R i (Y.length + 1) hin
      have hVd : Dig ((R.drop i).take (Y.length + 1)) := (hS.st.rd.drop i).take _
      have hDd : Dig (P.take Y.length) := HP3.out.take _
      have hvx : ∀ j, j < Y.length + 1 → ((R.drop i).take (Y.length + 1))[j]? = R[i + j]? := fun j hj => by rw [List.getElem?_take, if_pos hj, List.getElem?_drop]
      have hdx : (P.take Y.length)[Y.length - 1]? = P[Y.length - 1]? := by rw [List.getElem?_take, if_pos (by omega)]
      obtain ⟨n, hnn⟩ : ∃ n, Y.length = n := ⟨_, rfl⟩
      rw [hnn] at hin e1 e2 e3 s2 s3 hVd hDd hvx hdx v1 v2 v3 v4 hn
      obtain ⟨V, hV⟩ : ∃ V, (R.drop i).take (n + 1) = V := ⟨_, rfl⟩
      obtain ⟨D, hD⟩ : ∃ D, P.take n = D := ⟨_, rfl⟩
      obtain ⟨d, hd⟩ : ∃ d, num Y * 2 ^ s = d := ⟨_, rfl⟩
      rw [hd] at e1 v2 v4
      rw [hV] at e1 e2 s2 s3 hVd hvx
      rw [hD] at v1 v2 hDd hdx
      have hdp : B ^ (n - 1) ≤ d := by rw [← hd]; exact Nat.le_trans v3 (Nat.le_mul_of_pos_right _ (Nat.two_pow_pos s))
      have hd0 : 0 < d := Nat.lt_of_lt_of_le (Nat.pow_pos B_pos) hdp
      obtain ⟨tp, ht1, ht2, ht3⟩ := top_pos hDd v1 hn (by rw [v2]; exact hdp)
      have hhi : n < V.length := by omega
      have hlo : n - 1 < V.length := by omega
      obtain ⟨hi, hhe⟩ : ∃ x, V[n]? = some x := ⟨_, List.getElem?_eq_getElem hhi⟩
      obtain ⟨lo, hle2⟩ : ∃ x, V[n - 1]? = some x := ⟨_, List.getElem?_eq_getElem hlo⟩
      obtain ⟨f1, f2⟩ := dv_guess hVd s2 hn hhe hle2 v1 v2 ht1 ht2 e1
      have hgu := fun W => guess_any hi lo tp W ht3 (hVd _ (List.mem_of_getElem? hle2))
      obtain ⟨f, hf⟩ : ∃ f, guessN hi lo tp = f := ⟨_, rfl⟩
      rw [hf] at f1 f2 hgu
      have hc1 : R[i + n]? = some hi := by rw [← hvx n (by omega)]; exact hhe
      have hc2 : R[i + (n - 1)]? = some lo := by rw [← hvx (n - 1) (by omega)]; exact hle2
      have hc3 : P[n - 1]? = some tp := by rw [← hdx]; exact ht1
      have HC1 := Lib.hid hc1
      have HC2 := Lib.hid hc2
      have HC3 := Lib.hid hc3
      have HGU := Lib.hid hgu
      have HF := Lib.hid (And.intro f1 f2)
      have HN := Lib.hid hnn
      have HQL := Lib.hid (show i < Q.length by rw [hql]; omega)
      have HRL := Lib.hid hrl
      have hnX : n ≤ X.length := by omega
      have hik : i + n ≤ X.length := by omega
      have HEQ := Lib.hid (And.intro hV (And.intro hD hd))
      have HV0 := Lib.hid (And.intro hVd (And.intro s2 e1))
      have HD0 := Lib.hid (And.intro hDd (And.intro v1 v2))
      have HR3 := Lib.hid s3
      have HDB := Lib.hid (And.intro hd0 v4)
      have HB0 := Lib.hid (And.intro hS.b1 (And.intro hS.b2 hS.b3))
      have HSZ := Lib.hid (show i + n + 1 - i = n + 1 by omega)
      rw [hnn]
      rw [hnn] at hle hk
      clear hS hql hrl v1 v2 v3 v4 hin e1 e2 e3 s1 s2 s3 hVd hDd hvx hdx hV hD hd hdp hd0 ht1 ht2 ht3 hhi hlo hhe hle2 f1 f2 hgu hf hc1 hc2 hc3
      go_wp2_with (refine wpList_midW rfl (.tmp 45) (.tmp 46) (.tmp 50) rfl g2 (X.length + 1) (X.length + 1) i (i + n + 1) (by omega) (by omega) (by omega) rfl rfl (by go_num) ?_; rw [HSZ.out])
      have HKI := Lib.hid (show i < k by omega)
      refine late_begin (S := TillQ 18 (fun W => Blk W g1 53 (ws P) ∧ Blk W g2 53 (ws R) ∧ Blk W g3 53 (ws Q))) (by kernel_rfl) ?_
      have hS1 : Blk wr.drew g1 53 (ws P) ∧ Blk wr.drew g2 53 (ws R) ∧ Blk wr.drew g3 53 (ws Q) := HB0.out
      have hB1 := (Below.refl wr.heap.size wr).drew
      generalize wr.drew = u1 at hS1 hB1 ⊢
      have hS0 : ∀ {L}, TillQ 18 (fun W => Blk W g1 53 (ws P) ∧ Blk W g2 53 (ws R) ∧ Blk W g3 53 (ws Q)) L u1 := fun _ => hS1
      refine late_take [18] (i := 0) (some 52) rfl rfl rfl (by kernel_rfl) (by kernel_rfl) (by kernel_rfl) (by kernel_rfl) (by kernel_rfl) (fun Ls W h => h.off (by decide)) (.slice (some ⟨g3, 0, none⟩) k k) (fun _ _ _ h => h) (fun Ls W hl0 hW => exec_move (.tmp 4) rfl _ rfl) hS0 hS0 ?_
      go_frame
      refine late_take [18] (i := 1) (some 53) rfl rfl rfl (by kernel_rfl) (by kernel_rfl) (by kernel_rfl) (by kernel_rfl) (by kernel_rfl) (fun Ls W h => h.off (by decide)) (.int .i64 i) (fun _ _ _ h => h) (fun Ls W hl0 hW => exec_move (.tmp 9) rfl _ rfl) hS0 hS0 ?_
      go_frame
      refine late_take [18] (i := 2) (some 54) rfl rfl rfl (by kernel_rfl) (by kernel_rfl) (by kernel_rfl) (by kernel_rfl) (by kernel_rfl) (fun Ls W h => h.off (by decide)) (.slice (some ⟨g2, i, none⟩) (n + 1 : Nat) (X.length + 1 - i : Nat)) (fun _ _ _ h => h) (fun Ls W hl0 hW => exec_move (.tmp 10) rfl _ rfl) hS0 hS0 ?_
      go_frame
      refine late_take [18] (i := 3) (some 55) rfl rfl rfl (by kernel_rfl) (by kernel_rfl) (by kernel_rfl) (by kernel_rfl) (by kernel_rfl) (fun Ls W h => h.off (by decide)) (.int .i64 n) (fun _ _ _ h => h) (fun Ls W hl0 hW => exec_move (.tmp 6) rfl _ rfl) hS0 hS0 ?_
      go_frame
      refine late_take [18] (i := 4) (some 56) rfl rfl rfl (by kernel_rfl) (by kernel_rfl) (by kernel_rfl) (by kernel_rfl) (by kernel_rfl) (fun Ls W h => h.off (by decide)) (.pointer (some ⟨g2, i + n, none⟩)) (fun _ _ _ h => h) (fun Ls W hl0 hW => exec_atW (.tmp 54) (.tmp 55) rfl g2 i (n + 1) (X.length + 1 - i) n (by omega) rfl rfl) hS0 hS0 ?_
      go_frame
      refine late_take [18] (i := 5) (some 57) rfl rfl rfl (by kernel_rfl) (by kernel_rfl) (by kernel_rfl) (by kernel_rfl) (by kernel_rfl) (fun Ls W h => h.off (by decide)) (.int .u64 (hi : Int)) (fun _ _ _ h => h) (fun Ls W hl0 hW => exec_loadW (.tmp 56) rfl hi rfl (cell_w (hW (hl0 18 (by simp))).2.1 HC1.out)) hS0 hS0 ?_
      go_frame
      refine late_take [18] (i := 6) (some 58) rfl rfl rfl (by kernel_rfl) (by kernel_rfl) (by kernel_rfl) (by kernel_rfl) (by kernel_rfl) (fun Ls W h => h.off (by decide)) (.slice (some ⟨g2, i, none⟩) (n + 1 : Nat) (X.length + 1 - i : Nat)) (fun _ _ _ h => h) (fun Ls W hl0 hW => exec_move (.tmp 10) rfl _ rfl) hS0 hS0 ?_
      go_frame
      refine late_take [18] (i := 7) (some 59) rfl rfl rfl (by kernel_rfl) (by kernel_rfl) (by kernel_rfl) (by kernel_rfl) (by kernel_rfl) (fun Ls W h => h.off (by decide)) (.int .i64 n) (fun _ _ _ h => h) (fun Ls W hl0 hW => exec_move (.tmp 6) rfl _ rfl) hS0 hS0 ?_
      go_frame
      refine late_take [18] (i := 8) (some 60) rfl rfl rfl (by kernel_rfl) (by kernel_rfl) (by kernel_rfl) (by kernel_rfl) (by kernel_rfl) (fun Ls W h => h.off (by decide)) (.int .i64 ((n - 1 : Nat) : Int)) (fun _ _ _ h => h) (fun Ls W hl0 hW => exec_bin .sub 3 _ (.tmp 59) (.const (.int .i64 1)) rfl _ _ _ rfl rfl rfl (run_sub1I n hn (by omega) W)) hS0 hS0 ?_
      go_frame
      refine late_take [18] (i := 9) (some 61) rfl rfl rfl (by kernel_rfl) (by kernel_rfl) (by kernel_rfl) (by kernel_rfl) (by kernel_rfl) (fun Ls W h => h.off (by decide)) (.pointer (some ⟨g2, i + (n - 1), none⟩)) (fun _ _ _ h => h) (fun Ls W hl0 hW => exec_atW (.tmp 58) (.tmp 60) rfl g2 i (n + 1) (X.length + 1 - i) (n - 1) (by omega) rfl rfl) hS0 hS0 ?_
      go_frame
      refine late_take [18] (i := 10) (some 62) rfl rfl rfl (by kernel_rfl) (by kernel_rfl) (by kernel_rfl) (by kernel_rfl) (by kernel_rfl) (fun Ls W h => h.off (by decide)) (.int .u64 (lo : Int)) (fun _ _ _ h => h) (fun Ls W hl0 hW => exec_loadW (.tmp 61) rfl lo rfl (cell_w (hW (hl0 18 (by simp))).2.1 HC2.out)) hS0 hS0 ?_
      go_frame
      refine late_take [18] (i := 11) (some 63) rfl rfl rfl (by kernel_rfl) (by kernel_rfl) (by kernel_rfl) (by kernel_rfl) (by kernel_rfl) (fun Ls W h => h.off (by decide)) (.slice (some ⟨g1, 0, none⟩) n (n + 1 : Nat)) (fun _ _ _ h => h) (fun Ls W hl0 hW => exec_move (.tmp 8) rfl _ rfl) hS0 hS0 ?_
      go_frame
      refine late_take [18] (i := 12) (some 64) rfl rfl rfl (by kernel_rfl) (by kernel_rfl) (by kernel_rfl) (by kernel_rfl) (by kernel_rfl) (fun Ls W h => h.off (by decide)) (.int .i64 n) (fun _ _ _ h => h) (fun Ls W hl0 hW => exec_move (.tmp 6) rfl _ rfl) hS0 hS0 ?_
      go_frame
      refine late_take [18] (i := 13) (some 65) rfl rfl rfl (by kernel_rfl) (by kernel_rfl) (by kernel_rfl) (by kernel_rfl) (by kernel_rfl) (fun Ls W h => h.off (by decide)) (.int .i64 ((n - 1 : Nat) : Int)) (fun _ _ _ h => h) (fun Ls W hl0 hW => exec_bin .sub 3 _ (.tmp 64) (.const (.int .i64 1)) rfl _ _ _ rfl rfl rfl (run_sub1I n hn (by omega) W)) hS0 hS0 ?_
      go_frame
      refine late_take [18] (i := 14) (some 66) rfl rfl rfl (by kernel_rfl) (by kernel_rfl) (by kernel_rfl) (by kernel_rfl) (by kernel_rfl) (fun Ls W h => h.off (by decide)) (.pointer (some ⟨g1, 0 + (n - 1), none⟩)) (fun _ _ _ h => h) (fun Ls W hl0 hW => exec_atW (.tmp 63) (.tmp 65) rfl g1 0 n (n + 1) (n - 1) (by omega) rfl rfl) hS0 hS0 ?_
      go_frame
      refine late_take [18] (i := 15) (some 67) rfl rfl rfl (by kernel_rfl) (by kernel_rfl) (by kernel_rfl) (by kernel_rfl) (by kernel_rfl) (fun Ls W h => h.off (by decide)) (.int .u64 (tp : Int)) (fun _ _ _ h => h) (fun Ls W hl0 hW => exec_loadW (.tmp 66) rfl tp rfl (by rw [Nat.zero_add]; exact cell_w (hW (hl0 18 (by simp))).1 HC3.out)) hS0 hS0 ?_
      go_frame
      refine late_one (i := 16) (by kernel_rfl) (op_call (some 68) rfl rfl rfl rfl Tryz.func59 (by kernel_rfl) (by kernel_rfl) #[.int .u64 hi, .int .u64 lo, .int .u64 tp] rfl (HGU.out u1) ?_)
      rintro e u2 ⟨rfl, hb2⟩
      have hB2 := hB1.trans (hb2.mono hB1.size)
      have hS2 : Blk u2 g1 53 (ws P) ∧ Blk u2 g2 53 (ws R) ∧ Blk u2 g3 53 (ws Q) := ⟨hS1.1.next hb2, hS1.2.1.next hb2, hS1.2.2.next hb2⟩
      clear hS0 hS1 hB1 hb2
      refine ⟨_, rfl, fun _ => hS2, ?_⟩
      go_frame
      refine late_one (i := 17) (by kernel_rfl) (op_value (some 69) rfl rfl rfl (.pointer (some ⟨g3, 0 + i, none⟩)) (exec_atW (.tmp 52) (.tmp 53) rfl g3 0 k k i HKI.out rfl rfl) ⟨fun _ => hS2, ?_⟩)
      go_frame
      refine late_one (i := 18) (by kernel_rfl) (op_wp rfl rfl (wp_store_w (.tmp 69) (.tmp 68) rfl g3 (0 + i) 53 Q f rfl rfl hS2.2.2 (by rw [Nat.zero_add]; exact HQL.out) (fun w6 hk6 ho6 => ⟨fun h => absurd h (by decide), late_done (by kernel_rfl) ?_ _⟩)))
      go_frame
      rw [Nat.zero_add] at hk6
      have HK6 := Lib.hid hk6
      have HK1 := Lib.hid (ho6.block g1 (by have := HNE.out; omega))
      have HK2 := Lib.hid (ho6.block g2 (by have := HNE.out; omega))
      have hk1 : Blk w6 g1 53 (ws P) := HK1.out.trans hS2.1
      have hk2 : Blk w6 g2 53 (ws R) := HK2.out.trans hS2.2.1
      obtain ⟨eV, eD, ed⟩ := HEQ.out
      obtain ⟨hVd, s2, e1⟩ := HV0.out
      obtain ⟨hDd, z1, z2⟩ := HD0.out
      obtain ⟨hd0, hdB⟩ := HDB.out
      obtain ⟨f1, f2⟩ := HF.out
      have hg3 : w.heap.size ≤ g3 := by have := HNE.out; have := HG1.out; omega
      have hB6 := (HS.out.below.trans (hB2.mono HS.out.below.size)).trans (ho6.below hg3)
      have hrd : RdW w6 (some ⟨g1, 0, none⟩) D := by rw [← eD]; exact rdW_take n hk1
      have h3 := HR3.out
      have hk2b := hk2
      rw [h3] at hk2b
      have hst := subT_any g2 (R.take i) V (R.drop (i + (n + 1))) D (X.length + 1 - i) (some ⟨g1, 0, none⟩) (n + 1) f w6 hk2b hrd (.inr fun a ha => by cases ha; show g1 ≠ g2; have := HNE.out.1; omega) hVd hDd f2 (by omega)
      have hti : (R.take i).length = i := by rw [List.length_take, HRL.out]; omega
      rw [hti, s2, z1] at hst
      obtain ⟨m1, m2, m3, m4⟩ := dv_sub hVd s2 z1 z2 hd0 hdB f2 f1 rfl
      obtain ⟨V2, hV2⟩ : ∃ V2, (subTL V D f 0).1 = V2 := ⟨_, rfl⟩
      obtain ⟨bo, hbo⟩ : ∃ bo, (subTL V D f 0).2 = bo := ⟨_, rfl⟩
      rw [hV2, hbo] at hst
      rw [hV2] at m1 m2 m3 m4
      rw [hbo] at m3 m4
      have hcq : w6.cell? ⟨g3, i, none⟩ = some (.int .u64 (f : Int)) := cell_w hk6 (by rw [List.getElem?_set_self HQL.out])
      have HST := Lib.hid hst
      have HM := Lib.hid (And.intro m1 (And.intro m2 (And.intro m3 m4)))
      have HB6 := Lib.hid hB6
      have HK61 := Lib.hid hk1
      have HOW := Lib.hid (fun (w7 : World) (h : Only g2 w6 w7) => And.intro ((h.block g1 (by have := HNE.out; omega)).trans hk1) ((h.block g3 (by have := HNE.out; omega)).trans hk6))
      clear hk1 hk2 hk2b eV eD ed hVd s2 e1 hDd z1 z2 hd0 hdB f1 f2 hg3 hB6 hrd h3 hst hti m1 m2 m3 m4 hV2 hbo hS2 hB2 ho6 hk6 HK1 HK2
      go_wp2_with fail
      refine HST.out.mono ?_
      rintro e w7 ⟨rfl, hk7, ho7⟩
      have HK7 := Lib.hid hk7
      have HO7 := Lib.hid (HOW.out w7 ho7)
      have HB7 := Lib.hid (HB6.out.trans (ho7.below (by have := HNE.out; have := HG1.out; omega)))
      clear hk7 ho7 HOW HST HB6
      by_cases hb0 : bo = 0
      · subst hb0
        go_wp2_with fail
        have hpl : DvI X Y s (num Y * 2 ^ s) (R.take i ++ V2 ++ R.drop (i + (n + 1))) (Q.set i f) i := by
          obtain ⟨eV, _, ed⟩ := HEQ.out
          have h := HS.out.st
          rw [ed] at h ⊢
          obtain ⟨a1, a2, a3⟩ := HM.out.2.2.1 trivial
          rw [← a1] at a3
          exact h.place (by rw [HRL.out]; omega) HDB.out.2 HM.out.1 HM.out.2.1 a2 HF.out.2 (by rw [eV]; exact a3)
        have HPL := Lib.hid (show DmS w X Y s g1 g2 g3 P (R.take i ++ V2 ++ R.drop (i + (n + 1))) (Q.set i f) i w7 from ⟨HO7.out.1, HK7.out, HO7.out.2, hpl, HB7.out⟩)
        clear hpl
        have hnn := HN.out
        subst hnn
        go_roundg i
        case measure => omega
        case rel => exact ⟨_, _, rfl, by omega, HPL⟩
      · have c0 : ((bo : Int) == 0) = false := by simp; omega
        have c0' : decide (bo = 0) = false := decide_eq_false hb0
        have hnn := HN.out
        subst hnn
        have hdb : DmB w X Y s g1 g2 g3 i P R Q V2 f w7 := by
          obtain ⟨eV, _, ed⟩ := HEQ.out
          obtain ⟨a1, a2⟩ := HM.out.2.2.2 hb0
          exact ⟨HO7.out.1, HK7.out, HO7.out.2, HS.out.st, HB7.out, HM.out.1, HM.out.2.1, by rw [ed, eV]; exact a1, by rw [ed, eV]; exact a2, HF.out.2⟩
        have HDB0 := Lib.hid hdb
        clear hdb hb0 HK7 HO7 HB7 HM
        go_wp2_with fail
        go_loopg [87] f (fun g _ wx => ∃ V3, Hid (DmB w X Y s g1 g2 g3 i P R Q V3 g wx))
        case atStart => exact ⟨V2, HDB0⟩
        case round =>
          obtain ⟨V3, HD3⟩ := hrel
          cases gk with
          | zero => exact absurd HD3.out.qf (Nat.not_lt_zero _)
          | succ g =>
            have hd3 := HD3.out
            have hgB := hd3.fB
            unfold B at hgB
            have hcq := cell_w hd3.b3 (show (Q.set i (g + 1))[i]? = some (g + 1) by rw [List.getElem?_set_self HQL.out])
            have HSU := Lib.hid (fun W => run_subW (g + 1) 1 g W (by unfold B; omega) (by unfold B; omega))
            have HB3 := Lib.hid hd3.b3
            have HLN := Lib.hid (show i < (Q.set i (g + 1)).length by rw [List.length_set]; exact HQL.out)
            clear hd3
            go_wp2_with (first | (refine wpList_dst 82 rfl ?_; refine wpList_run 82 rfl rfl _ (exec_bin .sub 53 _ (.tmp 81) (.const (.int .u64 1)) rfl _ _ _ rfl rfl rfl (HSU.out _)) ?_) | (refine wpList_store_w rfl (.tmp 83) (.tmp 82) rfl g3 i _ (Q.set i (g + 1)) g rfl rfl HB3.out HLN.out ?_; intro w8 HB8 ho8; have HO8 := Lib.hid ho8; clear ho8))
            have hd3 := HD3.out
            have hk8 : Blk w8 g3 53 (ws (Q.set i g)) := by have h := HB8.out; rwa [List.set_set] at h
            have hk1 : Blk w8 g1 53 (ws P) := (HO8.out.block g1 (by have := HNE.out; omega)).trans hd3.b1
            have hk2 : Blk w8 g2 53 (ws (R.take i ++ V3 ++ R.drop (i + (Y.length + 1)))) := (HO8.out.block g2 (by have := HNE.out; omega)).trans hd3.b2
            obtain ⟨eV, eD, ed⟩ := HEQ.out
            obtain ⟨hDd, z1, z2⟩ := HD0.out
            obtain ⟨hd0, hdB⟩ := HDB.out
            have hrd : RdW w8 (some ⟨g1, 0, none⟩) D := by rw [← eD]; exact rdW_take _ hk1
            have hat := addT_any g2 (R.take i) V3 (R.drop (i + (Y.length + 1))) D (X.length + 1 - i) (some ⟨g1, 0, none⟩) (Y.length + 1) 1 w8 hk2 hrd (.inr fun a ha => by cases ha; show g1 ≠ g2; have := HNE.out.1; omega) hd3.vd hDd (by unfold B; omega) (by rw [hd3.vl]; omega)
            have hti : (R.take i).length = i := by rw [List.length_take, HRL.out]; omega
            rw [hti, hd3.vl, z1] at hat
            obtain ⟨m1, m2, m3, m4⟩ := dv_back (W := num V) (q := num V / d) hd3.vd hd3.vl z1 z2 hd0 hdB rfl (by have h := hd3.sum; rw [ed, eV] at h; exact h) (by have h := hd3.qf; rw [ed, eV] at h; exact h) rfl
            obtain ⟨V4, hV4⟩ : ∃ V4, (addTL V3 D 1 0).1 = V4 := ⟨_, rfl⟩
            obtain ⟨b2, hb2⟩ : ∃ b2, (addTL V3 D 1 0).2 = b2 := ⟨_, rfl⟩
            rw [hV4, hb2] at hat
            rw [hV4] at m1 m2 m3 m4
            rw [hb2] at m3 m4
            have HAT := Lib.hid hat
            have HM := Lib.hid (And.intro m1 (And.intro m2 (And.intro m3 m4)))
            have HB9 := Lib.hid (hd3.below.trans (HO8.out.below (show w.heap.size ≤ g3 by have := HNE.out; have := HG1.out; omega)))
            have HOW := Lib.hid (fun (w9 : World) (h : Only g2 w8 w9) => And.intro ((h.block g1 (by have := HNE.out; omega)).trans hk1) ((h.block g3 (by have := HNE.out; omega)).trans hk8))
            clear hd3 hk8 hk1 hk2 eV eD ed hDd z1 z2 hd0 hdB hrd hat hti m1 m2 m3 m4 hV4 hb2
            refine HAT.out.mono ?_
            rintro e w9 ⟨rfl, hk9, ho9⟩
            have HK9 := Lib.hid hk9
            have HO9 := Lib.hid (HOW.out w9 ho9)
            have HB10 := Lib.hid (HB9.out.trans (ho9.below (by have := HNE.out; have := HG1.out; omega)))
            clear hk9 ho9 HOW HAT HB9
            by_cases hb0 : b2 = 0
            · have HDN := Lib.hid (show DmB w X Y s g1 g2 g3 i P R Q V4 g w9 by
                obtain ⟨eV, _, ed⟩ := HEQ.out
                obtain ⟨a1, a2⟩ := HM.out.2.2.2 hb0
                exact ⟨HO9.out.1, HK9.out, HO9.out.2, HS.out.st, HB10.out, HM.out.1, HM.out.2.1, by rw [ed, eV]; exact a1, by rw [ed, eV]; exact a2, by unfold B; omega⟩)
              subst hb0
              clear HM HK9 HO9 HB10
              go_wp2_with fail
              go_roundg g
              case measure => omega
              case rel => exact ⟨V4, HDN⟩
            · have hpl : DvI X Y s (num Y * 2 ^ s) (R.take i ++ V4 ++ R.drop (i + (Y.length + 1))) (Q.set i g) i := by
                obtain ⟨eV, _, ed⟩ := HEQ.out
                have h := HS.out.st
                rw [ed] at h ⊢
                obtain ⟨a1, a2, a3⟩ := HM.out.2.2.1 hb0
                rw [← a1] at a3
                exact h.place (by rw [HRL.out]; omega) HDB.out.2 HM.out.1 HM.out.2.1 a2 (by unfold B; omega) (by rw [eV]; exact a3)
              have HPL := Lib.hid (show DmS w X Y s g1 g2 g3 P (R.take i ++ V4 ++ R.drop (i + (Y.length + 1))) (Q.set i g) i w9 from ⟨HO9.out.1, HK9.out, HO9.out.2, hpl, HB10.out⟩)
              have c1 : decide ((0 : Int) < (b2 : Int)) = true := decide_eq_true (by omega)
              have c1' : decide (0 < b2) = true := decide_eq_true (by omega)
              clear hpl hb0
              go_wp2_with fail
              go_roundg i
              case measure => omega
              case rel => exact ⟨_, _, rfl, by omega, HPL⟩
theorem divMod_long (A : Option Addr) (c : Nat) (X : List Nat) (A2 : Option Addr) (c2 : Nat) (Y : List Nat) (top : Nat) (w : World) (hr : RdW w A X) (hr2 : RdW w A2 Y) (hX : Dig X) (hY : Dig Y) (hn : 0 < Y.length) (ht : Y[Y.length - 1]? = some top) (ht0 : 0 < top) (htB : top < B) (hle : Y.length ≤ X.length) (hl : X.length ≤ 100000) :
    Calls Tryz.prog 33 #[.slice A X.length c, .slice A2 Y.length c2] w fun e w' => ∃ v1 v2, e = .returned (.tuple #[v1, v2]) ∧ NewW w' (num X / num Y) v1 ∧ NewW w' (num X % num Y) v2 ∧ Below w.heap.size w w' :=
  (divMod_longF A c X A2 c2 Y top w hr hr2 hX hY hn ht ht0 htB hle hl).mono fun _ _ ⟨v1, v2, h1, h2, h3, h4, _⟩ => ⟨v1, v2, h1, h2, h3, h4⟩
end Go.Proofs.YtkjnfobaoaaopaaGreatDoor
