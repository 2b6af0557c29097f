/- divMod: the walk. -/
import Derived.Test.YtpmlihhofmblpaaGreatDoorMc
import Derived.Deep.LoopGhost
namespace Go.Proofs.YtpmlihhofmblpaaGreatDoor
open Go.RowKit Hm Wm Wn

theorem digW_top {M : Nat} (h : M ≠ 0) : ∃ top, (digW M)[(digW M).length - 1]? = some top ∧ 0 < top ∧ top < B := by
  obtain ⟨g1, _⟩ := digW_ge h
  have hk : (digW M).length - 1 < (digW M).length := by omega
  refine ⟨_, List.getElem?_eq_getElem hk, ?_, dig_digW M _ (List.getElem_mem hk)⟩
  have h2 := trim_digW M
  unfold Trim at h2
  rw [List.getLast?_eq_getElem?, List.getElem?_eq_getElem hk] at h2
  exact Nat.pos_of_ne_zero fun e => h2 (by rw [e])
section
variable {P : Program} {md : Region.Mode} {ops : Array Oper} {Q : Exit → Act → World → Prop} {S : Array Bool → World → Prop} {i j fuel : Nat} {listed : Array Bool} {a : Act} {w : World}
theorem late_two (hr : Region.ready md ops listed = [i, j]) (h : wpOp P ops Q i (fun a' w' => S (listed.setIfInBounds i true) w' ∧ wpAnyT P md ops Q S fuel (listed.setIfInBounds i true) a' w') a w)
    (h2 : wpOp P ops Q j (fun a' w' => S (listed.setIfInBounds j true) w' ∧ wpAnyT P md ops Q S fuel (listed.setIfInBounds j true) a' w') a w) : wpAnyT P md ops Q S (fuel + 1) listed a w :=
  ⟨fun h0 => (by rw [hr] at h0; cases h0), fun k hk => by
    rw [hr] at hk
    rcases List.mem_cons.1 hk with rfl | hk
    · exact h
    · obtain rfl : k = j := by simpa using hk
      exact h2⟩
end
theorem run_sub1I (n : Nat) (h : 0 < n) (h2 : n ≤ 1000000) (w : World) : (binOp .sub 3 (.int .i64 n) (.int .i64 1)).run Tryz.prog w = .ok (.int .i64 ((n - 1 : Nat) : Int)) w := by
  simp [binOp, go_sem]
  simp [IntKind.wrap, IntKind.bits, IntKind.signed]; omega
/-- The highest digit of a row that is not less than a power. -/
theorem top_pos {D : List Nat} {n : Nat} (hD : Dig D) (hl : D.length = n) (hn : 0 < n) (h : B ^ (n - 1) ≤ num D) : ∃ t, D[n - 1]? = some t ∧ 0 < t ∧ t < B := by
  have hk : n - 1 < D.length := by omega
  refine ⟨_, List.getElem?_eq_getElem hk, ?_, hD _ (List.getElem_mem hk)⟩
  refine Nat.pos_of_ne_zero fun e => ?_
  have g1 := (win_split D (n - 1) 0 (by omega)).2.2.2.1
  have g2 : D.drop (n - 1) = [0] := by rw [List.drop_eq_getElem_cons hk, List.drop_eq_nil_of_le (by omega), e]
  have g3 := num_lt (hD.take (n - 1))
  rw [List.length_take, Nat.min_eq_left (by omega)] at g3
  rw [g2] at g1
  simp only [num, Nat.mul_zero, Nat.add_zero] at g1
  omega
theorem rdW_take {w : World} {g : Nat} {t : TypeId} {l : List Nat} (k : Nat) (h : Blk w g t (ws l)) : RdW w (some ⟨g, 0, none⟩) (l.take k) := fun _ => ⟨g, 0, rfl, fun j u hu => by
  rw [Nat.zero_add, h.cell j]
  unfold ws at hu ⊢
  rw [List.getElem?_map] at hu ⊢
  rw [List.getElem?_take] at hu
  by_cases hj : j < k
  · rw [if_pos hj] at hu; exact hu
  · rw [if_neg hj] at hu; cases hu⟩
theorem cell_w {w : World} {g i v : Nat} {t : TypeId} {l : List Nat} (h : Blk w g t (ws l)) (hv : l[i]? = some v) : w.cell? ⟨g, i, none⟩ = some (.int .u64 (v : Int)) := by
  rw [h.cell i]
  unfold ws
  rw [List.getElem?_map, hv]
  rfl
/-- A slice that lies in memory made since. -/
def Fr (b : Nat) (v : Value) : Prop := ∀ (a : Addr) (n c : Nat), v = .slice (some a) n c → b ≤ a.block
set_option maxRecDepth 100000 in
set_option maxHeartbeats 1000000 in
theorem divMod_longF (A : Option Addr) (c : Nat) (X : List Nat) (A2 : Option Addr) (c2 : Nat) (Y : List Nat) (top : Nat) (w : World) (hr : RdW w A X) (hr2 : RdW w A2 Y) (hX : Dig X) (hY : Dig Y) (hn : 0 < Y.length) (ht : Y[Y.length - 1]? = some top) (ht0 : 0 < top) (htB : top < B) (hle : Y.length ≤ X.length) (hl : X.length ≤ 100000) :
    Calls Tryz.prog 87 #[.slice A X.length c, .slice A2 Y.length c2] w fun e w' => ∃ v1 v2, e = .returned (.tuple #[v1, v2]) ∧ NewW w' (num X / num Y) v1 ∧ NewW w' (num X % num Y) v2 ∧ Below w.heap.size w w' ∧ Fr w.heap.size v1 := by
  obtain ⟨s, hs0, hs, hb1, hb2⟩ := lz_bounds (y := top) (by omega) htB
  have hLZ := Tryz.bits_LeadingZeros64 (top : Int) w (by omega) (by unfold B at htB; omega)
  rw [Int.toNat_natCast, hs0] at hLZ
  have hk : Y.length - 1 < Y.length := by omega
  obtain ⟨b, off, rfl, hcell⟩ := hr2.cell hk
  rw [List.getElem?_eq_getElem hk] at ht
  rw [Option.some.inj ht] at hcell
  have HLZ := Lib.hid hLZ
  have HR := Lib.hid hr
  have HR2 := Lib.hid hr2
  have HX := Lib.hid hX
  have HY := Lib.hid hY
  have HT := Lib.hid (show Y[Y.length - 1]? = some top by rw [List.getElem?_eq_getElem hk, Option.some.inj ht])
  have HT0 := Lib.hid (And.intro ht0 htB)
  have HB2 := Lib.hid (And.intro hb1 hb2)
  have d1 : decide ((X.length : Int) < (Y.length : Int)) = false := decide_eq_false (by omega)
  have d1' : decide (X.length < Y.length) = false := decide_eq_false (by omega)
  clear hr hr2 hX hY ht ht0 htB hb1 hb2 hs0 hLZ
  go_enter Tryz.func87, Tryz.ntmps87
  go_wp2_with fail
  go_step3
  go_wp2_with fail
  refine HLZ.out.mono ?_
  rintro e w0 ⟨rfl, hw⟩
  obtain rfl : w = w0 := hw.symm
  go_wp2_with fail
  refine (up_any (some ⟨b, off, none⟩) c2 Y s w HR2.out HY.out (by omega) (by omega)).mono ?_
  rintro e w1 ⟨rfl, ⟨P, hP⟩, hb1⟩
  have HP := Lib.hid hP
  have HB1 := Lib.hid hb1
  clear hP hb1
  go_wp2_with (refine wpList_hiW rfl (.tmp 26) (.tmp 27) rfl (some ⟨w.heap.size, 0, none⟩) (Y.length + 1) (Y.length + 1) Y.length (by omega) (Nat.le_refl _) rfl rfl ?_)
  refine (up_any A c X s w1 (HR.out.next HB1.out) HX.out (by omega) hl).mono ?_
  rintro e w2 ⟨rfl, ⟨R, hR⟩, hb2⟩
  have HRR := Lib.hid hR
  have HBB := Lib.hid hb2
  clear hR hb2
  obtain ⟨k, hk2⟩ : ∃ k, X.length - Y.length + 1 = k := ⟨_, rfl⟩
  have HKE := Lib.hid (show (X.length : Int) - (Y.length : Int) + 1 = (k : Int) by omega)
  have hk100 : k ≤ 100001 := by omega
  go_wp2_with (refine wpList_makeW rfl (.tmp 36) (.tmp 36) rfl k (congrArg (Value.int .i64) HKE.out) (congrArg (Value.int .i64) HKE.out) (by omega) ?_; intro w3 HK3 HB3)
  go_step3
  go_wp2_with fail
  obtain ⟨g1, hg1⟩ : ∃ g1, w.heap.size = g1 := ⟨_, rfl⟩
  obtain ⟨g2, hg2⟩ : ∃ g2, w1.heap.size = g2 := ⟨_, rfl⟩
  obtain ⟨g3, hg3⟩ : ∃ g3, w2.heap.size = g3 := ⟨_, rfl⟩
  have hp0 := HP.out
  have hr0 := HRR.out
  have hq0 := HK3.out
  have hbA := HB1.out
  have hbB := HBB.out
  have hbC := HB3.out
  obtain ⟨p1, p2, p3, p4⟩ := hp0
  obtain ⟨r1, r2, r3, r4⟩ := hr0
  have hlt1 := p4.lt
  have hlt2 := r4.lt
  obtain ⟨v1, v2, v3, v4⟩ := dv_divisor HY.out hn HT.out HT0.out.1 HB2.out.2 (by omega) p1 p2
  have hst := DvI.start (s := s) HX.out v3 hn hle rfl r1 r3 r2
  rw [hk2] at hst
  have hS0 : DmS w X Y s g1 g2 g3 P R (zd k) k w3 := ⟨by rw [← hg1]; exact (p4.next hbB).next hbC, by rw [← hg2]; exact r4.next hbC, by rw [← hg3]; exact hq0, hst, (hbA.trans (hbB.mono hbA.size)).trans (hbC.mono (Nat.le_trans hbA.size hbB.size))⟩
  have hne : g1 < g2 ∧ g2 < g3 := ⟨by omega, by omega⟩
  have HNE := Lib.hid hne
  have HG1 := Lib.hid hg1
  have HDV := Lib.hid (And.intro v1 (And.intro v2 (And.intro v3 v4)))
  have HP3 := Lib.hid p3
  rw [hg1, hg2, hg3]
  have HS0 := Lib.hid hS0
  clear p1 p2 p3 p4 r1 r2 r3 r4 hq0 hbA hbB hbC hlt1 hlt2 v1 v2 v3 v4 hst hne hS0 HP HRR HK3 HB1 HBB HB3 hg2 hg3 hw hcell HLZ d1 d1'
  clear hg1
  go_loopg [9, 10] k (fun g iv _ wr => ∃ R Q, iv = .int .i64 ((g : Int) - 1) ∧ g ≤ k ∧ Hid (DmS w X Y s g1 g2 g3 P R Q g wr))
  case atStart => exact ⟨R, zd k, rfl, Nat.le_refl _, HS0⟩
  case round =>
    obtain ⟨R, Q, rfl, hgk, HS⟩ := hrel
    cases gk with
    | zero =>
      have hS := HS.out
      have hql := hS.st.ql
      have hrl := hS.st.rl
      rw [hk2] at hql
      obtain ⟨q1, q2⟩ := hS.st.done rfl (by omega)
      have hdg := hS.st.rd
      have hqd := hS.st.qd
      have ht1 := trim_any (some ⟨g3, 0, none⟩) k Q wr (rdW_blk hS.b3) hqd (by omega) (by omega)
      have hd1 := down_any g2 (X.length + 1) R s wr hS.b2 hdg (by omega) (by omega)
      rw [hql] at ht1
      rw [hrl] at hd1
      have hdl := dnL_len R s
      rw [hrl] at hdl
      have HT1 := Lib.hid ht1
      have HD1 := Lib.hid hd1
      have HQR := Lib.hid (RdW.trim (rdW_blk hS.b3) hqd)
      have HQL := Lib.hid (show (digW (num Q)).length ≤ k by have h := digW_len (num_lt hqd); omega)
      have HDL := Lib.hid hdl
      have HQ1 := Lib.hid q1
      have HQ2 := Lib.hid q2
      have HDD := Lib.hid (dnL_dig R s (by omega) hdg)
      have HBW := Lib.hid hS.below
      have HW2 := Lib.hid (show w.heap.size ≤ g2 by have := HNE.out; have := HG1.out; omega)
      clear hS hql hrl q1 q2 hdg hqd ht1 hd1 hdl HS
      go_wp2_with fail
      refine HT1.out.mono ?_
      rintro e w4 ⟨rfl, hw⟩
      obtain rfl : wr = w4 := hw.symm
      go_wp2_with fail
      refine HD1.out.mono ?_
      rintro e w5 ⟨rfl, hk5, ho5⟩
      have ht2 := trim_any (some ⟨g2, 0, none⟩) (X.length + 1) (dnL R s) w5 (rdW_blk hk5) HDD.out (by rw [HDL.out]; exact Nat.le_refl _) (by rw [HDL.out]; omega)
      rw [HDL.out] at ht2
      have HT2 := Lib.hid ht2
      have HV1 := Lib.hid (show NewW w5 (num X / num Y) (.slice (some ⟨g3, 0, none⟩) (digW (num Q)).length k) by
        rw [← HQ1.out]
        exact ⟨_, _, rfl, HQR.out.only ho5 (.inr fun a ha => by cases ha; show g3 ≠ g2; have := HNE.out.2; omega), HQL.out⟩)
      have HV2 := Lib.hid (show NewW w5 (num X % num Y) (.slice (some ⟨g2, 0, none⟩) (digW (num (dnL R s))).length (X.length + 1 : Nat)) by
        rw [← HQ2.out]
        exact ⟨_, _, rfl, RdW.trim (rdW_blk hk5) HDD.out, by have h := digW_len (num_lt HDD.out); rw [HDL.out] at h; exact h⟩)
      have HB5 := Lib.hid (HBW.out.trans (ho5.below HW2.out))
      clear hk5 ho5 ht2
      go_wp2_with fail
      refine HT2.out.mono ?_
      rintro e w6 ⟨rfl, hw⟩
      obtain rfl : w5 = w6 := hw.symm
      go_wp2_with fail
      rw [Exit.noGoto_ret]
      go_ret2
      exact ⟨_, _, rfl, HV1.out, HV2.out, HB5.out, fun a n c h => by cases h; show w.heap.size ≤ g3; have := HNE.out; have := HW2.out; omega⟩
    | succ i =>
      rw [show ((i + 1 : Nat) : Int) - 1 = (i : Int) by omega]
      have hS := HS.out
      have hql := hS.st.ql
      have hrl := hS.st.rl
      obtain ⟨v1, v2, v3, v4⟩ := HDV.out
      have hin : i + (Y.length + 1) ≤ R.length := by rw [hrl]; omega
      obtain ⟨e1, e2, e3⟩ := hS.st.digit hin v4
      obtain ⟨s1, s2, s3, _, _⟩ := win_split R i (Y.length + 1) hin
      have hVd : Dig ((R.drop i).take (Y.length + 1)) := (hS.st.rd.drop i).take _
      have hDd : Dig (P.take Y.length) := HP3.out.take _
      have hvx : ∀ j, j < Y.length + 1 → ((R.drop i).take (Y.length + 1))[j]? = R[i + j]? := fun j hj => by rw [List.getElem?_take, if_pos hj, List.getElem?_drop]
      have hdx : (P.take Y.length)[Y.length - 1]? = P[Y.length - 1]? := by rw [List.getElem?_take, if_pos (by omega)]
      obtain ⟨n, hnn⟩ : ∃ n, Y.length = n := ⟨_, rfl⟩
      rw [hnn] at hin e1 e2 e3 s2 s3 hVd hDd hvx hdx v1 v2 v3 v4 hn
      obtain ⟨V, hV⟩ : ∃ V, (R.drop i).take (n + 1) = V := ⟨_, rfl⟩
      obtain ⟨D, hD⟩ : ∃ D, P.take n = D := ⟨_, rfl⟩
      obtain ⟨d, hd⟩ : ∃ d, num Y * 2 ^ s = d := ⟨_, rfl⟩
      rw [hd] at e1 v2 v4
      rw [hV] at e1 e2 s2 s3 hVd hvx
      rw [hD] at v1 v2 hDd hdx
      have hdp : B ^ (n - 1) ≤ d := by rw [← hd]; exact Nat.le_trans v3 (Nat.le_mul_of_pos_right _ (Nat.two_pow_pos s))
      have hd0 : 0 < d := Nat.lt_of_lt_of_le (Nat.pow_pos B_pos) hdp
      obtain ⟨tp, ht1, ht2, ht3⟩ := top_pos hDd v1 hn (by rw [v2]; exact hdp)
      have hhi : n < V.length := by omega
      have hlo : n - 1 < V.length := by omega
      obtain ⟨hi, hhe⟩ : ∃ x, V[n]? = some x := ⟨_, List.getElem?_eq_getElem hhi⟩
      obtain ⟨lo, hle2⟩ : ∃ x, V[n - 1]? = some x := ⟨_, List.getElem?_eq_getElem hlo⟩
      obtain ⟨f1, f2⟩ := dv_guess hVd s2 hn hhe hle2 v1 v2 ht1 ht2 e1
      have hgu := fun W => guess_any hi lo tp W ht3 (hVd _ (List.mem_of_getElem? hle2))
      obtain ⟨f, hf⟩ : ∃ f, guessN hi lo tp = f := ⟨_, rfl⟩
      rw [hf] at f1 f2 hgu
      have hc1 : R[i + n]? = some hi := by rw [← hvx n (by omega)]; exact hhe
      have hc2 : R[i + (n - 1)]? = some lo := by rw [← hvx (n - 1) (by omega)]; exact hle2
      have hc3 : P[n - 1]? = some tp := by rw [← hdx]; exact ht1
      have HC1 := Lib.hid hc1
      have HC2 := Lib.hid hc2
      have HC3 := Lib.hid hc3
      have HGU := Lib.hid hgu
      have HF := Lib.hid (And.intro f1 f2)
      have HN := Lib.hid hnn
      have HQL := Lib.hid (show i < Q.length by rw [hql]; omega)
      have HRL := Lib.hid hrl
      have hnX : n ≤ X.length := by omega
      have hik : i + n ≤ X.length := by omega
      have HEQ := Lib.hid (And.intro hV (And.intro hD hd))
      have HV0 := Lib.hid (And.intro hVd (And.intro s2 e1))
      have HD0 := Lib.hid (And.intro hDd (And.intro v1 v2))
      have HR3 := Lib.hid s3
      have HDB := Lib.hid (And.intro hd0 v4)
      have HB0 := Lib.hid (And.intro hS.b1 (And.intro hS.b2 hS.b3))
      have HSZ := Lib.hid (show i + n + 1 - i = n + 1 by omega)
      rw [hnn]
      rw [hnn] at hle hk
      clear hS hql hrl v1 v2 v3 v4 hin e1 e2 e3 s1 s2 s3 hVd hDd hvx hdx hV hD hd hdp hd0 ht1 ht2 ht3 hhi hlo hhe hle2 f1 f2 hgu hf hc1 hc2 hc3
      go_wp2_with (refine wpList_midW rfl (.tmp 45) (.tmp 46) (.tmp 50) rfl g2 (X.length + 1) (X.length + 1) i (i + n + 1) (by omega) (by omega) (by omega) rfl rfl (by go_num) ?_; rw [HSZ.out])
      have HKI := Lib.hid (show i < k by omega)
      refine late_begin (S := TillQ 18 (fun W => Blk W g1 89 (ws P) ∧ Blk W g2 89 (ws R) ∧ Blk W g3 89 (ws Q))) (by kernel_rfl) ?_
      have hS1 : Blk wr.drew g1 89 (ws P) ∧ Blk wr.drew g2 89 (ws R) ∧ Blk wr.drew g3 89 (ws Q) := HB0.out
      have hB1 := (Below.refl wr.heap.size wr).drew
      generalize wr.drew = u1 at hS1 hB1 ⊢
      have hS0 : ∀ {L}, TillQ 18 (fun W => Blk W g1 89 (ws P) ∧ Blk W g2 89 (ws R) ∧ Blk W g3 89 (ws Q)) L u1 := fun _ => hS1
      refine late_take [18] (i := 0) (some 52) rfl rfl rfl (by kernel_rfl) (by kernel_rfl) (by kernel_rfl) (by kernel_rfl) (by kernel_rfl) (fun Ls W h => h.off (by decide)) (.slice (some ⟨g3, 0, none⟩) k k) (fun _ _ _ h => h) (fun Ls W hl0 hW => exec_move (.tmp 4) rfl _ rfl) hS0 hS0 ?_
      go_frame
      refine late_take [18] (i := 1) (some 53) rfl rfl rfl (by kernel_rfl) (by kernel_rfl) (by kernel_rfl) (by kernel_rfl) (by kernel_rfl) (fun Ls W h => h.off (by decide)) (.int .i64 i) (fun _ _ _ h => h) (fun Ls W hl0 hW => exec_move (.tmp 9) rfl _ rfl) hS0 hS0 ?_
      go_frame
      refine late_take [18] (i := 2) (some 54) rfl rfl rfl (by kernel_rfl) (by kernel_rfl) (by kernel_rfl) (by kernel_rfl) (by kernel_rfl) (fun Ls W h => h.off (by decide)) (.slice (some ⟨g2, i, none⟩) (n + 1 : Nat) (X.length + 1 - i : Nat)) (fun _ _ _ h => h) (fun Ls W hl0 hW => exec_move (.tmp 10) rfl _ rfl) hS0 hS0 ?_
      go_frame
      refine late_take [18] (i := 3) (some 55) rfl rfl rfl (by kernel_rfl) (by kernel_rfl) (by kernel_rfl) (by kernel_rfl) (by kernel_rfl) (fun Ls W h => h.off (by decide)) (.int .i64 n) (fun _ _ _ h => h) (fun Ls W hl0 hW => exec_move (.tmp 6) rfl _ rfl) hS0 hS0 ?_
      go_frame
      refine late_take [18] (i := 4) (some 56) rfl rfl rfl (by kernel_rfl) (by kernel_rfl) (by kernel_rfl) (by kernel_rfl) (by kernel_rfl) (fun Ls W h => h.off (by decide)) (.pointer (some ⟨g2, i + n, none⟩)) (fun _ _ _ h => h) (fun Ls W hl0 hW => exec_atW (.tmp 54) (.tmp 55) rfl g2 i (n + 1) (X.length + 1 - i) n (by omega) rfl rfl) hS0 hS0 ?_
      go_frame
      refine late_take [18] (i := 5) (some 57) rfl rfl rfl (by kernel_rfl) (by kernel_rfl) (by kernel_rfl) (by kernel_rfl) (by kernel_rfl) (fun Ls W h => h.off (by decide)) (.int .u64 (hi : Int)) (fun _ _ _ h => h) (fun Ls W hl0 hW => exec_loadW (.tmp 56) rfl hi rfl (cell_w (hW (hl0 18 (by simp))).2.1 HC1.out)) hS0 hS0 ?_
      go_frame
      refine late_take [18] (i := 6) (some 58) rfl rfl rfl (by kernel_rfl) (by kernel_rfl) (by kernel_rfl) (by kernel_rfl) (by kernel_rfl) (fun Ls W h => h.off (by decide)) (.slice (some ⟨g2, i, none⟩) (n + 1 : Nat) (X.length + 1 - i : Nat)) (fun _ _ _ h => h) (fun Ls W hl0 hW => exec_move (.tmp 10) rfl _ rfl) hS0 hS0 ?_
      go_frame
      refine late_take [18] (i := 7) (some 59) rfl rfl rfl (by kernel_rfl) (by kernel_rfl) (by kernel_rfl) (by kernel_rfl) (by kernel_rfl) (fun Ls W h => h.off (by decide)) (.int .i64 n) (fun _ _ _ h => h) (fun Ls W hl0 hW => exec_move (.tmp 6) rfl _ rfl) hS0 hS0 ?_
      go_frame
      refine late_take [18] (i := 8) (some 60) rfl rfl rfl (by kernel_rfl) (by kernel_rfl) (by kernel_rfl) (by kernel_rfl) (by kernel_rfl) (fun Ls W h => h.off (by decide)) (.int .i64 ((n - 1 : Nat) : Int)) (fun _ _ _ h => h) (fun Ls W hl0 hW => exec_bin .sub 3 _ (.tmp 59) (.const (.int .i64 1)) rfl _ _ _ rfl rfl rfl (run_sub1I n hn (by omega) W)) hS0 hS0 ?_
      go_frame
      refine late_take [18] (i := 9) (some 61) rfl rfl rfl (by kernel_rfl) (by kernel_rfl) (by kernel_rfl) (by kernel_rfl) (by kernel_rfl) (fun Ls W h => h.off (by decide)) (.pointer (some ⟨g2, i + (n - 1), none⟩)) (fun _ _ _ h => h) (fun Ls W hl0 hW => exec_atW (.tmp 58) (.tmp 60) rfl g2 i (n + 1) (X.length + 1 - i) (n - 1) (by omega) rfl rfl) hS0 hS0 ?_
      go_frame
      refine late_take [18] (i := 10) (some 62) rfl rfl rfl (by kernel_rfl) (by kernel_rfl) (by kernel_rfl) (by kernel_rfl) (by kernel_rfl) (fun Ls W h => h.off (by decide)) (.int .u64 (lo : Int)) (fun _ _ _ h => h) (fun Ls W hl0 hW => exec_loadW (.tmp 61) rfl lo rfl (cell_w (hW (hl0 18 (by simp))).2.1 HC2.out)) hS0 hS0 ?_
      go_frame
      refine late_take [18] (i := 11) (some 63) rfl rfl rfl (by kernel_rfl) (by kernel_rfl) (by kernel_rfl) (by kernel_rfl) (by kernel_rfl) (fun Ls W h => h.off (by decide)) (.slice (some ⟨g1, 0, none⟩) n (n + 1 : Nat)) (fun _ _ _ h => h) (fun Ls W hl0 hW => exec_move (.tmp 8) rfl _ rfl) hS0 hS0 ?_
      go_frame
      refine late_take [18] (i := 12) (some 64) rfl rfl rfl (by kernel_rfl) (by kernel_rfl) (by kernel_rfl) (by kernel_rfl) (by kernel_rfl) (fun Ls W h => h.off (by decide)) (.int .i64 n) (fun _ _ _ h => h) (fun Ls W hl0 hW => exec_move (.tmp 6) rfl _ rfl) hS0 hS0 ?_
      go_frame
      refine late_take [18] (i := 13) (some 65) rfl rfl rfl (by kernel_rfl) (by kernel_rfl) (by kernel_rfl) (by kernel_rfl) (by kernel_rfl) (fun Ls W h => h.off (by decide)) (.int .i64 ((n - 1 : Nat) : Int)) (fun _ _ _ h => h) (fun Ls W hl0 hW => exec_bin .sub 3 _ (.tmp 64) (.const (.int .i64 1)) rfl _ _ _ rfl rfl rfl (run_sub1I n hn (by omega) W)) hS0 hS0 ?_
      go_frame
      refine late_take [18] (i := 14) (some 66) rfl rfl rfl (by kernel_rfl) (by kernel_rfl) (by kernel_rfl) (by kernel_rfl) (by kernel_rfl) (fun Ls W h => h.off (by decide)) (.pointer (some ⟨g1, 0 + (n - 1), none⟩)) (fun _ _ _ h => h) (fun Ls W hl0 hW => exec_atW (.tmp 63) (.tmp 65) rfl g1 0 n (n + 1) (n - 1) (by omega) rfl rfl) hS0 hS0 ?_
      go_frame
      refine late_take [18] (i := 15) (some 67) rfl rfl rfl (by kernel_rfl) (by kernel_rfl) (by kernel_rfl) (by kernel_rfl) (by kernel_rfl) (fun Ls W h => h.off (by decide)) (.int .u64 (tp : Int)) (fun _ _ _ h => h) (fun Ls W hl0 hW => exec_loadW (.tmp 66) rfl tp rfl (by rw [Nat.zero_add]; exact cell_w (hW (hl0 18 (by simp))).1 HC3.out)) hS0 hS0 ?_
      go_frame
      refine late_one (i := 16) (by kernel_rfl) (op_call (some 68) rfl rfl rfl rfl Tryz.func111 (by kernel_rfl) (by kernel_rfl) #[.int .u64 hi, .int .u64 lo, .int .u64 tp] rfl (HGU.out u1) ?_)
      rintro e u2 ⟨rfl, hb2⟩
      have hB2 := hB1.trans (hb2.mono hB1.size)
      have hS2 : Blk u2 g1 89 (ws P) ∧ Blk u2 g2 89 (ws R) ∧ Blk u2 g3 89 (ws Q) := ⟨hS1.1.next hb2, hS1.2.1.next hb2, hS1.2.2.next hb2⟩
      clear hS0 hS1 hB1 hb2
      refine ⟨_, rfl, fun _ => hS2, ?_⟩
      go_frame
      refine late_one (i := 17) (by kernel_rfl) (op_value (some 69) rfl rfl rfl (.pointer (some ⟨g3, 0 + i, none⟩)) (exec_atW (.tmp 52) (.tmp 53) rfl g3 0 k k i HKI.out rfl rfl) ⟨fun _ => hS2, ?_⟩)
      go_frame
      refine late_one (i := 18) (by kernel_rfl) (op_wp rfl rfl (wp_store_w (.tmp 69) (.tmp 68) rfl g3 (0 + i) 89 Q f rfl rfl hS2.2.2 (by rw [Nat.zero_add]; exact HQL.out) (fun w6 hk6 ho6 => ⟨fun h => absurd h (by decide), late_done (by kernel_rfl) ?_ _⟩)))
      go_frame
      rw [Nat.zero_add] at hk6
      have HK6 := Lib.hid hk6
      have HK1 := Lib.hid (ho6.block g1 (by have := HNE.out; omega))
      have HK2 := Lib.hid (ho6.block g2 (by have := HNE.out; omega))
      have hk1 : Blk w6 g1 89 (ws P) := HK1.out.trans hS2.1
      have hk2 : Blk w6 g2 89 (ws R) := HK2.out.trans hS2.2.1
      obtain ⟨eV, eD, ed⟩ := HEQ.out
      obtain ⟨hVd, s2, e1⟩ := HV0.out
      obtain ⟨hDd, z1, z2⟩ := HD0.out
      obtain ⟨hd0, hdB⟩ := HDB.out
      obtain ⟨f1, f2⟩ := HF.out
      have hg3 : w.heap.size ≤ g3 := by have := HNE.out; have := HG1.out; omega
      have hB6 := (HS.out.below.trans (hB2.mono HS.out.below.size)).trans (ho6.below hg3)
      have hrd : RdW w6 (some ⟨g1, 0, none⟩) D := by rw [← eD]; exact rdW_take n hk1
      have h3 := HR3.out
      have hk2b := hk2
      rw [h3] at hk2b
      have hst := subT_any g2 (R.take i) V (R.drop (i + (n + 1))) D (X.length + 1 - i) (some ⟨g1, 0, none⟩) (n + 1) f w6 hk2b hrd (.inr fun a ha => by cases ha; show g1 ≠ g2; have := HNE.out.1; omega) hVd hDd f2 (by omega)
      have hti : (R.take i).length = i := by rw [List.length_take, HRL.out]; omega
      rw [hti, s2, z1] at hst
      obtain ⟨m1, m2, m3, m4⟩ := dv_sub hVd s2 z1 z2 hd0 hdB f2 f1 rfl
      obtain ⟨V2, hV2⟩ : ∃ V2, (subTL V D f 0).1 = V2 := ⟨_, rfl⟩
      obtain ⟨bo, hbo⟩ : ∃ bo, (subTL V D f 0).2 = bo := ⟨_, rfl⟩
      rw [hV2, hbo] at hst
      rw [hV2] at m1 m2 m3 m4
      rw [hbo] at m3 m4
      have hcq : w6.cell? ⟨g3, i, none⟩ = some (.int .u64 (f : Int)) := cell_w hk6 (by rw [List.getElem?_set_self HQL.out])
      have HST := Lib.hid hst
      have HM := Lib.hid (And.intro m1 (And.intro m2 (And.intro m3 m4)))
      have HB6 := Lib.hid hB6
      have HK61 := Lib.hid hk1
      have HOW := Lib.hid (fun (w7 : World) (h : Only g2 w6 w7) => And.intro ((h.block g1 (by have := HNE.out; omega)).trans hk1) ((h.block g3 (by have := HNE.out; omega)).trans hk6))
      clear hk1 hk2 hk2b eV eD ed hVd s2 e1 hDd z1 z2 hd0 hdB f1 f2 hg3 hB6 hrd h3 hst hti m1 m2 m3 m4 hV2 hbo hS2 hB2 ho6 hk6 HK1 HK2
      go_wp2_with fail
      refine HST.out.mono ?_
      rintro e w7 ⟨rfl, hk7, ho7⟩
      have HK7 := Lib.hid hk7
      have HO7 := Lib.hid (HOW.out w7 ho7)
      have HB7 := Lib.hid (HB6.out.trans (ho7.below (by have := HNE.out; have := HG1.out; omega)))
      clear hk7 ho7 HOW HST HB6
      by_cases hb0 : bo = 0
      · subst hb0
        go_wp2_with fail
        have hpl : DvI X Y s (num Y * 2 ^ s) (R.take i ++ V2 ++ R.drop (i + (n + 1))) (Q.set i f) i := by
          obtain ⟨eV, _, ed⟩ := HEQ.out
          have h := HS.out.st
          rw [ed] at h ⊢
          obtain ⟨a1, a2, a3⟩ := HM.out.2.2.1 trivial
          rw [← a1] at a3
          exact h.place (by rw [HRL.out]; omega) HDB.out.2 HM.out.1 HM.out.2.1 a2 HF.out.2 (by rw [eV]; exact a3)
        have HPL := Lib.hid (show DmS w X Y s g1 g2 g3 P (R.take i ++ V2 ++ R.drop (i + (n + 1))) (Q.set i f) i w7 from ⟨HO7.out.1, HK7.out, HO7.out.2, hpl, HB7.out⟩)
        clear hpl
        have hnn := HN.out
        subst hnn
        go_roundg i
        case measure => omega
        case rel => exact ⟨_, _, rfl, by omega, HPL⟩
      · have c0 : ((bo : Int) == 0) = false := by simp; omega
        have c0' : decide (bo = 0) = false := decide_eq_false hb0
        have hnn := HN.out
        subst hnn
        have hdb : DmB w X Y s g1 g2 g3 i P R Q V2 f w7 := by
          obtain ⟨eV, _, ed⟩ := HEQ.out
          obtain ⟨a1, a2⟩ := HM.out.2.2.2 hb0
          exact ⟨HO7.out.1, HK7.out, HO7.out.2, HS.out.st, HB7.out, HM.out.1, HM.out.2.1, by rw [ed, eV]; exact a1, by rw [ed, eV]; exact a2, HF.out.2⟩
        have HDB0 := Lib.hid hdb
        clear hdb hb0 HK7 HO7 HB7 HM
        go_wp2_with fail
        go_loopg [87] f (fun g _ wx => ∃ V3, Hid (DmB w X Y s g1 g2 g3 i P R Q V3 g wx))
        case atStart => exact ⟨V2, HDB0⟩
        case round =>
          obtain ⟨V3, HD3⟩ := hrel
          cases gk with
          | zero => exact absurd HD3.out.qf (Nat.not_lt_zero _)
          | succ g =>
            have hd3 := HD3.out
            have hgB := hd3.fB
            unfold B at hgB
            have hcq := cell_w hd3.b3 (show (Q.set i (g + 1))[i]? = some (g + 1) by rw [List.getElem?_set_self HQL.out])
            have HSU := Lib.hid (fun W => run_subW (g + 1) 1 g W (by unfold B; omega) (by unfold B; omega))
            have HB3 := Lib.hid hd3.b3
            have HLN := Lib.hid (show i < (Q.set i (g + 1)).length by rw [List.length_set]; exact HQL.out)
            clear hd3
            go_wp2_with (first | (refine wpList_dst 82 rfl ?_; refine wpList_run 82 rfl rfl _ (exec_bin .sub 89 _ (.tmp 81) (.const (.int .u64 1)) rfl _ _ _ rfl rfl rfl (HSU.out _)) ?_) | (refine wpList_store_w rfl (.tmp 83) (.tmp 82) rfl g3 i _ (Q.set i (g + 1)) g rfl rfl HB3.out HLN.out ?_; intro w8 HB8 ho8; have HO8 := Lib.hid ho8; clear ho8))
            have hd3 := HD3.out
            have hk8 : Blk w8 g3 89 (ws (Q.set i g)) := by have h := HB8.out; rwa [List.set_set] at h
            have hk1 : Blk w8 g1 89 (ws P) := (HO8.out.block g1 (by have := HNE.out; omega)).trans hd3.b1
            have hk2 : Blk w8 g2 89 (ws (R.take i ++ V3 ++ R.drop (i + (Y.length + 1)))) := (HO8.out.block g2 (by have := HNE.out; omega)).trans hd3.b2
            obtain ⟨eV, eD, ed⟩ := HEQ.out
            obtain ⟨hDd, z1, z2⟩ := HD0.out
            obtain ⟨hd0, hdB⟩ := HDB.out
            have hrd : RdW w8 (some ⟨g1, 0, none⟩) D := by rw [← eD]; exact rdW_take _ hk1
            have hat := addT_any g2 (R.take i) V3 (R.drop (i + (Y.length + 1))) D (X.length + 1 - i) (some ⟨g1, 0, none⟩) (Y.length + 1) 1 w8 hk2 hrd (.inr fun a ha => by cases ha; show g1 ≠ g2; have := HNE.out.1; omega) hd3.vd hDd (by unfold B; omega) (by rw [hd3.vl]; omega)
            have hti : (R.take i).length = i := by rw [List.length_take, HRL.out]; omega
            rw [hti, hd3.vl, z1] at hat
            obtain ⟨m1, m2, m3, m4⟩ := dv_back (W := num V) (q := num V / d) hd3.vd hd3.vl z1 z2 hd0 hdB rfl (by have h := hd3.sum; rw [ed, eV] at h; exact h) (by have h := hd3.qf; rw [ed, eV] at h; exact h) rfl
            obtain ⟨V4, hV4⟩ : ∃ V4, (addTL V3 D 1 0).1 = V4 := ⟨_, rfl⟩
            obtain ⟨b2, hb2⟩ : ∃ b2, (addTL V3 D 1 0).2 = b2 := ⟨_, rfl⟩
            rw [hV4, hb2] at hat
            rw [hV4] at m1 m2 m3 m4
            rw [hb2] at m3 m4
            have HAT := Lib.hid hat
            have HM := Lib.hid (And.intro m1 (And.intro m2 (And.intro m3 m4)))
            have HB9 := Lib.hid (hd3.below.trans (HO8.out.below (show w.heap.size ≤ g3 by have := HNE.out; have := HG1.out; omega)))
            have HOW := Lib.hid (fun (w9 : World) (h : Only g2 w8 w9) => And.intro ((h.block g1 (by have := HNE.out; omega)).trans hk1) ((h.block g3 (by have := HNE.out; omega)).trans hk8))
            clear hd3 hk8 hk1 hk2 eV eD ed hDd z1 z2 hd0 hdB hrd hat hti m1 m2 m3 m4 hV4 hb2
            refine HAT.out.mono ?_
            rintro e w9 ⟨rfl, hk9, ho9⟩
            have HK9 := Lib.hid hk9
            have HO9 := Lib.hid (HOW.out w9 ho9)
            have HB10 := Lib.hid (HB9.out.trans (ho9.below (by have := HNE.out; have := HG1.out; omega)))
            clear hk9 ho9 HOW HAT HB9
            by_cases hb0 : b2 = 0
            · have HDN := Lib.hid (show DmB w X Y s g1 g2 g3 i P R Q V4 g w9 by
                obtain ⟨eV, _, ed⟩ := HEQ.out
                obtain ⟨a1, a2⟩ := HM.out.2.2.2 hb0
                exact ⟨HO9.out.1, HK9.out, HO9.out.2, HS.out.st, HB10.out, HM.out.1, HM.out.2.1, by rw [ed, eV]; exact a1, by rw [ed, eV]; exact a2, by unfold B; omega⟩)
              subst hb0
              clear HM HK9 HO9 HB10
              go_wp2_with fail
              go_roundg g
              case measure => omega
              case rel => exact ⟨V4, HDN⟩
            · have hpl : DvI X Y s (num Y * 2 ^ s) (R.take i ++ V4 ++ R.drop (i + (Y.length + 1))) (Q.set i g) i := by
                obtain ⟨eV, _, ed⟩ := HEQ.out
                have h := HS.out.st
                rw [ed] at h ⊢
                obtain ⟨a1, a2, a3⟩ := HM.out.2.2.1 hb0
                rw [← a1] at a3
                exact h.place (by rw [HRL.out]; omega) HDB.out.2 HM.out.1 HM.out.2.1 a2 (by unfold B; omega) (by rw [eV]; exact a3)
              have HPL := Lib.hid (show DmS w X Y s g1 g2 g3 P (R.take i ++ V4 ++ R.drop (i + (Y.length + 1))) (Q.set i g) i w9 from ⟨HO9.out.1, HK9.out, HO9.out.2, hpl, HB10.out⟩)
              have c1 : decide ((0 : Int) < (b2 : Int)) = true := decide_eq_true (by omega)
              have c1' : decide (0 < b2) = true := decide_eq_true (by omega)
              clear hpl hb0
              go_wp2_with fail
              go_roundg i
              case measure => omega
              case rel => exact ⟨_, _, rfl, by omega, HPL⟩
theorem divMod_long (A : Option Addr) (c : Nat) (X : List Nat) (A2 : Option Addr) (c2 : Nat) (Y : List Nat) (top : Nat) (w : World) (hr : RdW w A X) (hr2 : RdW w A2 Y) (hX : Dig X) (hY : Dig Y) (hn : 0 < Y.length) (ht : Y[Y.length - 1]? = some top) (ht0 : 0 < top) (htB : top < B) (hle : Y.length ≤ X.length) (hl : X.length ≤ 100000) :
    Calls Tryz.prog 87 #[.slice A X.length c, .slice A2 Y.length c2] w fun e w' => ∃ v1 v2, e = .returned (.tuple #[v1, v2]) ∧ NewW w' (num X / num Y) v1 ∧ NewW w' (num X % num Y) v2 ∧ Below w.heap.size w w' :=
  (divMod_longF A c X A2 c2 Y top w hr hr2 hX hY hn ht ht0 htB hle hl).mono fun _ _ ⟨v1, v2, h1, h2, h3, h4, _⟩ => ⟨v1, v2, h1, h2, h3, h4⟩
end Go.Proofs.YtpmlihhofmblpaaGreatDoor

/- divMod of any two numbers, and DivMod. -/
namespace Go.Proofs.YtpmlihhofmblpaaGreatDoor
open Go.RowKit Hm Wm Wn

theorem divMod_any (N M : Nat) (A : Option Addr) (c : Nat) (A2 : Option Addr) (c2 : Nat) (w : World) (hM : M ≠ 0) (hr : RdW w A (digW N)) (hc : (digW N).length ≤ c) (hr2 : RdW w A2 (digW M)) (hl : (digW N).length ≤ 100000) (hl2 : (digW M).length ≤ 100000) :
    Calls Tryz.prog 87 #[.slice A (digW N).length c, .slice A2 (digW M).length c2] w fun e w' => ∃ v1 v2, e = .returned (.tuple #[v1, v2]) ∧ NewW w' (N / M) v1 ∧ NewW w' (N % M) v2 ∧ Below w.heap.size w w' := by
  by_cases hlt : (digW N).length < (digW M).length
  · refine (divMod_short A c N A2 c2 M w hr hc hlt hl2).mono ?_
    rintro e w1 ⟨v1, v2, rfl, h1, h2, hw⟩
    subst hw
    exact ⟨v1, v2, rfl, h1, h2, Below.refl _ _⟩
  · obtain ⟨top, h1, h2, h3⟩ := digW_top hM
    have h := divMod_long A c (digW N) A2 c2 (digW M) top w hr hr2 (dig_digW N) (dig_digW M) (digW_ge hM).1 h1 h2 h3 (by omega) hl
    rwa [num_digW, num_digW] at h
set_option maxRecDepth 100000 in
set_option maxHeartbeats 400000 in
theorem divMod_zero (s t : ByteArray) (w : World) (ht : t.size ≤ 40000) (h0 : nB t = 0) : Calls Tryz.prog 79 #[.string s, .string t] w fun e w' => e = .returned (.tuple #[.string (cS 0), .string (cS 0), .int .i64 1]) ∧ Below w.heap.size w w' := by
  have HZ := Lib.hid (show cS 0 = ⟨#[]⟩ by unfold cS; rw [canS_zero]; rfl)
  have HR := Lib.hid (readN t w (by omega))
  rw [h0] at HR
  have HL := Lib.hid (show (digW 0).length = 0 by rw [digW_zero]; rfl)
  clear h0 ht
  go_enter Tryz.func79, Tryz.ntmps79
  go_wp2_with fail
  refine HR.out.mono ?_
  rintro e w1 ⟨v1, rfl, ⟨A1, c1, rfl, h1, -⟩, hb1⟩
  have HB1 := Lib.hid hb1
  clear h1 hb1
  rw [HL.out]
  go_wp2
  go_ret3
  exact ⟨by rw [HZ.out]; rfl, HB1.out⟩
set_option maxRecDepth 100000 in
set_option maxHeartbeats 400000 in
theorem divModS_any (s t : ByteArray) (w : World) (hs : s.size ≤ 40000) (ht : t.size ≤ 40000) (h0 : nB t ≠ 0) : Calls Tryz.prog 79 #[.string s, .string t] w fun e w' => e = .returned (.tuple #[.string (cS (nB s / nB t)), .string (cS (nB s % nB t)), .int .i64 0]) ∧ Below w.heap.size w w' := by
  have hd1 := digW_nB s
  have hd2 := digW_nB t
  have hp := (digW_ge h0).1
  obtain ⟨n, hn⟩ : ∃ n, (digW (nB t)).length = n := ⟨_, rfl⟩
  have d0 : decide ((n : Int) = 0) = false := decide_eq_false (by omega)
  have d0' : decide (n = 0) = false := decide_eq_false (by omega)
  have d1 : ((n : Int) == 0) = false := by rw [beq_eq_false_iff_ne]; omega
  have HQ := Lib.hid (show (digW (nB s / nB t)).length ≤ 100000 from Nat.le_trans (digW_256 (Nat.lt_of_le_of_lt (Nat.div_le_self _ _) (nB_lt s))) (by omega))
  have HM := Lib.hid (show (digW (nB s % nB t)).length ≤ 100000 from Nat.le_trans (digW_256 (Nat.lt_of_le_of_lt (Nat.mod_le _ _) (nB_lt s))) (by omega))
  have HD := Lib.hid (fun A c A2 c2 w h1 h2 h3 => divMod_any (nB s) (nB t) A c A2 c2 w h0 h1 h2 h3 (by omega) (by omega))
  rw [hn] at HD
  have HT := Lib.hid (readN t w (by omega))
  have HS := Lib.hid (fun w => readN s w (by omega))
  clear h0 hd1 hd2 hp hs ht
  go_enter Tryz.func79, Tryz.ntmps79
  go_wp2_with fail
  refine HT.out.mono ?_
  rintro e w1 ⟨v1, rfl, ⟨A1, c1, rfl, h1, -⟩, hb1⟩
  rw [hn]
  have HR1 := Lib.hid h1
  have HB1 := Lib.hid hb1
  clear h1 hb1
  go_wp2_with fail
  refine (HS.out w1).mono ?_
  rintro e w2 ⟨v2, rfl, ⟨A2, c2, rfl, h2, hc2⟩, hb2⟩
  replace HR1 := Lib.hid (HR1.out.next hb2)
  have HR2 := Lib.hid (And.intro h2 hc2)
  have HB2 := Lib.hid (HB1.out.trans (hb2.mono HB1.out.size))
  clear h2 hb2 hc2
  go_wp2_with fail
  refine (HD.out A2 c2 A1 c1 w2 HR2.out.1 HR2.out.2 HR1.out).mono ?_
  rintro e w3 ⟨v3, v4, rfl, ⟨A3, c3, rfl, h3, -⟩, ⟨A4, c4, rfl, h4, -⟩, hb3⟩
  have HR3 := Lib.hid h3
  have HR4 := Lib.hid h4
  have HB3 := Lib.hid (HB2.out.trans (hb3.mono HB2.out.size))
  clear h3 h4 hb3 HR1 HR2
  go_wp2_with fail
  refine (textN (nB s / nB t) A3 c3 w3 HR3.out HQ.out).mono ?_
  rintro e w4 ⟨rfl, hb4⟩
  replace HR4 := Lib.hid (HR4.out.next hb4)
  have HB4 := Lib.hid (HB3.out.trans (hb4.mono HB3.out.size))
  clear hb4
  go_wp2_with fail
  refine (textN (nB s % nB t) A4 c4 w4 HR4.out HM.out).mono ?_
  rintro e w5 ⟨rfl, hb5⟩
  have HB5 := Lib.hid (HB4.out.trans (hb5.mono HB4.out.size))
  clear hb5
  go_wp2
  go_ret3
  exact ⟨rfl, HB5.out⟩
end Go.Proofs.YtpmlihhofmblpaaGreatDoor

/- Gcd: the plain part of its guesses. -/
namespace Go.Proofs.YtpmlihhofmblpaaGreatDoor
namespace Wn
/-- What n guessed steps say of two numbers x and y: A is the last divisor, C the last remainder. -/
structure GsP (n dx dy rx ry x y A C : Nat) : Prop where
  ev : n % 2 = 0 → dx * x = A + dy * y ∧ ry * y = C + rx * x
  od : n % 2 = 1 → dy * y = A + dx * x ∧ rx * x = C + ry * y
  com : Nat.gcd A C = Nat.gcd x y
  sum : A + C ≤ x + y
  les : 0 < n → A + C < x + y
/-- What stands in the loop of guessSteps. -/
structure GsI (X Y n dx dy rx ry a b : Nat) : Prop where
  top : a * ry + b * dy = X
  low : a * rx + b * dx = Y
  le : rx ≤ ry
  one : 1 ≤ ry
  cnt : n ≤ ry ∧ (0 < n → 1 ≤ dy) ∧ (0 < b → ry ≤ b)
  old : dx ≤ dy ∨ (n = 0 ∧ dx = 1 ∧ rx = 0)
  here : (n % 2 = 0 → dx * X = a + dy * Y ∧ ry * Y = b + rx * X) ∧ (n % 2 = 1 → dy * Y = a + dx * X ∧ rx * X = b + ry * Y)
  all : ∀ K x' y', x' < K → y' < K → ∃ A C, GsP n dx dy rx ry (X * K + x') (Y * K + y') A C ∧ (0 < b → 0 < C)
theorem GsI.start (X Y : Nat) : GsI X Y 0 1 0 0 1 X Y where
  top := by omega
  low := by omega
  le := by omega
  one := by omega
  cnt := by omega
  old := .inr ⟨rfl, rfl, rfl⟩
  here := ⟨fun _ => by omega, fun h => by omega⟩
  all := fun K x' y' _ _ => ⟨X * K + x', Y * K + y', ⟨fun _ => by omega, fun h => by omega, rfl, Nat.le_refl _, fun h => by omega⟩, fun hb => by
    have : 0 < Y * K := Nat.mul_pos hb (by omega)
    omega⟩
theorem GsI.room {X Y n dx dy rx ry a b : Nat} (h : GsI X Y n dx dy rx ry a b) (hb : 0 < b) : dy + a / b * ry ≤ X ∧ dx + a / b * rx ≤ Y := by
  have hq : a / b * b ≤ a := Nat.div_mul_le_self a b
  have key : ∀ d r T : Nat, a * r + b * d = T → d + a / b * r ≤ T := by
    intro d r T hT
    have h1 : a / b * b * r ≤ a * r := Nat.mul_le_mul_right r hq
    have h2 : a / b * b * r = b * (a / b * r) := by rw [Nat.mul_comm (a / b) b, Nat.mul_assoc]
    have h3 : d + a / b * r ≤ b * (d + a / b * r) := Nat.le_mul_of_pos_left _ hb
    rw [Nat.mul_add] at h3
    omega
  exact ⟨key _ _ _ h.top, key _ _ _ h.low⟩
theorem gs_diff {P X Q Y r K x' y' : Nat} (h : P * X = r + Q * Y) (hy : y' < K) (hQ : Q ≤ r) (h1 : 1 ≤ r ∨ 1 ≤ Q) : ∃ C, P * (X * K + x') = C + Q * (Y * K + y') ∧ 0 < C := by
  have e1 : P * (X * K + x') = r * K + Q * (Y * K) + P * x' := by rw [Nat.mul_add, ← Nat.mul_assoc, h, Nat.add_mul, Nat.mul_assoc]
  have e2 : Q * (Y * K + y') = Q * (Y * K) + Q * y' := Nat.mul_add _ _ _
  have h2 : Q * y' + Q ≤ Q * K := by rw [← Nat.mul_succ]; exact Nat.mul_le_mul_left Q hy
  have h3 : Q * K ≤ r * K := Nat.mul_le_mul_right K hQ
  have h4 : 1 ≤ r := by omega
  have h5 : 1 * K ≤ r * K := Nat.mul_le_mul_right K h4
  refine ⟨r * K - Q * y' + P * x', by omega, ?_⟩
  rcases Nat.eq_zero_or_pos Q with h0 | h0
  · subst h0; omega
  · omega
theorem gs_gcd (A C C' q : Nat) (h : A = C' + q * C) : Nat.gcd C C' = Nat.gcd A C := by
  subst h
  rw [Nat.gcd_comm (C' + q * C) C, Nat.gcd_add_mul_right_right]
theorem GsI.next {X Y n dx dy rx ry a b : Nat} (h : GsI X Y n dx dy rx ry a b) (hb : 0 < b) (hba : b < a) (hr : dy + a / b * ry ≤ a % b) :
    GsI X Y (n + 1) rx ry (dx + a / b * rx) (dy + a / b * ry) b (a % b) := by
  obtain ⟨q, hq⟩ : ∃ q, a / b = q := ⟨_, rfl⟩
  obtain ⟨r, hr2⟩ : ∃ r, a % b = r := ⟨_, rfl⟩
  have ha : a = b * q + r := by rw [← hq, ← hr2]; exact (Nat.div_add_mod a b).symm
  have hq1 : 1 ≤ q := by rw [← hq]; exact Nat.div_pos (Nat.le_of_lt hba) hb
  rw [hq, hr2] at hr ⊢
  have hqr : ry ≤ q * ry := Nat.le_mul_of_pos_left _ hq1
  have hqx : q * rx ≤ q * ry := Nat.mul_le_mul_left q h.le
  have h1 := h.one
  have hx : dx + q * rx ≤ dy + q * ry := by
    rcases h.old with h2 | ⟨_, h3, h4⟩
    · omega
    · rw [h3, h4]; omega
  have hN1 : n % 2 = 0 → (dx + q * rx) * X = r + (dy + q * ry) * Y := fun hn => by
    obtain ⟨e1, e2⟩ := h.here.1 hn
    have e3 : q * (ry * Y) = q * b + q * (rx * X) := by rw [e2, Nat.mul_add]
    rw [Nat.add_mul, Nat.add_mul, Nat.mul_assoc, Nat.mul_assoc, e1, e3, ha, Nat.mul_comm q b]
    omega
  have hN2 : n % 2 = 1 → (dy + q * ry) * Y = r + (dx + q * rx) * X := fun hn => by
    obtain ⟨e1, e2⟩ := h.here.2 hn
    have e3 : q * (rx * X) = q * b + q * (ry * Y) := by rw [e2, Nat.mul_add]
    rw [Nat.add_mul, Nat.add_mul, Nat.mul_assoc, Nat.mul_assoc, e1, e3, ha, Nat.mul_comm q b]
    omega
  obtain ⟨c1, c2, c3⟩ := h.cnt
  have hc : n + 1 ≤ dy + q * ry := by
    rcases Nat.eq_zero_or_pos n with h0 | h0
    · omega
    · have := c2 h0; omega
  refine ⟨?_, ?_, hx, by omega, ⟨hc, fun _ => h1, fun _ => hr⟩, .inl h.le, ⟨fun hn => ⟨?_, ?_⟩, fun hn => ⟨?_, ?_⟩⟩, ?_⟩
  · have := h.top
    rw [ha, Nat.add_mul, Nat.mul_assoc] at this
    rw [Nat.mul_add]
    omega
  · have := h.low
    rw [ha, Nat.add_mul, Nat.mul_assoc] at this
    rw [Nat.mul_add]
    omega
  · exact (h.here.2 (by omega)).2
  · exact hN2 (by omega)
  · exact (h.here.1 (by omega)).2
  · exact hN1 (by omega)
  · intro K x' y' hx' hy'
    obtain ⟨A, C, hp, hC⟩ := h.all K x' y' hx' hy'
    have hC := hC hb
    have fin : ∀ C', A = C' + q * C → 0 < C' → C + C' < X * K + x' + (Y * K + y') := fun C' e _ => by
      have e2 : C ≤ q * C := Nat.le_mul_of_pos_left _ hq1
      have := hp.sum
      omega
    rcases Nat.mod_two_eq_zero_or_one n with hn | hn
    · obtain ⟨e1, e2⟩ := hp.ev hn
      obtain ⟨C', e3, hC'⟩ := gs_diff (P := dx + q * rx) (Q := dy + q * ry) (x' := x') (y' := y') (K := K) (hN1 hn) hy' hr (by omega)
      have e4 : A = C' + q * C := by
        have e5 : q * (ry * (Y * K + y')) = q * C + q * (rx * (X * K + x')) := by rw [e2, Nat.mul_add]
        rw [Nat.add_mul, Nat.add_mul, Nat.mul_assoc, Nat.mul_assoc, e1, e5] at e3
        omega
      exact ⟨C, C', ⟨fun h => by omega, fun _ => ⟨e2, e3⟩, by rw [gs_gcd A C C' q e4]; exact hp.com, Nat.le_of_lt (fin C' e4 hC'), fun _ => fin C' e4 hC'⟩, fun _ => hC'⟩
    · obtain ⟨e1, e2⟩ := hp.od hn
      obtain ⟨C', e3, hC'⟩ := gs_diff (P := dy + q * ry) (Q := dx + q * rx) (X := Y) (Y := X) (x' := y') (y' := x') (K := K) (hN2 hn) hx' (by omega) (by omega)
      have e4 : A = C' + q * C := by
        have e5 : q * (rx * (X * K + x')) = q * C + q * (ry * (Y * K + y')) := by rw [e2, Nat.mul_add]
        rw [Nat.add_mul, Nat.add_mul, Nat.mul_assoc, Nat.mul_assoc, e1, e5] at e3
        omega
      exact ⟨C, C', ⟨fun _ => ⟨e2, e3⟩, fun h => by omega, by rw [gs_gcd A C C' q e4]; exact hp.com, Nat.le_of_lt (fin C' e4 hC'), fun _ => fin C' e4 hC'⟩, fun _ => hC'⟩
theorem GsI.few {X Y n dx dy rx ry a b : Nat} (h : GsI X Y n dx dy rx ry a b) (hb : 0 < b) (hba : b < a) (hX : X < B) : n ≤ 4294967296 := by
  obtain ⟨c1, _, c3⟩ := h.cnt
  have c3 := c3 hb
  rcases Nat.lt_or_ge 4294967296 n with h0 | h0
  · have h1 : 4294967296 * 4294967296 ≤ a * ry := Nat.mul_le_mul (by omega) (by omega)
    have h2 := h.top
    unfold B at hX
    omega
  · exact h0
end Wn
end Go.Proofs.YtpmlihhofmblpaaGreatDoor

/- difference.next. -/
namespace Go.Proofs.YtpmlihhofmblpaaGreatDoor
open Go.RowKit Hm Wm Wn

/-- The value of a difference. -/
def dfV (x y : Nat) : Value := .agg #[.int .u64 x, .int .u64 y]
theorem blk_new_at (W : World) (t : TypeId) (cs : List Value) {n : Nat} (h : n = W.heap.size) : Blk (W.alloc (.cells cs.toArray t)) n t cs := by subst h; exact Blk.new W t cs
set_option maxRecDepth 100000 in
set_option maxHeartbeats 400000 in
theorem next_any (dx dy rx ry q nx ny : Nat) (w : World) (hx : dx + q * rx = nx) (hy : dy + q * ry = ny) (hnx : nx < B) (hny : ny < B) :
    Calls Tryz.prog 130 #[dfV dx dy, dfV rx ry, .int .u64 q] w fun e w' => e = .returned (dfV nx ny) ∧ Below w.heap.size w w' := by
  obtain ⟨m1, h1⟩ : ∃ m, q * rx = m := ⟨_, rfl⟩
  obtain ⟨m2, h2⟩ : ∃ m, q * ry = m := ⟨_, rfl⟩
  rw [h1] at hx
  rw [h2] at hy
  have H1 := Lib.hid (fun w => run_mulW q rx m1 w (by rw [h1]; exact Nat.mod_eq_of_lt (by omega)))
  have H2 := Lib.hid (fun w => run_mulW q ry m2 w (by rw [h2]; exact Nat.mod_eq_of_lt (by omega)))
  have H3 := Lib.hid (fun w => run_addW dx m1 nx w (by rw [hx]; exact Nat.mod_eq_of_lt hnx))
  have H4 := Lib.hid (fun w => run_addW dy m2 ny w (by rw [hy]; exact Nat.mod_eq_of_lt hny))
  clear h1 h2 hx hy hnx hny
  unfold dfV
  go_enter Tryz.func130, Tryz.ntmps130
  go_wp2_with (first
    | (refine wpList_dst 12 rfl ?_; refine wpList_run 12 rfl rfl _ (exec_bin .mul 89 _ (.tmp 9) (.tmp 11) rfl _ _ _ rfl rfl rfl (H1.out _)) ?_)
    | (refine wpList_dst 13 rfl ?_; refine wpList_run 13 rfl rfl _ (exec_bin .add 89 _ (.tmp 8) (.tmp 12) rfl _ _ _ rfl rfl rfl (H3.out _)) ?_)
    | (refine wpList_dst 19 rfl ?_; refine wpList_run 19 rfl rfl _ (exec_bin .mul 89 _ (.tmp 16) (.tmp 18) rfl _ _ _ rfl rfl rfl (H2.out _)) ?_)
    | (refine wpList_dst 20 rfl ?_; refine wpList_run 20 rfl rfl _ (exec_bin .add 89 _ (.tmp 15) (.tmp 19) rfl _ _ _ rfl rfl rfl (H4.out _)) ?_))
  refine bodyPost_ret (results_blk rfl _ _ (w.heap.size + 1 + 1) _ [.int .u64 nx, .int .u64 ny] _ rfl (blk_new_at _ _ _ (by simp)) Tryz.underlying127 rfl rfl) rfl ?_
  exact ⟨rfl, (((Below.refl _ _).alloc (Nat.le_refl _) _).alloc (by simp) _).alloc (by simp; omega) _⟩
end Go.Proofs.YtpmlihhofmblpaaGreatDoor

/- guessSteps. -/
namespace Go.Proofs.YtpmlihhofmblpaaGreatDoor
open Go.RowKit Hm Wm Wn

def stL (n dx dy rx ry : Nat) : List Value := [.int .i64 n, .int .u64 dx, .int .u64 dy, .int .u64 rx, .int .u64 ry]
def stV (n dx dy rx ry : Nat) : Value := .agg (stL n dx dy rx ry).toArray
def GsB (dx dy rx ry a b : Nat) : Prop := dx < B ∧ dy < B ∧ rx < B ∧ ry < B ∧ a < B ∧ b < B
def GuR (w : World) (X Y : Nat) (xv yv : Value) (wr : World) : Prop :=
  ∃ n dx dy rx ry a b : Nat, xv = .int .u64 a ∧ yv = .int .u64 b ∧ Hid (GsI X Y n dx dy rx ry a b) ∧ Hid (GsB dx dy rx ry a b) ∧ Hid (Blk wr (w.heap.size + 1) 129 (stL n dx dy rx ry)) ∧ Hid (Blk wr w.heap.size 129 (stL 0 0 0 0 0)) ∧ Hid (Below w.heap.size w wr)
theorem stL_one (n dx dy rx ry : Nat) : ∀ v ∈ stL n dx dy rx ry, v.oneCell' = true := by
  intro v hv
  simp only [stL, List.mem_cons, List.not_mem_nil, or_false] at hv
  rcases hv with rfl | rfl | rfl | rfl | rfl <;> rfl
theorem df_one (x y : Nat) : ∀ v ∈ [Value.int .u64 (x : Int), .int .u64 (y : Int)], v.oneCell' = true := by
  intro v hv
  simp only [List.mem_cons, List.not_mem_nil, or_false] at hv
  rcases hv with rfl | rfl <;> rfl
theorem run_incB (i : Nat) (h : i ≤ 4294967296) (w : World) : (binOp .add 3 (.int .i64 i) (.int .i64 1)).run Tryz.prog w = .ok (.int .i64 ((i + 1 : Nat) : Int)) w := by
  simp [binOp, go_sem]
  simp [IntKind.wrap, IntKind.bits, IntKind.signed]; omega
theorem st_size : (Tryz.prog.info? 129).map (·.size) = some 5 := by kernel_rfl
theorem df_size : (Tryz.prog.info? 127).map (·.size) = some 2 := by kernel_rfl
theorem run_st0 (W : World) (g : Nat) : (Instr.fieldAt 129 (.pointer (some ⟨g, 0, none⟩)) 0).run Tryz.prog W = .ok (.pointer (some ⟨g, 0, none⟩)) W := by kernel_rfl
theorem run_st1 (W : World) (g : Nat) : (Instr.fieldAt 129 (.pointer (some ⟨g, 0, none⟩)) 1).run Tryz.prog W = .ok (.pointer (some ⟨g, 1, none⟩)) W := by kernel_rfl
theorem run_st2 (W : World) (g : Nat) : (Instr.fieldAt 129 (.pointer (some ⟨g, 0, none⟩)) 2).run Tryz.prog W = .ok (.pointer (some ⟨g, 3, none⟩)) W := by kernel_rfl
theorem load_st1 {W : World} {g n dx dy rx ry : Nat} (h : Blk W g 129 (stL n dx dy rx ry)) : (Instr.loadAt 127 (.pointer (some ⟨g, 1, none⟩))).run Tryz.prog W = .ok (dfV dx dy) W :=
  run_load_part W _ g 1 2 _ _ _ h (by simp [stL]) Tryz.underlying127 rfl df_size
theorem load_st2 {W : World} {g n dx dy rx ry : Nat} (h : Blk W g 129 (stL n dx dy rx ry)) : (Instr.loadAt 127 (.pointer (some ⟨g, 3, none⟩))).run Tryz.prog W = .ok (dfV rx ry) W :=
  run_load_part W _ g 3 2 _ _ _ h (by simp [stL]) Tryz.underlying127 rfl df_size
theorem df_zero : (Tryz.prog.info? 127).map (·.zero) = some (some (.agg #[.int .u64 0, .int .u64 0])) := by kernel_rfl
set_option maxRecDepth 100000 in
set_option maxHeartbeats 400000 in
theorem guess_steps (X Y : Nat) (w : World) (hX : X < B) (hY : Y < B) :
    Calls Tryz.prog 105 #[.int .u64 X, .int .u64 Y] w fun e w' => ∃ n dx dy rx ry a b, e = .returned (stV n dx dy rx ry) ∧ GsI X Y n dx dy rx ry a b ∧ GsB dx dy rx ry a b ∧ Below w.heap.size w w' := by
  have HX := Lib.hid hX
  have HY := Lib.hid hY
  clear hX hY
  go_enter Tryz.func105, Tryz.ntmps105
  go_wp2
  go_loopw [0, 1] (GuR w X Y) (fun _ b _ => (intOf b).toNat)
  case atStart => exact ⟨0, 1, 0, 0, 1, X, Y, rfl, rfl, Lib.hid (GsI.start X Y), Lib.hid ⟨by decide, by decide, by decide, by decide, HX.out, HY.out⟩, Lib.hid (blk_new_at _ _ _ (by simp)), Lib.hid ((Blk.new w 129 _).alloc _), Lib.hid (((Below.refl _ _).alloc (Nat.le_refl _) _).alloc (by simp) _)⟩
  case round =>
    obtain ⟨n, dx, dy, rx, ry, a, b, rfl, rfl, HG, HB, HK, HZ, HW⟩ := hrel
    by_cases hc : 0 < b ∧ b < a
    · obtain ⟨hb, hba⟩ := hc
      have d0 : decide ((0 : Int) < (b : Int)) = true := decide_eq_true (by omega)
      have d0' : decide (0 < b) = true := decide_eq_true (by omega)
      have d1 : decide ((b : Int) < (a : Int)) = true := decide_eq_true (by omega)
      have d1' : decide (b < a) = true := decide_eq_true (by omega)
      obtain ⟨q, hq⟩ : ∃ q, a / b = q := ⟨_, rfl⟩
      obtain ⟨r, hr⟩ : ∃ r, a % b = r := ⟨_, rfl⟩
      have HRM := Lib.hid (fun W => run_remW a b (by omega) W)
      rw [hr] at HRM
      have HQU := Lib.hid (fun W => run_quoW a b q W (by omega) HB.out.2.2.2.2.1 hq)
      obtain ⟨hny, hnx⟩ := HG.out.room hb
      have hfew := HG.out.few hb hba HX.out
      have hnext := HG.out.next hb hba
      rw [hq] at hny hnx
      rw [hq, hr] at hnext
      have hrb : r < b := by rw [← hr]; exact Nat.mod_lt a hb
      obtain ⟨nx, hnxe⟩ : ∃ z, dx + q * rx = z := ⟨_, rfl⟩
      obtain ⟨ny, hnye⟩ : ∃ z, dy + q * ry = z := ⟨_, rfl⟩
      rw [hnxe] at hnx hnext
      rw [hnye] at hny hnext
      have HCN := Lib.hid (fun W => next_any dx dy rx ry q nx ny W hnxe hnye (Nat.lt_of_le_of_lt hnx HY.out) (Nat.lt_of_le_of_lt hny HX.out))
      have HNX := Lib.hid hnext
      have HNB := Lib.hid (And.intro (Nat.lt_of_le_of_lt hnx HY.out) (Nat.lt_of_le_of_lt hny HX.out))
      have HFW := Lib.hid hfew
      have HRB := Lib.hid hrb
      clear hq hr hny hnx hfew hnext hrb hnxe hnye
      obtain ⟨gs, hgs⟩ : ∃ gs, w.heap.size + 1 = gs := ⟨_, rfl⟩
      have HGS := Lib.hid hgs
      rw [hgs] at HK
      go_wp2_with (first
        | (refine wpList_dst 20 rfl ?_; refine wpList_run 20 rfl rfl _ (exec_bin .rem 89 _ (.tmp 18) (.tmp 19) rfl _ _ _ rfl rfl rfl (HRM.out _)) ?_))
      refine late_begin (S := TillQ 9 (fun W => Blk W gs 129 (stL n dx dy rx ry))) (by kernel_rfl) ?_
      have hS1 : Blk wr.drew gs 129 (stL n dx dy rx ry) := HK.out
      have hZ0 : Blk wr.drew w.heap.size 129 (stL 0 0 0 0 0) := HZ.out
      have hW0 : Below w.heap.size w wr.drew := HW.out.drew
      generalize wr.drew = u0 at hS1 hZ0 hW0 ⊢
      have hS0 : ∀ {L}, TillQ 9 (fun W => Blk W gs 129 (stL n dx dy rx ry)) L u0 := fun _ => hS1
      refine late_take [9] (i := 0) (some 21) rfl rfl rfl (by kernel_rfl) (by kernel_rfl) (by kernel_rfl) (by kernel_rfl) (by kernel_rfl) (fun Ls W h => h.off (by decide)) (.pointer (some ⟨gs, 1, none⟩)) (fun _ _ _ h => h) (fun Ls W hl0 hW => exec_fieldAddr 129 (.tmp 5) 1 rfl _ _ rfl (run_st1 W gs)) hS0 hS0 ?_
      go_frame
      refine late_take [9] (i := 1) (some 22) rfl rfl rfl (by kernel_rfl) (by kernel_rfl) (by kernel_rfl) (by kernel_rfl) (by kernel_rfl) (fun Ls W h => h.off (by decide)) (dfV dx dy) (fun _ _ _ h => h) (fun Ls W hl0 hW => exec_load 127 (.tmp 21) rfl _ _ rfl (load_st1 (hW (hl0 9 (by simp))))) hS0 hS0 ?_
      go_frame
      refine late_take [9] (i := 2) (some 23) rfl rfl rfl (by kernel_rfl) (by kernel_rfl) (by kernel_rfl) (by kernel_rfl) (by kernel_rfl) (fun Ls W h => h.off (by decide)) (.pointer (some ⟨gs, 3, none⟩)) (fun _ _ _ h => h) (fun Ls W hl0 hW => exec_fieldAddr 129 (.tmp 5) 2 rfl _ _ rfl (run_st2 W gs)) hS0 hS0 ?_
      go_frame
      refine late_take [9] (i := 3) (some 24) rfl rfl rfl (by kernel_rfl) (by kernel_rfl) (by kernel_rfl) (by kernel_rfl) (by kernel_rfl) (fun Ls W h => h.off (by decide)) (dfV rx ry) (fun _ _ _ h => h) (fun Ls W hl0 hW => exec_load 127 (.tmp 23) rfl _ _ rfl (load_st2 (hW (hl0 9 (by simp))))) hS0 hS0 ?_
      go_frame
      refine late_take [9] (i := 4) (some 25) rfl rfl rfl (by kernel_rfl) (by kernel_rfl) (by kernel_rfl) (by kernel_rfl) (by kernel_rfl) (fun Ls W h => h.off (by decide)) (.int .u64 a) (fun _ _ _ h => h) (fun Ls W hl0 hW => exec_move (.tmp 0) rfl _ rfl) hS0 hS0 ?_
      go_frame
      refine late_take [9] (i := 5) (some 26) rfl rfl rfl (by kernel_rfl) (by kernel_rfl) (by kernel_rfl) (by kernel_rfl) (by kernel_rfl) (fun Ls W h => h.off (by decide)) (.int .u64 b) (fun _ _ _ h => h) (fun Ls W hl0 hW => exec_move (.tmp 1) rfl _ rfl) hS0 hS0 ?_
      go_frame
      refine late_take [9] (i := 6) (some 27) rfl rfl rfl (by kernel_rfl) (by kernel_rfl) (by kernel_rfl) (by kernel_rfl) (by kernel_rfl) (fun Ls W h => h.off (by decide)) (.int .u64 (q : Int)) (fun _ _ _ h => h) (fun Ls W hl0 hW => exec_bin .quo 89 _ (.tmp 25) (.tmp 26) rfl _ _ _ rfl rfl rfl (HQU.out W)) hS0 hS0 ?_
      go_frame
      refine late_two (i := 7) (j := 8) (by kernel_rfl) ?_ ?_
      · refine op_call (some 28) rfl rfl rfl rfl Tryz.func130 (by kernel_rfl) (by kernel_rfl) #[dfV dx dy, dfV rx ry, .int .u64 q] rfl (HCN.out u0) ?_
        rintro e u1 ⟨rfl, hb1⟩
        have hS2 := hS1.next hb1
        have hZ2 := hZ0.next hb1
        have hW2 := hW0.trans (hb1.mono hW0.size)
        refine ⟨_, rfl, fun _ => hS2, ?_⟩
        go_frame
        refine late_one (i := 8) (by kernel_rfl) (op_wp rfl rfl (opG_alloc (some 7) rfl 127 rfl [.int .u64 0, .int .u64 0] df_zero ⟨fun _ => hS2.alloc _, ?_⟩))
        go_frame
        have hN3 := Blk.new u1 127 [.int .u64 0, .int .u64 0]
        have hS3 := hS2.alloc (.cells #[.int .u64 0, .int .u64 0] 127)
        have hZ3 := hZ2.alloc (.cells #[.int .u64 0, .int .u64 0] 127)
        have hW3 := hW2.alloc hW2.size (.cells #[.int .u64 0, .int .u64 0] 127)
        have hl1 := hS2.lt
        have hl2 := hZ2.lt
        obtain ⟨g7, hg7⟩ : ∃ g7, u1.heap.size = g7 := ⟨_, rfl⟩
        rw [hg7] at hN3 hl1 hl2 ⊢
        generalize u1.alloc (.cells [Value.int .u64 0, .int .u64 0].toArray 127) = u3 at hN3 hS3 hZ3 hW3 ⊢
        clear hS2 hZ2 hW2 hg7
        refine late_one (i := 9) (by kernel_rfl) (op_wp rfl rfl (wp_store_part 127 (.tmp 7) (.tmp 28) rfl g7 0 _ [.int .u64 0, .int .u64 0] [.int .u64 nx, .int .u64 ny] rfl rfl hN3 (by simp) df_size (df_one _ _) (fun w6 hk6 ho6 => ⟨fun h => absurd h (by decide), late_done (by kernel_rfl) ?_ _⟩)))
        go_frame
        rw [splice_all [Value.int .u64 0, .int .u64 0] [Value.int .u64 (nx : Int), .int .u64 (ny : Int)] rfl] at hk6
        have hS6 := ho6.blk hS3 (by omega)
        have hZ6 := ho6.blk hZ3 (by omega)
        have hW6 := hW3.trans (ho6.below (by omega))
        clear hN3 hS3 hZ3 hW3 hl1 hl2
        have HK6 := Lib.hid (show Blk w6 gs 129 (stL n dx dy rx ry) from hS6)
        have HZ6 := Lib.hid (show Blk w6 w.heap.size 129 (stL 0 0 0 0 0) from hZ6)
        have HW6 := Lib.hid (show Below w.heap.size w w6 from hW6)
        have HN6 := Lib.hid hk6
        have hcl : w6.cell? ⟨g7, 1, none⟩ = some (.int .u64 (ny : Int)) := by rw [hk6.cell 1]; rfl
        have hcn : w6.cell? ⟨gs, 0, none⟩ = some (.int .i64 (n : Int)) := by rw [hS6.cell 0]; rfl
        clear hk6 ho6 hS6 hZ6 hW6
        clear hS0 hS1
        by_cases hrn : r < ny
        · have d2 : decide ((r : Int) < (ny : Int)) = true := decide_eq_true (by omega)
          have d2' : decide (r < ny) = true := decide_eq_true hrn
          clear hrn hcn
          go_wp2_with (first
            | (refine wpList_dst 42 rfl ?_; refine wpList_load_all rfl 129 (.tmp 5) rfl gs _ (stL n dx dy rx ry) _ rfl HK6.out Tryz.underlying129 rfl st_size ?_)
            | (refine wpList_store_all rfl 129 (.tmp 4) (.tmp 42) rfl w.heap.size _ (stL 0 0 0 0 0) (stL n dx dy rx ry) rfl rfl HZ6.out rfl st_size (stL_one _ _ _ _ _) ?_; intro w9 HK9 ho9; have HO9 := Lib.hid ho9; clear ho9))
          exact bodyPost_ret (results_blk rfl _ _ w.heap.size _ (stL n dx dy rx ry) _ rfl HK9.out Tryz.underlying129 rfl st_size) rfl ⟨n, dx, dy, rx, ry, a, b, rfl, HG.out, HB.out, HW6.out.trans (HO9.out.below (Nat.le_refl _))⟩
        · have d2 : decide ((r : Int) < (ny : Int)) = false := decide_eq_false (by omega)
          have d2' : decide (r < ny) = false := decide_eq_false hrn
          have HNG := Lib.hid (HNX.out (Nat.le_of_not_lt hrn))
          clear hrn
          go_wp2_with (first
            | (refine wpList_dst 37 rfl ?_; refine wpList_run 37 rfl rfl _ (exec_bin .add 3 _ (.tmp 36) (.const (.int .i64 1)) rfl _ _ _ rfl rfl rfl (run_incB n HFW.out _)) ?_)
            | (refine wpList_dst 39 rfl ?_; refine wpList_load_part rfl 127 (.tmp 38) rfl gs 3 _ (stL n dx dy rx ry) [.int .u64 rx, .int .u64 ry] _ rfl HK6.out rfl Tryz.underlying127 rfl df_size ?_)
            | (refine wpList_dst 40 rfl ?_; refine wpList_load_all rfl 127 (.tmp 7) rfl g7 _ [.int .u64 nx, .int .u64 ny] _ rfl HN6.out Tryz.underlying127 rfl df_size ?_)
            | (refine wpList_store_all rfl 129 (.tmp 5) (.tmp 41) rfl gs _ (stL n dx dy rx ry) (stL (n + 1) rx ry nx ny) rfl rfl HK6.out rfl st_size (stL_one _ _ _ _ _) ?_; intro w9 HK9 ho9; have HO9 := Lib.hid ho9; clear ho9))
          have HZ9 := Lib.hid (HO9.out.blk HZ6.out (by have := HGS.out; omega))
          have HW9 := Lib.hid (HW6.out.trans (HO9.out.below (by have := HGS.out; omega)))
          have hge := HGS.out
          subst hge
          go_frame
          go_roundw
          case rel =>
            exact ⟨n + 1, rx, ry, nx, ny, b, r, rfl, rfl, HNG, Lib.hid ⟨HB.out.2.2.1, HB.out.2.2.2.1, HNB.out.1, HNB.out.2, HB.out.2.2.2.2.2, Nat.lt_trans HRB.out HB.out.2.2.2.2.2⟩, HK9, HZ9, HW9⟩
          case measure => simp [intOf]; exact HRB.out
      · refine op_wp rfl rfl (opG_alloc (some 7) rfl 127 rfl [.int .u64 0, .int .u64 0] df_zero ⟨fun _ => hS1.alloc _, ?_⟩)
        go_frame
        have hN2 := Blk.new u0 127 [.int .u64 0, .int .u64 0]
        have hS2 := hS1.alloc (.cells #[.int .u64 0, .int .u64 0] 127)
        have hZ2 := hZ0.alloc (.cells #[.int .u64 0, .int .u64 0] 127)
        have hW2 := hW0.alloc hW0.size (.cells #[.int .u64 0, .int .u64 0] 127)
        have hl1 := hS1.lt
        have hl2 := hZ0.lt
        obtain ⟨g7, hg7⟩ : ∃ g7, u0.heap.size = g7 := ⟨_, rfl⟩
        rw [hg7] at hN2 hl1 hl2 ⊢
        generalize u0.alloc (.cells [Value.int .u64 0, .int .u64 0].toArray 127) = u1 at hN2 hS2 hZ2 hW2 ⊢
        refine late_one (i := 7) (by kernel_rfl) (op_call (some 28) rfl rfl rfl rfl Tryz.func130 (by kernel_rfl) (by kernel_rfl) #[dfV dx dy, dfV rx ry, .int .u64 q] rfl (HCN.out u1) ?_)
        rintro e u3 ⟨rfl, hb1⟩
        have hN3 := hN2.next hb1
        have hS3 := hS2.next hb1
        have hZ3 := hZ2.next hb1
        have hW3 := hW2.trans (hb1.mono hW2.size)
        refine ⟨_, rfl, fun _ => hS3, ?_⟩
        go_frame
        clear hS2 hZ2 hW2 hN2 hg7
        refine late_one (i := 9) (by kernel_rfl) (op_wp rfl rfl (wp_store_part 127 (.tmp 7) (.tmp 28) rfl g7 0 _ [.int .u64 0, .int .u64 0] [.int .u64 nx, .int .u64 ny] rfl rfl hN3 (by simp) df_size (df_one _ _) (fun w6 hk6 ho6 => ⟨fun h => absurd h (by decide), late_done (by kernel_rfl) ?_ _⟩)))
        go_frame
        rw [splice_all [Value.int .u64 0, .int .u64 0] [Value.int .u64 (nx : Int), .int .u64 (ny : Int)] rfl] at hk6
        have hS6 := ho6.blk hS3 (by omega)
        have hZ6 := ho6.blk hZ3 (by omega)
        have hW6 := hW3.trans (ho6.below (by omega))
        clear hN3 hS3 hZ3 hW3 hl1 hl2
        have HK6 := Lib.hid (show Blk w6 gs 129 (stL n dx dy rx ry) from hS6)
        have HZ6 := Lib.hid (show Blk w6 w.heap.size 129 (stL 0 0 0 0 0) from hZ6)
        have HW6 := Lib.hid (show Below w.heap.size w w6 from hW6)
        have HN6 := Lib.hid hk6
        have hcl : w6.cell? ⟨g7, 1, none⟩ = some (.int .u64 (ny : Int)) := by rw [hk6.cell 1]; rfl
        have hcn : w6.cell? ⟨gs, 0, none⟩ = some (.int .i64 (n : Int)) := by rw [hS6.cell 0]; rfl
        clear hk6 ho6 hS6 hZ6 hW6
        clear hS0 hS1
        by_cases hrn : r < ny
        · have d2 : decide ((r : Int) < (ny : Int)) = true := decide_eq_true (by omega)
          have d2' : decide (r < ny) = true := decide_eq_true hrn
          clear hrn hcn
          go_wp2_with (first
            | (refine wpList_dst 42 rfl ?_; refine wpList_load_all rfl 129 (.tmp 5) rfl gs _ (stL n dx dy rx ry) _ rfl HK6.out Tryz.underlying129 rfl st_size ?_)
            | (refine wpList_store_all rfl 129 (.tmp 4) (.tmp 42) rfl w.heap.size _ (stL 0 0 0 0 0) (stL n dx dy rx ry) rfl rfl HZ6.out rfl st_size (stL_one _ _ _ _ _) ?_; intro w9 HK9 ho9; have HO9 := Lib.hid ho9; clear ho9))
          exact bodyPost_ret (results_blk rfl _ _ w.heap.size _ (stL n dx dy rx ry) _ rfl HK9.out Tryz.underlying129 rfl st_size) rfl ⟨n, dx, dy, rx, ry, a, b, rfl, HG.out, HB.out, HW6.out.trans (HO9.out.below (Nat.le_refl _))⟩
        · have d2 : decide ((r : Int) < (ny : Int)) = false := decide_eq_false (by omega)
          have d2' : decide (r < ny) = false := decide_eq_false hrn
          have HNG := Lib.hid (HNX.out (Nat.le_of_not_lt hrn))
          clear hrn
          go_wp2_with (first
            | (refine wpList_dst 37 rfl ?_; refine wpList_run 37 rfl rfl _ (exec_bin .add 3 _ (.tmp 36) (.const (.int .i64 1)) rfl _ _ _ rfl rfl rfl (run_incB n HFW.out _)) ?_)
            | (refine wpList_dst 39 rfl ?_; refine wpList_load_part rfl 127 (.tmp 38) rfl gs 3 _ (stL n dx dy rx ry) [.int .u64 rx, .int .u64 ry] _ rfl HK6.out rfl Tryz.underlying127 rfl df_size ?_)
            | (refine wpList_dst 40 rfl ?_; refine wpList_load_all rfl 127 (.tmp 7) rfl g7 _ [.int .u64 nx, .int .u64 ny] _ rfl HN6.out Tryz.underlying127 rfl df_size ?_)
            | (refine wpList_store_all rfl 129 (.tmp 5) (.tmp 41) rfl gs _ (stL n dx dy rx ry) (stL (n + 1) rx ry nx ny) rfl rfl HK6.out rfl st_size (stL_one _ _ _ _ _) ?_; intro w9 HK9 ho9; have HO9 := Lib.hid ho9; clear ho9))
          have HZ9 := Lib.hid (HO9.out.blk HZ6.out (by have := HGS.out; omega))
          have HW9 := Lib.hid (HW6.out.trans (HO9.out.below (by have := HGS.out; omega)))
          have hge := HGS.out
          subst hge
          go_frame
          go_roundw
          case rel =>
            exact ⟨n + 1, rx, ry, nx, ny, b, r, rfl, rfl, HNG, Lib.hid ⟨HB.out.2.2.1, HB.out.2.2.2.1, HNB.out.1, HNB.out.2, HB.out.2.2.2.2.2, Nat.lt_trans HRB.out HB.out.2.2.2.2.2⟩, HK9, HZ9, HW9⟩
          case measure => simp [intOf]; exact HRB.out
    · have hbool : (decide ((0 : Int) < (b : Int)) && decide ((b : Int) < (a : Int))) = false := by
        rw [Bool.and_eq_false_iff, decide_eq_false_iff_not, decide_eq_false_iff_not]; omega
      by_cases hb : 0 < b
      · have d0 : decide ((0 : Int) < (b : Int)) = true := decide_eq_true (by omega)
        have d0' : decide (0 < b) = true := decide_eq_true (by omega)
        have d1 : decide ((b : Int) < (a : Int)) = false := decide_eq_false (by omega)
        have d1' : decide (b < a) = false := decide_eq_false (by omega)
        go_wp2_with (first
          | (refine wpList_dst 42 rfl ?_; refine wpList_load_all rfl 129 (.tmp 5) rfl (w.heap.size + 1) _ (stL n dx dy rx ry) _ rfl HK.out Tryz.underlying129 rfl st_size ?_)
          | (refine wpList_store_all rfl 129 (.tmp 4) (.tmp 42) rfl w.heap.size _ (stL 0 0 0 0 0) (stL n dx dy rx ry) rfl rfl HZ.out rfl st_size (stL_one _ _ _ _ _) ?_; intro w9 HK9 ho9; have HO9 := Lib.hid ho9; clear ho9))
        exact bodyPost_ret (results_blk rfl _ _ w.heap.size _ (stL n dx dy rx ry) _ rfl HK9.out Tryz.underlying129 rfl st_size) rfl ⟨n, dx, dy, rx, ry, a, b, rfl, HG.out, HB.out, HW.out.trans (HO9.out.below (Nat.le_refl _))⟩
      · have d0 : decide ((0 : Int) < (b : Int)) = false := decide_eq_false (by omega)
        have d0' : decide (0 < b) = false := decide_eq_false (by omega)
        go_wp2_with (first
          | (refine wpList_dst 42 rfl ?_; refine wpList_load_all rfl 129 (.tmp 5) rfl (w.heap.size + 1) _ (stL n dx dy rx ry) _ rfl HK.out Tryz.underlying129 rfl st_size ?_)
          | (refine wpList_store_all rfl 129 (.tmp 4) (.tmp 42) rfl w.heap.size _ (stL 0 0 0 0 0) (stL n dx dy rx ry) rfl rfl HZ.out rfl st_size (stL_one _ _ _ _ _) ?_; intro w9 HK9 ho9; have HO9 := Lib.hid ho9; clear ho9))
        exact bodyPost_ret (results_blk rfl _ _ w.heap.size _ (stL n dx dy rx ry) _ rfl HK9.out Tryz.underlying129 rfl st_size) rfl ⟨n, dx, dy, rx, ry, a, b, rfl, HG.out, HB.out, HW.out.trans (HO9.out.below (Nat.le_refl _))⟩
end Go.Proofs.YtpmlihhofmblpaaGreatDoor

/- Variables and function values; the leading bits. -/
namespace Go.Proofs.YtpmlihhofmblpaaGreatDoor
open Go.RowKit Hm Wm Wn

theorem run_load_var {W : World} {g : Nat} {T : TypeId} {v : Value} (ty : TypeId) (hag : ∀ W, (isAgg ty).run Tryz.prog W = .ok false W) (h : Blk W g T [v]) : (Instr.loadAt ty (.pointer (some ⟨g, 0, none⟩))).run Tryz.prog W = .ok v W := by
  have hc := h.cell 0
  simp [Instr.loadAt, Instr.sureAddr, loadVar, hag, run_load, hc]
theorem run_store_var {w : World} {g : Nat} {T : TypeId} {v0 : Value} (ty : TypeId) (v : Value) (hb : Blk w g T [v0]) (hi : (Tryz.prog.info? ty).map (·.size) = some 1) (h1 : v.oneCell' = true) (hv : v.cells = #[v]) :
    (Instr.storeAt ty (.pointer (some ⟨g, 0, none⟩)) v).run Tryz.prog w = .ok () (w.setRow g #[v]) := by
  have h := run_storeCells_at Tryz.prog g 0 T [v] 0 #[v0] w hb (by simp) (by intro u hu; rw [List.mem_singleton.1 hu]; exact h1)
  cases hq : Tryz.prog.info? ty with
  | none => simp [hq] at hi
  | some i =>
    have hs : i.size = 1 := by simpa [hq] using hi
    simp at h
    simp [Instr.storeAt, Instr.sureAddr, storeVar, sizeOf, typeInfo, hq, hv, hs, h]
/-- A variable of one cell is stored. -/
theorem wp_store_var {w : World} {op : Oper} {a : Act} {K : Act → World → Prop} {Q : Exit → Act → World → Prop} (ty : TypeId) (x y : Operand) (ho : op.op = .store ty x y)
    (g : Nat) (t : TypeId) (v0 v : Value) (hx : a.eval x = .pointer (some ⟨g, 0, none⟩)) (hy : a.eval y = v) (hb : Blk w g t [v0]) (hsz : (Tryz.prog.info? ty).map (·.size) = some 1) (h1 : v.oneCell' = true) (hv : v.cells = #[v])
    (h : ∀ w', Blk w' g t [v] → Only g w w' → K (a.put op.dst undef) w') : op.wp Tryz.prog a w K Q := by
  have hrun := run_store_var ty v hb hsz h1 hv
  unfold Oper.wp execOp
  simp only [ho, hx, hy, Sem.run_bind, hrun, Result.andThen_ok]
  exact h _ (setRow_heap w g _ _ t _ hb) (Only.setRow w g _)
theorem op_store_var {ops : Array Oper} {i : Nat} {oi : Oper} {a : Act} {w : World} {K : Act → World → Prop} {Q : Exit → Act → World → Prop} (hi : ops[i]? = some oi) (hd : oi.dst = none) (hgd : oi.guard = none) (ty : TypeId) (x y : Operand) (ho : oi.op = .store ty x y)
    (g : Nat) (t : TypeId) (v0 v : Value) (hx : a.eval x = .pointer (some ⟨g, 0, none⟩)) (hy : a.eval y = v) (hb : Blk w g t [v0]) (hsz : (Tryz.prog.info? ty).map (·.size) = some 1) (h1 : v.oneCell' = true) (hv : v.cells = #[v])
    (h : ∀ w', Blk w' g t [v] → Only g w w' → K (a.put none undef) w') : wpOp Tryz.prog ops Q i K a w :=
  op_wp hi hgd (wp_store_var ty x y ho g t v0 v hx hy hb hsz h1 hv (by rw [hd]; exact h))
theorem wpList_store_var {w : World} {ops : Array Oper} {rest : List Oper} {op : Oper} {a : Act} {Q : Exit → Act → World → Prop} (hgd : op.guard = none) (ty : TypeId) (x y : Operand) (ho : op.op = .store ty x y)
    (g : Nat) (t : TypeId) (v0 v : Value) (hx : a.eval x = .pointer (some ⟨g, 0, none⟩)) (hy : a.eval y = v) (hb : Blk w g t [v0]) (hsz : (Tryz.prog.info? ty).map (·.size) = some 1) (h1 : v.oneCell' = true) (hv : v.cells = #[v])
    (h : ∀ w', Hid (Blk w' g t [v]) → Only g w w' → wpList Tryz.prog ops Q rest (a.put op.dst undef) w') : wpList Tryz.prog ops Q (op :: rest) a w :=
  wpList_plain hgd fun _ hK => wp_store_var ty x y ho g t v0 v hx hy hb hsz h1 hv fun w' e1 e2 => hK _ _ (h w' e1 e2)
theorem wpList_load_var {w : World} {ops : Array Oper} {rest : List Oper} {op : Oper} {a : Act} {Q : Exit → Act → World → Prop} (hgd : op.guard = none) (ty : TypeId) (x : Operand) (ho : op.op = .load ty x)
    (g : Nat) (t : TypeId) (v : Value) (hx : a.eval x = .pointer (some ⟨g, 0, none⟩)) (hb : Blk w g t [v]) (hag : ∀ W, (isAgg ty).run Tryz.prog W = .ok false W)
    (h : wpList Tryz.prog ops Q rest (a.put op.dst v) w) : wpList Tryz.prog ops Q (op :: rest) a w := by
  have hrun := run_load_var ty hag hb
  refine wpList_plain hgd fun K hK => ?_
  unfold Oper.wp execOp
  simp only [ho, hx, Sem.run_bind, hrun, Result.andThen_ok]
  exact hK _ _ h
section
variable {P : Program} {md : Region.Mode} {ops : Array Oper} {Q : Exit → Act → World → Prop} {S : World → Prop} {i fuel : Nat} {oi : Oper} {listed : Array Bool} {a : Act} {w : World}
/-- A function value is called. -/
theorem wp_call_val {K : Act → World → Prop} {F : FuncId} {caps : Array Value} (x : Operand) {xs : Array Operand} {ts : Array TypeId} (ho : oi.op = .call { callee := .value x, args := xs, argTypes := ts }) (hx : a.eval x = .func (.func F) #[] caps) {fn : Func} (hf : P.funcs[F]? = some fn) (hn : (fn.name == "runtime.NumGoroutine") = false) (hb : fn.body.isNone = false) (vs : Array Value) (hvs : xs.toList.map a.eval ++ caps.toList = vs.toList)
    {R : Ending → World → Prop} (hc : Calls P F vs w R) (h : ∀ e w', R e w' → ∃ v, e = .returned v ∧ K (a.put oi.dst v) w') : oi.wp P a w K Q := by
  obtain rfl : xs.map a.eval ++ caps = vs := by apply Array.toList_inj.1; simpa using hvs
  have hrun : (execOp a.eval oi).run P w = .ok (.enter F (xs.map a.eval ++ caps)) w := by
    simp [execOp, ho, resolve, invoke, Deferred.ofValue, hx, callFunc_enter hf hn hb]
  unfold Oper.wp
  rw [hrun]
  refine Calls.mono hc fun e w' hR => ?_
  obtain ⟨v, rfl, hk⟩ := h e w' hR
  exact hk
theorem wpList_call_val {rest : List Oper} (hgd : oi.guard = none) {F : FuncId} {caps : Array Value} (x : Operand) {xs : Array Operand} {ts : Array TypeId} (ho : oi.op = .call { callee := .value x, args := xs, argTypes := ts }) (hx : a.eval x = .func (.func F) #[] caps) {fn : Func} (hf : P.funcs[F]? = some fn) (hn : (fn.name == "runtime.NumGoroutine") = false) (hb : fn.body.isNone = false) (vs : Array Value) (hvs : xs.toList.map a.eval ++ caps.toList = vs.toList)
    {R : Ending → World → Prop} (hc : Calls P F vs w R) (h : ∀ e w', R e w' → ∃ v, e = .returned v ∧ wpList P ops Q rest (a.put oi.dst v) w') : wpList P ops Q (oi :: rest) a w :=
  wpList_plain hgd fun _ hK => wp_call_val x ho hx hf hn hb vs hvs hc fun e w' hR => by
    obtain ⟨v, rfl, hk⟩ := h e w' hR
    exact ⟨v, rfl, hK _ _ hk⟩
theorem op_call_val {K : Act → World → Prop} (d : Option Tmp) {F : FuncId} {caps : Array Value} (x : Operand) {xs : Array Operand} {ts : Array TypeId} (hi : ops[i]? = some oi) (hd : oi.dst = d) (hgd : oi.guard = none) (ho : oi.op = .call { callee := .value x, args := xs, argTypes := ts }) (hx : a.eval x = .func (.func F) #[] caps)
    {fn : Func} (hf : P.funcs[F]? = some fn) (hn : (fn.name == "runtime.NumGoroutine") = false) (hb : fn.body.isNone = false) (vs : Array Value) (hvs : xs.toList.map a.eval ++ caps.toList = vs.toList) {R : Ending → World → Prop} (hc : Calls P F vs w R)
    (h : ∀ e w', R e w' → ∃ v, e = .returned v ∧ K (a.put d v) w') : wpOp P ops Q i K a w := by
  subst hd
  exact op_wp hi hgd (wp_call_val x ho hx hf hn hb vs hvs hc h)
end

theorem int_flat (W : World) : (isAgg 3).run Tryz.prog W = .ok false W := by kernel_rfl
theorem exec_loadI {oi : Oper} {a : Act} {w : World} {g o : Nat} (x : Operand) (ho : oi.op = .load 3 x) (v : Value) (hx : a.eval x = .pointer (some ⟨g, o, none⟩)) (h : w.cell? ⟨g, o, none⟩ = some v) : (execOp a.eval oi).run Tryz.prog w = .ok (.value v) w :=
  exec_load 3 x ho _ _ hx (run_load_cell int_flat h)
theorem run_sub2I (n : Nat) (h : 2 ≤ n) (h2 : n ≤ 1000000) (w : World) : (binOp .sub 3 (.int .i64 n) (.int .i64 2)).run Tryz.prog w = .ok (.int .i64 ((n - 2 : Nat) : Int)) w := by
  simp [binOp, go_sem]
  simp [IntKind.wrap, IntKind.bits, IntKind.signed]; omega
theorem digW_getD (N : Nat) : ∀ k, (digW N).getD k 0 = N / B ^ k % B := by
  intro k
  induction k generalizing N with
  | zero =>
    by_cases h : N = 0
    · subst h; rw [digW_zero]; simp
    · rw [digW_pos h]; simp
  | succ k ih =>
    by_cases h : N = 0
    · subst h; rw [digW_zero]; simp
    · rw [digW_pos h, List.getD_cons_succ, ih, Nat.div_div_eq_div_mul, Nat.pow_succ, Nat.mul_comm B]
/-- The leading bits. -/
theorem top_digits {N n s : Nat} (hn : 2 ≤ n) (hs : s ≤ 63) (hN : N < B ^ n) : N / (B ^ (n - 2) * 2 ^ (64 - s)) = (digW N).getD (n - 1) 0 * 2 ^ s + (digW N).getD (n - 2) 0 / 2 ^ (64 - s) := by
  rw [← Nat.div_div_eq_div_mul, digW_getD, digW_getD]
  have e1 : B ^ (n - 1) = B ^ (n - 2) * B := by rw [← Nat.pow_succ]; congr 1; omega
  have e2 : B ^ n = B ^ (n - 2) * (B * B) := by rw [← Nat.mul_assoc, ← Nat.pow_succ, ← Nat.pow_succ]; congr 1; omega
  rw [e1, ← Nat.div_div_eq_div_mul]
  have hM : N / B ^ (n - 2) < B * B := Nat.div_lt_of_lt_mul (by rw [← e2]; exact hN)
  generalize N / B ^ (n - 2) = M at *
  rw [Nat.mod_eq_of_lt (Nat.div_lt_of_lt_mul hM)]
  have e3 : M = M % B + 2 ^ (64 - s) * (M / B * 2 ^ s) := by
    conv => lhs; rw [← Nat.mod_add_div M B]
    rw [← Nat.mul_assoc, Nat.mul_comm (2 ^ (64 - s)), Nat.mul_assoc, Nat.mul_comm (2 ^ (64 - s)), dn_two (by omega), Nat.mul_comm (M / B)]
  conv => lhs; rw [e3]
  rw [Nat.add_mul_div_left _ _ (Nat.two_pow_pos _)]
  omega

set_option maxRecDepth 100000 in
set_option maxHeartbeats 400000 in
theorem at_any (A : Option Addr) (c : Nat) (D : List Nat) (n s gn gs : Nat) (w : World) (hr : RdW w A D) (hD : Dig D) (hn : 2 ≤ n) (hn2 : n ≤ 100000) (hs : s ≤ 63) (hb : D.getD (n - 1) 0 * 2 ^ s < B)
    (h1 : w.cell? ⟨gn, 0, none⟩ = some (.int .i64 (n : Int))) (h2 : w.cell? ⟨gs, 0, none⟩ = some (.int .i64 (s : Int))) :
    Calls Tryz.prog 131 #[.slice A D.length c, .pointer (some ⟨gn, 0, none⟩), .pointer (some ⟨gs, 0, none⟩)] w fun e w' => e = .returned (.int .u64 (D.getD (n - 1) 0 * 2 ^ s + D.getD (n - 2) 0 / 2 ^ (64 - s) : Nat)) ∧ Below w.heap.size w w' := by
  have HD1 := Lib.hid (fun W h => digit_any A c D (n - 1) W h)
  have HD2 := Lib.hid (fun W h => digit_any A c D (n - 2) W h)
  have hx0 : D.getD (n - 2) 0 < B := by
    rw [List.getD_eq_getElem?_getD]
    cases h : D[n - 2]? with
    | none => exact B_pos
    | some v => exact hD v (List.mem_of_getElem? h)
  obtain ⟨x1, hx1⟩ : ∃ x, D.getD (n - 1) 0 = x := ⟨_, rfl⟩
  obtain ⟨x0, hx0e⟩ : ∃ x, D.getD (n - 2) 0 = x := ⟨_, rfl⟩
  rw [hx1] at hb HD1 ⊢
  rw [hx0e] at hx0 HD2 ⊢
  obtain ⟨z, hz⟩ : ∃ z, x1 * 2 ^ s = z := ⟨_, rfl⟩
  obtain ⟨y, hy⟩ : ∃ y, x0 / 2 ^ (64 - s) = y := ⟨_, rfl⟩
  have hlow := dv_low hs hx0
  have hys : y < 2 ^ s := by rw [← hy]; exact hlow.1
  have hzy : z + y < B := by
    have e := dn_two (s := s) (by omega)
    have h3 : x1 < 2 ^ (64 - s) := by
      refine Nat.lt_of_mul_lt_mul_right (a := 2 ^ s) ?_
      rw [Nat.mul_comm (2 ^ (64 - s)), e]; exact hb
    have h4 : (x1 + 1) * 2 ^ s ≤ 2 ^ (64 - s) * 2 ^ s := Nat.mul_le_mul_right _ h3
    rw [Nat.mul_comm (2 ^ (64 - s)), e, Nat.succ_mul, hz] at h4
    omega
  have HSL := Lib.hid (fun W => run_shlI x1 z s W (by omega) (by rw [← hz]; exact Nat.mod_eq_of_lt hb))
  have HSR := Lib.hid (fun W => run_shrI x0 y (64 - s) W (by omega) hy)
  have HOR := Lib.hid (fun W => run_orW z y s W x1 hz hys hzy)
  rw [hz, hy]
  have HRR := Lib.hid hr
  clear hr hD hb hx0 hx1 hx0e hz hy hlow hys hzy
  go_enter Tryz.func131, Tryz.ntmps131
  go_wp2
  refine wp_region_held_drew (S := fun W => (W.cell? ⟨gn, 0, none⟩ = some (.int .i64 (n : Int)) ∧ W.cell? ⟨gs, 0, none⟩ = some (.int .i64 (s : Int))) ∧ RdW W A D ∧ Below w.heap.size w W) (by kernel_rfl) ⟨⟨h1, h2⟩, HRR.out, (Below.refl _ _).drew⟩ (fun hS => ?_)
  generalize w.drew = u0 at hS ⊢
  refine reg_takeG (i := 0) (some 5) rfl rfl rfl (by kernel_rfl) (by kernel_rfl) (by kernel_rfl) (.slice A D.length c) (fun _ _ _ h => h) (fun W hW => exec_move (.tmp 0) rfl _ rfl) hS ?_
  go_frame
  refine reg_takeG (i := 1) (some 6) rfl rfl rfl (by kernel_rfl) (by kernel_rfl) (by kernel_rfl) (.int .i64 n) (fun _ _ _ h => h) (fun W hW => exec_loadI (.tmp 1) rfl _ rfl hW.1.1) hS ?_
  go_frame
  refine reg_takeG (i := 2) (some 7) rfl rfl rfl (by kernel_rfl) (by kernel_rfl) (by kernel_rfl) (.int .i64 ((n - 1 : Nat) : Int)) (fun _ _ _ h => h) (fun W hW => exec_bin .sub 3 _ (.tmp 6) (.const (.int .i64 1)) rfl _ _ _ rfl rfl rfl (run_sub1I n (by omega) (by omega) W)) hS ?_
  go_frame
  refine reg_takeG (i := 4) (some 9) rfl rfl rfl (by kernel_rfl) (by kernel_rfl) (by kernel_rfl) (.int .i64 s) (fun _ _ _ h => h) (fun W hW => exec_loadI (.tmp 2) rfl _ rfl hW.1.2) hS ?_
  go_frame
  refine reg_takeG (i := 6) (some 11) rfl rfl rfl (by kernel_rfl) (by kernel_rfl) (by kernel_rfl) (.slice A D.length c) (fun _ _ _ h => h) (fun W hW => exec_move (.tmp 0) rfl _ rfl) hS ?_
  go_frame
  refine reg_takeG (i := 7) (some 12) rfl rfl rfl (by kernel_rfl) (by kernel_rfl) (by kernel_rfl) (.int .i64 n) (fun _ _ _ h => h) (fun W hW => exec_loadI (.tmp 1) rfl _ rfl hW.1.1) hS ?_
  go_frame
  refine reg_takeG (i := 8) (some 13) rfl rfl rfl (by kernel_rfl) (by kernel_rfl) (by kernel_rfl) (.int .i64 ((n - 2 : Nat) : Int)) (fun _ _ _ h => h) (fun W hW => exec_bin .sub 3 _ (.tmp 12) (.const (.int .i64 2)) rfl _ _ _ rfl rfl rfl (run_sub2I n (by omega) (by omega) W)) hS ?_
  go_frame
  refine reg_takeG (i := 10) (some 15) rfl rfl rfl (by kernel_rfl) (by kernel_rfl) (by kernel_rfl) (.int .i64 s) (fun _ _ _ h => h) (fun W hW => exec_loadI (.tmp 2) rfl _ rfl hW.1.2) hS ?_
  go_frame
  refine reg_takeG (i := 11) (some 16) rfl rfl rfl (by kernel_rfl) (by kernel_rfl) (by kernel_rfl) (.int .i64 ((64 - s : Nat) : Int)) (fun _ _ _ h => h) (fun W hW => exec_bin .sub 3 _ (.const (.int .i64 64)) (.tmp 15) rfl _ _ _ rfl rfl rfl (run_backI s (by omega) W)) hS ?_
  go_frame
  refine reg_callG (i := 3) (some 8) rfl rfl rfl (by kernel_rfl) rfl Tryz.func86 (by kernel_rfl) (by kernel_rfl) #[.slice A D.length c, .int .i64 ((n - 1 : Nat) : Int)] rfl (HD1.out u0 hS.2.1) ?_
  rintro e u1 ⟨rfl, hw⟩
  obtain rfl : u0 = u1 := hw.symm
  clear hw
  refine ⟨_, rfl, hS, ?_⟩
  go_frame
  refine reg_takeG (i := 5) (some 10) rfl rfl rfl (by kernel_rfl) (by kernel_rfl) (by kernel_rfl) (.int .u64 z) (fun _ _ _ h => h) (fun W hW => exec_bin .shl 89 _ (.tmp 8) (.tmp 9) rfl _ _ _ rfl rfl rfl (HSL.out W)) hS ?_
  go_frame
  refine reg_callG (i := 9) (some 14) rfl rfl rfl (by kernel_rfl) rfl Tryz.func86 (by kernel_rfl) (by kernel_rfl) #[.slice A D.length c, .int .i64 ((n - 2 : Nat) : Int)] rfl (HD2.out u0 hS.2.1) ?_
  rintro e u1 ⟨rfl, hw⟩
  obtain rfl : u0 = u1 := hw.symm
  clear hw
  refine ⟨_, rfl, hS, ?_⟩
  go_frame
  refine reg_takeG (i := 12) (some 17) rfl rfl rfl (by kernel_rfl) (by kernel_rfl) (by kernel_rfl) (.int .u64 y) (fun _ _ _ h => h) (fun W hW => exec_bin .shr 89 _ (.tmp 14) (.tmp 16) rfl _ _ _ rfl rfl rfl (HSR.out W)) hS ?_
  go_frame
  refine reg_takeG (i := 13) (some 18) rfl rfl rfl (by kernel_rfl) (by kernel_rfl) (by kernel_rfl) (.int .u64 ((z + y : Nat) : Int)) (fun _ _ _ h => h) (fun W hW => exec_bin .or 89 _ (.tmp 10) (.tmp 17) rfl _ _ _ rfl rfl rfl (HOR.out W)) hS ?_
  go_frame
  refine reg_takeG (i := 14) (some 4) rfl rfl rfl (by kernel_rfl) (by kernel_rfl) (by kernel_rfl) (.int .u64 ((z + y : Nat) : Int)) (fun _ _ _ h => h) (fun W hW => exec_assign (.tmp 18) rfl _ rfl) hS ?_
  go_frame
  refine wpAnyH_done (by kernel_rfl) ?_ _
  have HB := Lib.hid hS.2.2
  go_wp2
  go_ret
  exact ⟨rfl, HB.out⟩
end Go.Proofs.YtpmlihhofmblpaaGreatDoor

/- leading. -/
namespace Go.Proofs.YtpmlihhofmblpaaGreatDoor
open Go.RowKit Hm Wm Wn

theorem lead_lt {x1 x0 s : Nat} (hs : s ≤ 63) (h0 : x0 < B) (hb : x1 * 2 ^ s < B) : x1 * 2 ^ s + x0 / 2 ^ (64 - s) < B := by
  have e := dn_two (s := s) (by omega)
  have hl := (dv_low hs h0).1
  have h3 : x1 < 2 ^ (64 - s) := by
    refine Nat.lt_of_mul_lt_mul_right (a := 2 ^ s) ?_
    rw [Nat.mul_comm (2 ^ (64 - s)), e]; exact hb
  have h4 : (x1 + 1) * 2 ^ s ≤ 2 ^ (64 - s) * 2 ^ s := Nat.mul_le_mul_right _ h3
  rw [Nat.mul_comm (2 ^ (64 - s)), e, Nat.succ_mul] at h4
  omega
theorem rd_at {W : World} {b off k v : Nat} {l : List Nat} (h : RdW W (some ⟨b, off, none⟩) l) (hv : l[k]? = some v) : W.cell? ⟨b, off + k, none⟩ = some (.int .u64 (v : Int)) := by
  have h1 : (ws l)[k]? = some (.int .u64 (v : Int)) := by unfold ws; rw [List.getElem?_map, hv]; rfl
  obtain ⟨b2, off2, e, hc⟩ := Rd.at_ h h1
  cases e
  exact hc
theorem int_size : (Tryz.prog.info? 3).map (·.size) = some 1 := by kernel_rfl
theorem int_zero : (Tryz.prog.info? 3).map (·.zero) = some (some (.int .i64 0)) := by kernel_rfl
theorem opV_alloc {P : Program} {Q : Exit → Act → World → Prop} {oi : Oper} {a : Act} {w : World} {K : Act → World → Prop} (d : Option Tmp) (hd : oi.dst = d) (t : TypeId) (ho : oi.op = .alloc t) (z : Value) (hz : (P.info? t).map (·.zero) = some (some z)) (hc : z.cells = #[z])
    (h : K (a.put d (.pointer (some ⟨w.heap.size, 0, none⟩))) (w.alloc (.cells [z].toArray t))) : oi.wp P a w K Q := by
  subst hd
  have hrun : (Instr.alloc t true (.tuple #[])).run P w = .ok (.pointer (some ⟨w.heap.size, 0, none⟩)) (w.alloc (.cells [z].toArray t)) := by
    cases hq : P.info? t with
    | none => simp [hq] at hz
    | some i =>
      have hzz : i.zero = some z := by simpa [hq] using hz
      have hzv : ∀ W, (zeroValue t).run P W = .ok z W := fun W => by simp [zeroValue, typeInfo, hq, hzz]
      simp only [Instr.alloc, Sem.run_bind, hzv, Result.andThen_ok]
      simp [newVar, newRow, hc]
  unfold Oper.wp execOp
  simp only [ho, Sem.run_bind, hrun, Result.andThen_ok]
  exact h
theorem run_orO (x y z : Nat) (w : World) (hx : x < B) (hy : y < B) (hz : x ||| y = z) : (binOp .or 89 (.int .u64 x) (.int .u64 y)).run Tryz.prog w = .ok (.int .u64 (z : Int)) w := by
  have h1 : bits .or .u64 (x : Int) (y : Int) = (z : Int) := by
    unfold B at hx hy
    rw [bits_or_u64_nat x y (by omega) (by omega), hz]
  simp [binOp, go_sem]
  exact h1
set_option maxRecDepth 100000 in
set_option maxHeartbeats 400000 in
theorem leading_any (A : Option Addr) (c N : Nat) (A2 : Option Addr) (c2 M : Nat) (w : World) (hr : RdW w A (digW N)) (hr2 : RdW w A2 (digW M)) (hn : 2 ≤ (digW N).length) (hl : (digW N).length ≤ 100000) (hm : (digW M).length ≤ (digW N).length) :
    Calls Tryz.prog 106 #[.slice A (digW N).length c, .slice A2 (digW M).length c2] w fun e w' => ∃ K, 0 < K ∧ N / K < B ∧ M / K < B ∧ e = .returned (.tuple #[.int .u64 (N / K : Nat), .int .u64 (M / K : Nat)]) ∧ Below w.heap.size w w' := by
  have hN0 : N ≠ 0 := fun h => by rw [h, digW_zero] at hn; simp at hn
  obtain ⟨x1, ht, ht0, htB⟩ := digW_top hN0
  have hNlt := digW_lt N
  have hMlt : M < B ^ (digW N).length := Nat.lt_of_lt_of_le (digW_lt M) (Nat.pow_le_pow_right B_pos hm)
  obtain ⟨n, hne⟩ : ∃ n, (digW N).length = n := ⟨_, rfl⟩
  rw [hne] at hn hl hm ht hNlt hMlt
  have hx1 : (digW N).getD (n - 1) 0 = x1 := by rw [List.getD_eq_getElem?_getD, ht]; rfl
  have hget : ∀ (Z k : Nat), (digW Z).getD k 0 < B := fun Z k => by rw [digW_getD]; exact Nat.mod_lt _ B_pos
  obtain ⟨y1, hy1⟩ : ∃ y, (digW M).getD (n - 1) 0 = y := ⟨_, rfl⟩
  have hy1B : y1 < B := by rw [← hy1]; exact hget _ _
  obtain ⟨q, hq⟩ : ∃ q, x1 ||| y1 = q := ⟨_, rfl⟩
  have hqB : q < B := by rw [← hq]; exact Nat.or_lt_two_pow (n := 64) htB hy1B
  have hxq : x1 ≤ q := by rw [← hq]; exact Nat.left_le_or
  have hyq : y1 ≤ q := by rw [← hq]; exact Nat.right_le_or
  obtain ⟨s, hs0, hs, hb1, hb2⟩ := lz_bounds (y := q) (by omega) hqB
  have hLZ := fun W => Tryz.bits_LeadingZeros64 (q : Int) W (by omega) (by unfold B at hqB; omega)
  rw [Int.toNat_natCast, hs0] at hLZ
  have hxs : x1 * 2 ^ s < B := Nat.lt_of_le_of_lt (Nat.mul_le_mul_right _ hxq) hb2
  have hys : y1 * 2 ^ s < B := Nat.lt_of_le_of_lt (Nat.mul_le_mul_right _ hyq) hb2
  have e1 := top_digits hn hs hNlt
  have e2 := top_digits hn hs hMlt
  have hK : 0 < B ^ (n - 2) * 2 ^ (64 - s) := Nat.mul_pos (Nat.pow_pos B_pos) (Nat.two_pow_pos _)
  have l1 := lead_lt hs (hget N (n - 2)) hxs
  have l2 := lead_lt hs (hget M (n - 2)) hys
  have HA1 := Lib.hid (fun gn gs W h h1 h2 => at_any A c (digW N) n s gn gs W h (dig_digW N) hn hl hs (by rw [hx1]; exact hxs) h1 h2)
  have HA2 := Lib.hid (fun gn gs W h h1 h2 => at_any A2 c2 (digW M) n s gn gs W h (dig_digW M) hn hl hs (by rw [hy1]; exact hys) h1 h2)
  rw [← e1, hne] at HA1
  rw [← e2] at HA2
  rw [← hx1, ← e1] at l1
  rw [← hy1, ← e2] at l2
  have HDG := Lib.hid (fun W h => digit_any A2 c2 (digW M) (n - 1) W h)
  rw [hy1] at HDG
  have HOR := Lib.hid (fun W => run_orO x1 y1 q W htB hy1B hq)
  have HLZ := Lib.hid hLZ
  obtain ⟨X, hX⟩ : ∃ X, N / (B ^ (n - 2) * 2 ^ (64 - s)) = X := ⟨_, rfl⟩
  obtain ⟨Y, hY⟩ : ∃ Y, M / (B ^ (n - 2) * 2 ^ (64 - s)) = Y := ⟨_, rfl⟩
  rw [hX] at HA1 l1
  rw [hY] at HA2 l2
  obtain ⟨b, off, rfl, -⟩ := hr.cell (k := n - 1) (by omega)
  have HR := Lib.hid hr
  have HR2 := Lib.hid hr2
  have HT := Lib.hid ht
  have HE := Lib.hid (show ∃ K, 0 < K ∧ N / K < B ∧ M / K < B ∧ N / K = X ∧ M / K = Y from ⟨_, hK, by rw [hX]; exact l1, by rw [hY]; exact l2, hX, hY⟩)
  clear hr hr2 hN0 ht ht0 htB hNlt hMlt hget hy1B hq hqB hxq hyq hs0 hb1 hb2 hLZ hxs hys e1 e2 hK l1 l2 hX hY hm hy1 hx1 hs
  obtain ⟨m, hme⟩ : ∃ m, (digW M).length = m := ⟨_, rfl⟩
  rw [hne, hme]
  rw [hme] at HA2 HDG
  have HME := Lib.hid hme
  have HNE := Lib.hid hne
  clear hme hne
  go_enter Tryz.func106, Tryz.ntmps106
  go_wp2
  have hG0 := Blk.new w 3 [.int .i64 n]
  have hR1 : RdW (w.alloc (.cells #[.int .i64 n] 3)) (some ⟨b, off, none⟩) (digW N) := HR.out.next ((Below.refl _ _).alloc (Nat.le_refl _) _)
  have hR2 : RdW (w.alloc (.cells #[.int .i64 n] 3)) A2 (digW M) := HR2.out.next ((Below.refl _ _).alloc (Nat.le_refl _) _)
  have hW1 : Below w.heap.size w (w.alloc (.cells #[.int .i64 n] 3)) := (Below.refl _ _).alloc (Nat.le_refl _) _
  have hlt0 := hG0.lt
  obtain ⟨g6, hg6⟩ : ∃ g, w.heap.size = g := ⟨_, rfl⟩
  rw [hg6] at hG0 hlt0 ⊢
  have HG6 := Lib.hid hg6
  clear hg6
  generalize w.alloc (.cells #[.int .i64 n] 3) = w1 at hG0 hR1 hR2 hW1 hlt0 ⊢
  refine late_begin (S := TillQ 12 (fun W => Blk W g6 3 [.int .i64 n] ∧ RdW W (some ⟨b, off, none⟩) (digW N) ∧ RdW W A2 (digW M) ∧ Below w.heap.size w W)) (by kernel_rfl) ?_
  have hS1 : Blk w1.drew g6 3 [.int .i64 n] ∧ RdW w1.drew (some ⟨b, off, none⟩) (digW N) ∧ RdW w1.drew A2 (digW M) ∧ Below w.heap.size w w1.drew := ⟨hG0, hR1, hR2, hW1.drew⟩
  have hlt1 : g6 < w1.drew.heap.size := hlt0
  clear hG0 hR1 hR2 hW1 hlt0
  generalize w1.drew = u0 at hS1 hlt1 ⊢
  have hS0 : ∀ {L}, TillQ 12 (fun W => Blk W g6 3 [.int .i64 n] ∧ RdW W (some ⟨b, off, none⟩) (digW N) ∧ RdW W A2 (digW M) ∧ Below w.heap.size w W) L u0 := fun _ => hS1
  refine late_take [12] (i := 0) (some 11) rfl rfl rfl (by kernel_rfl) (by kernel_rfl) (by kernel_rfl) (by kernel_rfl) (by kernel_rfl) (fun Ls W h => h.off (by decide)) (.slice (some ⟨b, off, none⟩) n c) (fun _ _ _ h => h) (fun Ls W hl0 hW => exec_move (.tmp 0) rfl _ rfl) hS0 hS0 ?_
  go_frame
  refine late_take [12] (i := 1) (some 12) rfl rfl rfl (by kernel_rfl) (by kernel_rfl) (by kernel_rfl) (by kernel_rfl) (by kernel_rfl) (fun Ls W h => h.off (by decide)) (.int .i64 n) (fun _ _ _ h => h) (fun Ls W hl0 hW => exec_loadI (.tmp 6) rfl _ rfl ((hW (hl0 12 (by simp))).1.cell 0)) hS0 hS0 ?_
  go_frame
  refine late_take [12] (i := 2) (some 13) rfl rfl rfl (by kernel_rfl) (by kernel_rfl) (by kernel_rfl) (by kernel_rfl) (by kernel_rfl) (fun Ls W h => h.off (by decide)) (.int .i64 ((n - 1 : Nat) : Int)) (fun _ _ _ h => h) (fun Ls W hl0 hW => exec_bin .sub 3 _ (.tmp 12) (.const (.int .i64 1)) rfl _ _ _ rfl rfl rfl (run_sub1I n (by omega) (by omega) W)) hS0 hS0 ?_
  go_frame
  refine late_take [12] (i := 3) (some 14) rfl rfl rfl (by kernel_rfl) (by kernel_rfl) (by kernel_rfl) (by kernel_rfl) (by kernel_rfl) (fun Ls W h => h.off (by decide)) (.pointer (some ⟨b, off + (n - 1), none⟩)) (fun _ _ _ h => h) (fun Ls W hl0 hW => exec_atW (.tmp 11) (.tmp 13) rfl b off n c (n - 1) (by omega) rfl rfl) hS0 hS0 ?_
  go_frame
  refine late_take [12] (i := 4) (some 15) rfl rfl rfl (by kernel_rfl) (by kernel_rfl) (by kernel_rfl) (by kernel_rfl) (by kernel_rfl) (fun Ls W h => h.off (by decide)) (.int .u64 (x1 : Int)) (fun _ _ _ h => h) (fun Ls W hl0 hW => exec_loadW (.tmp 14) rfl x1 rfl (rd_at (hW (hl0 12 (by simp))).2.1 HT.out)) hS0 hS0 ?_
  go_frame
  refine late_take [12] (i := 5) (some 16) rfl rfl rfl (by kernel_rfl) (by kernel_rfl) (by kernel_rfl) (by kernel_rfl) (by kernel_rfl) (fun Ls W h => h.off (by decide)) (.slice A2 m c2) (fun _ _ _ h => h) (fun Ls W hl0 hW => exec_move (.tmp 1) rfl _ rfl) hS0 hS0 ?_
  go_frame
  refine late_take [12] (i := 6) (some 17) rfl rfl rfl (by kernel_rfl) (by kernel_rfl) (by kernel_rfl) (by kernel_rfl) (by kernel_rfl) (fun Ls W h => h.off (by decide)) (.int .i64 n) (fun _ _ _ h => h) (fun Ls W hl0 hW => exec_loadI (.tmp 6) rfl _ rfl ((hW (hl0 12 (by simp))).1.cell 0)) hS0 hS0 ?_
  go_frame
  refine late_take [12] (i := 7) (some 18) rfl rfl rfl (by kernel_rfl) (by kernel_rfl) (by kernel_rfl) (by kernel_rfl) (by kernel_rfl) (fun Ls W h => h.off (by decide)) (.int .i64 ((n - 1 : Nat) : Int)) (fun _ _ _ h => h) (fun Ls W hl0 hW => exec_bin .sub 3 _ (.tmp 17) (.const (.int .i64 1)) rfl _ _ _ rfl rfl rfl (run_sub1I n (by omega) (by omega) W)) hS0 hS0 ?_
  go_frame
  refine late_two (i := 8) (j := 11) (by kernel_rfl) ?_ ?_
  · refine op_call (some 19) rfl rfl rfl rfl Tryz.func86 (by kernel_rfl) (by kernel_rfl) #[.slice A2 m c2, .int .i64 ((n - 1 : Nat) : Int)] rfl (HDG.out u0 hS1.2.2.1) ?_
    rintro e ux ⟨rfl, hw⟩
    obtain rfl : u0 = ux := hw.symm
    clear hw
    refine ⟨_, rfl, fun _ => hS1, ?_⟩
    go_frame
    refine late_take [12] (i := 9) (some 20) rfl rfl rfl (by kernel_rfl) (by kernel_rfl) (by kernel_rfl) (by kernel_rfl) (by kernel_rfl) (fun Ls W h => h.off (by decide)) (.int .u64 (q : Int)) (fun _ _ _ h => h) (fun Ls W hl0 hW => exec_bin .or 89 _ (.tmp 15) (.tmp 19) rfl _ _ _ rfl rfl rfl (HOR.out W)) hS0 hS0 ?_
    go_frame
    refine late_two (i := 10) (j := 11) (by kernel_rfl) ?_ ?_
    · refine op_call (some 21) rfl rfl rfl rfl Tryz.func109 (by kernel_rfl) (by kernel_rfl) #[.int .u64 (q : Int)] rfl (HLZ.out u0) ?_
      rintro e ux ⟨rfl, hw⟩
      obtain rfl : u0 = ux := hw.symm
      clear hw
      refine ⟨_, rfl, fun _ => hS1, ?_⟩
      go_frame
      refine late_one (i := 11) (by kernel_rfl) (op_wp rfl rfl (opV_alloc (some 7) rfl 3 rfl (.int .i64 0) int_zero rfl ⟨fun _ => ⟨hS1.1.alloc _, hS1.2.1.next ((Below.refl _ _).alloc (Nat.le_refl _) _), hS1.2.2.1.next ((Below.refl _ _).alloc (Nat.le_refl _) _), hS1.2.2.2.alloc hS1.2.2.2.size _⟩, ?_⟩))
      go_frame
      have hS2 : Blk (u0.alloc (.cells #[.int .i64 0] 3)) g6 3 [.int .i64 n] ∧ RdW (u0.alloc (.cells #[.int .i64 0] 3)) (some ⟨b, off, none⟩) (digW N) ∧ RdW (u0.alloc (.cells #[.int .i64 0] 3)) A2 (digW M) ∧ Below w.heap.size w (u0.alloc (.cells #[.int .i64 0] 3)) := ⟨hS1.1.alloc _, hS1.2.1.next ((Below.refl _ _).alloc (Nat.le_refl _) _), hS1.2.2.1.next ((Below.refl _ _).alloc (Nat.le_refl _) _), hS1.2.2.2.alloc hS1.2.2.2.size _⟩
      have hN7 := Blk.new u0 3 [.int .i64 0]
      obtain ⟨g7, hg7⟩ : ∃ g, u0.heap.size = g := ⟨_, rfl⟩
      rw [hg7] at hN7 hlt1 ⊢
      have hge : w.heap.size ≤ g7 := by rw [← hg7]; exact hS1.2.2.2.size
      clear hS0 hS1 hg7
      generalize u0.alloc (.cells [.int .i64 0].toArray 3) = u5 at hN7 hS2 ⊢
      have hS1 := hS2
      clear hS2
      have hS0 : ∀ {L}, TillQ 12 (fun W => Blk W g6 3 [.int .i64 n] ∧ RdW W (some ⟨b, off, none⟩) (digW N) ∧ RdW W A2 (digW M) ∧ Below w.heap.size w W) L u5 := fun _ => hS1
      refine late_one (i := 12) (by kernel_rfl) (op_wp rfl rfl (wp_store_var 3 (.tmp 7) (.tmp 21) rfl g7 _ (.int .i64 0) (.int .i64 s) rfl rfl hN7 int_size rfl rfl (fun w6 hk6 ho6 => ⟨fun h => absurd h (by decide), late_done (by kernel_rfl) ?_ _⟩)))
      go_frame
      have hc6 : w6.cell? ⟨g6, 0, none⟩ = some (.int .i64 (n : Int)) := (ho6.blk hS1.1 (by omega)).cell 0
      have hc7 : w6.cell? ⟨g7, 0, none⟩ = some (.int .i64 (s : Int)) := hk6.cell 0
      have hW6 := hS1.2.2.2.trans (ho6.below hge)
      have HR6 := Lib.hid (HR.out.next hW6)
      have HR7 := Lib.hid (HR2.out.next hW6)
      have HC6 := Lib.hid (And.intro (ho6.blk hS1.1 (by omega)) hk6)
      have HW6 := Lib.hid hW6
      clear hS0 hS1 hN7 hc6 hc7 hW6 hk6 ho6
      go_wp2_with (first
        | (refine wpList_dst 25 rfl ?_; refine wpList_call_val rfl (.tmp 23) rfl rfl Tryz.func131 (by kernel_rfl) (by kernel_rfl) #[.slice (some ⟨b, off, none⟩) n c, .pointer (some ⟨g6, 0, none⟩), .pointer (some ⟨g7, 0, none⟩)] rfl (HA1.out g6 g7 _ HR6.out (HC6.out.1.cell 0) (HC6.out.2.cell 0)) ?_; rintro e w7 ⟨rfl, hb7⟩; refine ⟨_, rfl, ?_⟩; have HB7 := Lib.hid hb7; clear hb7)
        | (refine wpList_dst 28 rfl ?_; refine wpList_call_val rfl (.tmp 26) rfl rfl Tryz.func131 (by kernel_rfl) (by kernel_rfl) #[.slice A2 m c2, .pointer (some ⟨g6, 0, none⟩), .pointer (some ⟨g7, 0, none⟩)] rfl (HA2.out g6 g7 _ (HR7.out.next HB7.out) ((HC6.out.1.next HB7.out).cell 0) ((HC6.out.2.next HB7.out).cell 0)) ?_; rintro e w8 ⟨rfl, hb8⟩; refine ⟨_, rfl, ?_⟩; have HB8 := Lib.hid hb8; clear hb8))
      go_ret2
      obtain ⟨K, k1, k2, k3, k4, k5⟩ := HE.out
      exact ⟨K, k1, k2, k3, by rw [k4, k5]; rfl, (HW6.out.trans (HB7.out.mono HW6.out.size)).trans (HB8.out.mono (Nat.le_trans HW6.out.size HB7.out.size))⟩
    · refine op_wp rfl rfl (opV_alloc (some 7) rfl 3 rfl (.int .i64 0) int_zero rfl ⟨fun _ => ⟨hS1.1.alloc _, hS1.2.1.next ((Below.refl _ _).alloc (Nat.le_refl _) _), hS1.2.2.1.next ((Below.refl _ _).alloc (Nat.le_refl _) _), hS1.2.2.2.alloc hS1.2.2.2.size _⟩, ?_⟩)
      go_frame
      have hS2 : Blk (u0.alloc (.cells #[.int .i64 0] 3)) g6 3 [.int .i64 n] ∧ RdW (u0.alloc (.cells #[.int .i64 0] 3)) (some ⟨b, off, none⟩) (digW N) ∧ RdW (u0.alloc (.cells #[.int .i64 0] 3)) A2 (digW M) ∧ Below w.heap.size w (u0.alloc (.cells #[.int .i64 0] 3)) := ⟨hS1.1.alloc _, hS1.2.1.next ((Below.refl _ _).alloc (Nat.le_refl _) _), hS1.2.2.1.next ((Below.refl _ _).alloc (Nat.le_refl _) _), hS1.2.2.2.alloc hS1.2.2.2.size _⟩
      have hN7 := Blk.new u0 3 [.int .i64 0]
      obtain ⟨g7, hg7⟩ : ∃ g, u0.heap.size = g := ⟨_, rfl⟩
      rw [hg7] at hN7 hlt1 ⊢
      have hge : w.heap.size ≤ g7 := by rw [← hg7]; exact hS1.2.2.2.size
      clear hS0 hS1 hg7
      generalize u0.alloc (.cells [.int .i64 0].toArray 3) = u5 at hN7 hS2 ⊢
      have hS1 := hS2
      clear hS2
      have hS0 : ∀ {L}, TillQ 12 (fun W => Blk W g6 3 [.int .i64 n] ∧ RdW W (some ⟨b, off, none⟩) (digW N) ∧ RdW W A2 (digW M) ∧ Below w.heap.size w W) L u5 := fun _ => hS1
      refine late_one (i := 10) (by kernel_rfl) (op_call (some 21) rfl rfl rfl rfl Tryz.func109 (by kernel_rfl) (by kernel_rfl) #[.int .u64 (q : Int)] rfl (HLZ.out u5) ?_)
      rintro e ux ⟨rfl, hw⟩
      obtain rfl : u5 = ux := hw.symm
      clear hw
      refine ⟨_, rfl, fun _ => hS1, ?_⟩
      go_frame
      refine late_one (i := 12) (by kernel_rfl) (op_wp rfl rfl (wp_store_var 3 (.tmp 7) (.tmp 21) rfl g7 _ (.int .i64 0) (.int .i64 s) rfl rfl hN7 int_size rfl rfl (fun w6 hk6 ho6 => ⟨fun h => absurd h (by decide), late_done (by kernel_rfl) ?_ _⟩)))
      go_frame
      have hc6 : w6.cell? ⟨g6, 0, none⟩ = some (.int .i64 (n : Int)) := (ho6.blk hS1.1 (by omega)).cell 0
      have hc7 : w6.cell? ⟨g7, 0, none⟩ = some (.int .i64 (s : Int)) := hk6.cell 0
      have hW6 := hS1.2.2.2.trans (ho6.below hge)
      have HR6 := Lib.hid (HR.out.next hW6)
      have HR7 := Lib.hid (HR2.out.next hW6)
      have HC6 := Lib.hid (And.intro (ho6.blk hS1.1 (by omega)) hk6)
      have HW6 := Lib.hid hW6
      clear hS0 hS1 hN7 hc6 hc7 hW6 hk6 ho6
      go_wp2_with (first
        | (refine wpList_dst 25 rfl ?_; refine wpList_call_val rfl (.tmp 23) rfl rfl Tryz.func131 (by kernel_rfl) (by kernel_rfl) #[.slice (some ⟨b, off, none⟩) n c, .pointer (some ⟨g6, 0, none⟩), .pointer (some ⟨g7, 0, none⟩)] rfl (HA1.out g6 g7 _ HR6.out (HC6.out.1.cell 0) (HC6.out.2.cell 0)) ?_; rintro e w7 ⟨rfl, hb7⟩; refine ⟨_, rfl, ?_⟩; have HB7 := Lib.hid hb7; clear hb7)
        | (refine wpList_dst 28 rfl ?_; refine wpList_call_val rfl (.tmp 26) rfl rfl Tryz.func131 (by kernel_rfl) (by kernel_rfl) #[.slice A2 m c2, .pointer (some ⟨g6, 0, none⟩), .pointer (some ⟨g7, 0, none⟩)] rfl (HA2.out g6 g7 _ (HR7.out.next HB7.out) ((HC6.out.1.next HB7.out).cell 0) ((HC6.out.2.next HB7.out).cell 0)) ?_; rintro e w8 ⟨rfl, hb8⟩; refine ⟨_, rfl, ?_⟩; have HB8 := Lib.hid hb8; clear hb8))
      go_ret2
      obtain ⟨K, k1, k2, k3, k4, k5⟩ := HE.out
      exact ⟨K, k1, k2, k3, by rw [k4, k5]; rfl, (HW6.out.trans (HB7.out.mono HW6.out.size)).trans (HB8.out.mono (Nat.le_trans HW6.out.size HB7.out.size))⟩
  · refine op_wp rfl rfl (opV_alloc (some 7) rfl 3 rfl (.int .i64 0) int_zero rfl ⟨fun _ => ⟨hS1.1.alloc _, hS1.2.1.next ((Below.refl _ _).alloc (Nat.le_refl _) _), hS1.2.2.1.next ((Below.refl _ _).alloc (Nat.le_refl _) _), hS1.2.2.2.alloc hS1.2.2.2.size _⟩, ?_⟩)
    go_frame
    have hS2 : Blk (u0.alloc (.cells #[.int .i64 0] 3)) g6 3 [.int .i64 n] ∧ RdW (u0.alloc (.cells #[.int .i64 0] 3)) (some ⟨b, off, none⟩) (digW N) ∧ RdW (u0.alloc (.cells #[.int .i64 0] 3)) A2 (digW M) ∧ Below w.heap.size w (u0.alloc (.cells #[.int .i64 0] 3)) := ⟨hS1.1.alloc _, hS1.2.1.next ((Below.refl _ _).alloc (Nat.le_refl _) _), hS1.2.2.1.next ((Below.refl _ _).alloc (Nat.le_refl _) _), hS1.2.2.2.alloc hS1.2.2.2.size _⟩
    have hN7 := Blk.new u0 3 [.int .i64 0]
    obtain ⟨g7, hg7⟩ : ∃ g, u0.heap.size = g := ⟨_, rfl⟩
    rw [hg7] at hN7 hlt1 ⊢
    have hge : w.heap.size ≤ g7 := by rw [← hg7]; exact hS1.2.2.2.size
    clear hS0 hS1 hg7
    generalize u0.alloc (.cells [.int .i64 0].toArray 3) = u5 at hN7 hS2 ⊢
    have hS1 := hS2
    clear hS2
    have hS0 : ∀ {L}, TillQ 12 (fun W => Blk W g6 3 [.int .i64 n] ∧ RdW W (some ⟨b, off, none⟩) (digW N) ∧ RdW W A2 (digW M) ∧ Below w.heap.size w W) L u5 := fun _ => hS1
    refine late_one (i := 8) (by kernel_rfl) (op_call (some 19) rfl rfl rfl rfl Tryz.func86 (by kernel_rfl) (by kernel_rfl) #[.slice A2 m c2, .int .i64 ((n - 1 : Nat) : Int)] rfl (HDG.out u5 hS1.2.2.1) ?_)
    rintro e ux ⟨rfl, hw⟩
    obtain rfl : u5 = ux := hw.symm
    clear hw
    refine ⟨_, rfl, fun _ => hS1, ?_⟩
    go_frame
    refine late_take [12] (i := 9) (some 20) rfl rfl rfl (by kernel_rfl) (by kernel_rfl) (by kernel_rfl) (by kernel_rfl) (by kernel_rfl) (fun Ls W h => h.off (by decide)) (.int .u64 (q : Int)) (fun _ _ _ h => h) (fun Ls W hl0 hW => exec_bin .or 89 _ (.tmp 15) (.tmp 19) rfl _ _ _ rfl rfl rfl (HOR.out W)) hS0 hS0 ?_
    go_frame
    refine late_one (i := 10) (by kernel_rfl) (op_call (some 21) rfl rfl rfl rfl Tryz.func109 (by kernel_rfl) (by kernel_rfl) #[.int .u64 (q : Int)] rfl (HLZ.out u5) ?_)
    rintro e ux ⟨rfl, hw⟩
    obtain rfl : u5 = ux := hw.symm
    clear hw
    refine ⟨_, rfl, fun _ => hS1, ?_⟩
    go_frame
    refine late_one (i := 12) (by kernel_rfl) (op_wp rfl rfl (wp_store_var 3 (.tmp 7) (.tmp 21) rfl g7 _ (.int .i64 0) (.int .i64 s) rfl rfl hN7 int_size rfl rfl (fun w6 hk6 ho6 => ⟨fun h => absurd h (by decide), late_done (by kernel_rfl) ?_ _⟩)))
    go_frame
    have hc6 : w6.cell? ⟨g6, 0, none⟩ = some (.int .i64 (n : Int)) := (ho6.blk hS1.1 (by omega)).cell 0
    have hc7 : w6.cell? ⟨g7, 0, none⟩ = some (.int .i64 (s : Int)) := hk6.cell 0
    have hW6 := hS1.2.2.2.trans (ho6.below hge)
    have HR6 := Lib.hid (HR.out.next hW6)
    have HR7 := Lib.hid (HR2.out.next hW6)
    have HC6 := Lib.hid (And.intro (ho6.blk hS1.1 (by omega)) hk6)
    have HW6 := Lib.hid hW6
    clear hS0 hS1 hN7 hc6 hc7 hW6 hk6 ho6
    go_wp2_with (first
      | (refine wpList_dst 25 rfl ?_; refine wpList_call_val rfl (.tmp 23) rfl rfl Tryz.func131 (by kernel_rfl) (by kernel_rfl) #[.slice (some ⟨b, off, none⟩) n c, .pointer (some ⟨g6, 0, none⟩), .pointer (some ⟨g7, 0, none⟩)] rfl (HA1.out g6 g7 _ HR6.out (HC6.out.1.cell 0) (HC6.out.2.cell 0)) ?_; rintro e w7 ⟨rfl, hb7⟩; refine ⟨_, rfl, ?_⟩; have HB7 := Lib.hid hb7; clear hb7)
      | (refine wpList_dst 28 rfl ?_; refine wpList_call_val rfl (.tmp 26) rfl rfl Tryz.func131 (by kernel_rfl) (by kernel_rfl) #[.slice A2 m c2, .pointer (some ⟨g6, 0, none⟩), .pointer (some ⟨g7, 0, none⟩)] rfl (HA2.out g6 g7 _ (HR7.out.next HB7.out) ((HC6.out.1.next HB7.out).cell 0) ((HC6.out.2.next HB7.out).cell 0)) ?_; rintro e w8 ⟨rfl, hb8⟩; refine ⟨_, rfl, ?_⟩; have HB8 := Lib.hid hb8; clear hb8))
    go_ret2
    obtain ⟨K, k1, k2, k3, k4, k5⟩ := HE.out
    exact ⟨K, k1, k2, k3, by rw [k4, k5]; rfl, (HW6.out.trans (HB7.out.mono HW6.out.size)).trans (HB8.out.mono (Nat.le_trans HW6.out.size HB7.out.size))⟩
end Go.Proofs.YtpmlihhofmblpaaGreatDoor
