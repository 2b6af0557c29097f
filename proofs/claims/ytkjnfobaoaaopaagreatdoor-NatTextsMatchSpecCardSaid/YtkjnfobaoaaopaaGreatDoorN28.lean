/- Gcd. -/
import Derived.Test.YtkjnfobaoaaopaaGreatDoorN27
namespace Go.Proofs.YtkjnfobaoaaopaaGreatDoor
open Go.RowKit Hm Wm Wn

section
variable {P : Program} {md : Region.Mode} {ops : Array Oper} {Q : Exit → Act → World → Prop} {S : World → Prop} {i fuel : Nat} {oi : Oper} {listed : Array Bool} {a : Act} {w : World}
theorem reg_call_val (d : Option Tmp) {F : FuncId} {caps : Array Value} (x : Operand) {xs : Array Operand} {ts : Array TypeId} (hi : ops[i]? = some oi) (hd : oi.dst = d) (hw : Region.wanted oi (yielded ops a.tmps) = true) (hr : Region.ready md ops listed = [i]) (ho : oi.op = .call { callee := .value x, args := xs, argTypes := ts }) (hx : a.eval x = .func (.func F) #[] caps)
    {fn : Func} (hf : P.funcs[F]? = some fn) (hn : (fn.name == "runtime.NumGoroutine") = false) (hb : fn.body.isNone = false) (vs : Array Value) (hvs : xs.toList.map a.eval ++ caps.toList = vs.toList) {R : Ending → World → Prop} (hc : Calls P F vs w R)
    (h : ∀ e w', R e w' → ∃ v, e = .returned v ∧ S w' ∧ wpAnyH P md ops Q S fuel (listed.setIfInBounds i true) (a.put d v) w') : wpAnyH P md ops Q S (fuel + 1) listed a w := by
  subst hd
  exact reg_oneG hi hw hr (wp_call_val x ho hx hf hn hb vs hvs hc h)
end
/-- The measure of Gcd's recursion. -/
def ms (N M : Nat) : Nat := 2 * (N + M) + (if N < M then 1 else 0)
theorem ms_swap {N M : Nat} (h : N < M) : ms M N < ms N M := by unfold ms; rw [if_pos h, if_neg (by omega)]; omega
theorem ms_less {N M P C : Nat} (h : P + C < N + M) : ms P C < ms N M := by unfold ms; split <;> split <;> omega
theorem ms_rest {N M : Nat} (h : M ≠ 0) : ms M (N % M) < ms N M := by
  have h1 := Nat.mod_lt N (Nat.pos_of_ne_zero h)
  unfold ms
  rw [if_neg (by omega)]
  by_cases h2 : N < M
  · rw [Nat.mod_eq_of_lt h2, if_pos h2]; omega
  · have h3 := Nat.mod_lt N (Nat.pos_of_ne_zero h)
    rw [if_neg h2]; omega
theorem gcd_rest (N M : Nat) : Nat.gcd M (N % M) = Nat.gcd N M := by rw [Nat.gcd_comm N M, Nat.gcd_rec M N, Nat.gcd_comm]
def gF (q : Nat) : Value := .func (.func 41) #[] #[.pointer (some ⟨q, 0, none⟩)]
theorem fn_flat (W : World) : (isAgg 63).run Tryz.prog W = .ok false W := by kernel_rfl
set_option maxRecDepth 100000 in
set_option maxHeartbeats 400000 in
theorem gcd1_any (Z : Nat) (hZ : Z ≤ 100000) (q : Nat) (k : Nat) : ∀ (N M : Nat) (A : Option Addr) (c : Nat) (A2 : Option Addr) (c2 : Nat) (w : World), ms N M = k → N + M < B ^ Z → RdW w A (digW N) → (digW N).length ≤ c → RdW w A2 (digW M) → (digW M).length ≤ c2 → Blk w q 63 [gF q] →
    Calls Tryz.prog 41 #[.slice A (digW N).length c, .slice A2 (digW M).length c2, .pointer (some ⟨q, 0, none⟩)] w fun e w' => ∃ v, e = .returned v ∧ NewW w' (Nat.gcd N M) v ∧ Below w.heap.size w w' := by
  induction k using Nat.strongRecOn with
  | ind k ih =>
    intro N M A c A2 c2 w hm hS hr hc hr2 hc2 hq
    subst hm
    have hl1 : (digW N).length ≤ 100000 := Nat.le_trans (digW_len (Nat.lt_of_le_of_lt (Nat.le_add_right N M) hS)) hZ
    have hl2 : (digW M).length ≤ 100000 := Nat.le_trans (digW_len (Nat.lt_of_le_of_lt (Nat.le_add_left M N) hS)) hZ
    obtain ⟨n1, hn1⟩ : ∃ n, (digW N).length = n := ⟨_, rfl⟩
    obtain ⟨n2, hn2⟩ : ∃ n, (digW M).length = n := ⟨_, rfl⟩
    have HQ := Lib.hid hq
    have HR := Lib.hid (And.intro hr hr2)
    have HC := Lib.hid (And.intro hc hc2)
    have HS := Lib.hid hS
    clear hq hr hr2 hc hc2 hS
    by_cases h1 : n1 < n2
    · have hlt : N < M := by
        have h2 := digW_lt N
        have hM0 : M ≠ 0 := fun h => by rw [h, digW_zero] at hn2; simp at hn2; omega
        have h3 := (digW_ge hM0).2
        have h4 : B ^ (digW N).length ≤ B ^ ((digW M).length - 1) := Nat.pow_le_pow_right B_pos (by omega)
        omega
      have HI := Lib.hid (ih (ms M N) (ms_swap hlt) M N A2 c2 A c w rfl (by have := HS.out; omega) HR.out.2 HC.out.2 HR.out.1 HC.out.1 HQ.out)
      rw [hn1, hn2] at HI ⊢
      have d1 : decide ((n1 : Int) < (n2 : Int)) = true := decide_eq_true (by omega)
      have d1' : decide (n1 < n2) = true := decide_eq_true h1
      clear ih hl1 hl2 hn1 hn2 hlt
      go_enter Tryz.func41, Tryz.ntmps41
      go_wp2_with (refine wpList_load_var rfl 63 (.tmp 2) rfl q _ (gF q) rfl HQ.out fn_flat ?_; unfold gF)
      refine HI.out.mono ?_
      rintro e w1 ⟨v, rfl, hv, hb⟩
      have HV := Lib.hid hv
      have HB := Lib.hid hb
      clear hv hb HI
      go_wp2
      go_ret
      exact ⟨v, rfl, by rw [Nat.gcd_comm]; exact HV.out, HB.out⟩
    · have d1 : decide ((n1 : Int) < (n2 : Int)) = false := decide_eq_false (by omega)
      have d1' : decide (n1 < n2) = false := decide_eq_false h1
      by_cases hM : M = 0
      · subst hM
        have h0 : n2 = 0 := by rw [← hn2, digW_zero]; rfl
        have HV := Lib.hid (show NewW w (Nat.gcd N 0) (.slice A n1 c) from ⟨A, c, by rw [Nat.gcd_zero_right, hn1], by rw [Nat.gcd_zero_right]; exact HR.out.1, by rw [Nat.gcd_zero_right]; exact HC.out.1⟩)
        rw [hn1, hn2]
        subst h0
        clear ih hl1 hl2 hn1 hn2
        go_enter Tryz.func41, Tryz.ntmps41
        go_wp2
        go_ret
        exact ⟨_, rfl, HV.out, Below.refl _ _⟩
      · have hp2 : 0 < n2 := by rw [← hn2]; exact (digW_ge hM).1
        have d2 : ((n2 : Int) == 0) = false := by rw [beq_eq_false_iff_ne]; omega
        have d2' : (n2 == 0) = false := by rw [beq_eq_false_iff_ne]; omega
        by_cases h2 : n1 = 1
        · have hN0 : N ≠ 0 := fun h => by rw [h, digW_zero] at hn1; simp at hn1; omega
          have h22 : n2 = 1 := by omega
          have hNB : N < B := by have := digW_lt N; rw [hn1, h2, Nat.pow_one] at this; exact this
          have hMB : M < B := by have := digW_lt M; rw [hn2, h22, Nat.pow_one] at this; exact this
          have e1 := digW_one hN0 hNB
          have e2 := digW_one hM hMB
          rw [hn1, hn2]
          rw [e1, e2] at HR
          subst h2
          subst h22
          obtain ⟨b, off, rfl, -⟩ := HR.out.1.cell (k := 0) (by simp)
          obtain ⟨b2, off2, rfl, -⟩ := HR.out.2.cell (k := 0) (by simp)
          have hgM : Nat.gcd N M ≤ M := Nat.gcd_le_right N (Nat.pos_of_ne_zero hM)
          have hg0 : Nat.gcd N M ≠ 0 := Nat.ne_of_gt (Nat.gcd_pos_of_pos_right N (Nat.pos_of_ne_zero hM))
          have HG := Lib.hid (digW_one hg0 (Nat.lt_of_le_of_lt hgM hMB))
          have HWD := Lib.hid (fun W => words_any N M W hNB hMB)
          obtain ⟨g, hg⟩ : ∃ g, Nat.gcd N M = g := ⟨_, rfl⟩
          rw [hg] at HG HWD ⊢
          clear ih hl1 hl2 hn1 hn2 hN0 hNB hMB e1 e2 hgM hg0 hg h1
          go_enter Tryz.func41, Tryz.ntmps41
          go_wp2
          refine wp_region_held_drew (S := fun W => RdW W (some ⟨b, off, none⟩) [N] ∧ RdW W (some ⟨b2, off2, none⟩) [M] ∧ Below w.heap.size w W) (by kernel_rfl) ⟨HR.out.1, HR.out.2, (Below.refl _ _).drew⟩ (fun hS => ?_)
          generalize w.drew = u0 at hS ⊢
          refine reg_takeG (i := 0) (some 28) rfl rfl rfl (by kernel_rfl) (by kernel_rfl) (by kernel_rfl) (.slice (some ⟨b, off, none⟩) 1 c) (fun _ _ _ h => h) (fun W hW => exec_move (.tmp 0) rfl _ rfl) hS ?_
          go_frame
          refine reg_takeG (i := 1) (some 29) rfl rfl rfl (by kernel_rfl) (by kernel_rfl) (by kernel_rfl) (.pointer (some ⟨b, off + 0, none⟩)) (fun _ _ _ h => h) (fun W hW => exec_atW (.tmp 28) (.const (.int .i64 0)) rfl b off 1 c 0 (by omega) rfl rfl) hS ?_
          go_frame
          refine reg_takeG (i := 2) (some 30) rfl rfl rfl (by kernel_rfl) (by kernel_rfl) (by kernel_rfl) (.int .u64 (N : Int)) (fun _ _ _ h => h) (fun W hW => exec_loadW (.tmp 29) rfl N rfl (rd_at hW.1 rfl)) hS ?_
          go_frame
          refine reg_takeG (i := 3) (some 31) rfl rfl rfl (by kernel_rfl) (by kernel_rfl) (by kernel_rfl) (.slice (some ⟨b2, off2, none⟩) 1 c2) (fun _ _ _ h => h) (fun W hW => exec_move (.tmp 1) rfl _ rfl) hS ?_
          go_frame
          refine reg_takeG (i := 4) (some 32) rfl rfl rfl (by kernel_rfl) (by kernel_rfl) (by kernel_rfl) (.pointer (some ⟨b2, off2 + 0, none⟩)) (fun _ _ _ h => h) (fun W hW => exec_atW (.tmp 31) (.const (.int .i64 0)) rfl b2 off2 1 c2 0 (by omega) rfl rfl) hS ?_
          go_frame
          refine reg_takeG (i := 5) (some 33) rfl rfl rfl (by kernel_rfl) (by kernel_rfl) (by kernel_rfl) (.int .u64 (M : Int)) (fun _ _ _ h => h) (fun W hW => exec_loadW (.tmp 32) rfl M rfl (rd_at hW.2.1 rfl)) hS ?_
          go_frame
          refine reg_callG (i := 6) (some 34) rfl rfl rfl (by kernel_rfl) rfl Tryz.func42 (by kernel_rfl) (by kernel_rfl) #[.int .u64 N, .int .u64 M] rfl (HWD.out u0) ?_
          rintro e u1 ⟨rfl, hb1⟩
          have hS1 : RdW u1 (some ⟨b, off, none⟩) [N] ∧ RdW u1 (some ⟨b2, off2, none⟩) [M] ∧ Below w.heap.size w u1 := ⟨hS.1.next hb1, hS.2.1.next hb1, hS.2.2.trans (hb1.mono hS.2.2.size)⟩
          refine ⟨_, rfl, hS1, ?_⟩
          go_frame
          have hK3 := Blk.new u1 53 (ws [g])
          have hal := (Below.refl u1.heap.size u1).alloc (Nat.le_refl _) (.cells (ws [g]).toArray 53)
          have hS2 : RdW (u1.alloc (.cells (ws [g]).toArray 53)) (some ⟨b, off, none⟩) [N] ∧ RdW (u1.alloc (.cells (ws [g]).toArray 53)) (some ⟨b2, off2, none⟩) [M] ∧ Below w.heap.size w (u1.alloc (.cells (ws [g]).toArray 53)) := ⟨hS1.1.next hal, hS1.2.1.next hal, hS1.2.2.trans (hal.mono hS1.2.2.size)⟩
          refine reg_makeG (i := 7) (some 35) rfl rfl rfl (by kernel_rfl) (.slice (some ⟨u1.heap.size, 0, none⟩) 1 1) _ (exec_word1 (.tmp 34) rfl g rfl) hS2 ?_
          go_frame
          have HV := Lib.hid (show NewW (u1.alloc (.cells (ws [g]).toArray 53)) g (.slice (some ⟨u1.heap.size, 0, none⟩) 1 1) from ⟨_, 1, by rw [HG.out]; rfl, by rw [HG.out]; exact rdW_blk hK3, by rw [HG.out]; exact Nat.le_refl _⟩)
          clear hK3 hal
          generalize u1.alloc (.cells (ws [g]).toArray 53) = u2 at hS2 HV ⊢
          refine reg_valueG (i := 8) (some 5) rfl rfl rfl (by kernel_rfl) (.slice (some ⟨u1.heap.size, 0, none⟩) 1 1) (exec_assign (.tmp 35) rfl _ rfl) hS2 ?_
          go_frame
          refine wpAnyH_done (by kernel_rfl) ?_ _
          have HB := Lib.hid hS2.2.2
          clear hS hS1 hS2
          go_wp2
          go_ret
          exact ⟨_, rfl, HV.out, HB.out⟩
        · have d3 : ((n1 : Int) == 1) = false := by rw [beq_eq_false_iff_ne]; omega
          have d3' : (n1 == 1) = false := by rw [beq_eq_false_iff_ne]; omega
          have HLD := Lib.hid (fun W h h' => leading_any A c N A2 c2 M W h h' (by omega) hl1 (by omega))
          have HAP := Lib.hid (fun n dx dy rx ry P C W hp h1 h2 h3 h4 h h' => apply_any n dx dy rx ry N M P C A c A2 c2 W hp h1 h2 h3 h4 h h' hl1 hl2)
          have HDM := Lib.hid (fun W h h' => divMod_any N M A c A2 c2 W hM h HC.out.1 h' hl1 hl2)
          have HIA := Lib.hid (fun (P C : Nat) (h : P + C < N + M) A3 c3 A4 c4 W h1 h2 h3 h4 h5 => ih (ms P C) (ms_less h) P C A3 c3 A4 c4 W rfl (Nat.lt_trans h HS.out) h1 h2 h3 h4 h5)
          have HIR := Lib.hid (fun A4 c4 W h1 h2 h3 h4 => ih (ms M (N % M)) (ms_rest hM) M (N % M) A2 c2 A4 c4 W rfl (by have := Nat.mod_le N M; have := HS.out; omega) h1 HC.out.2 h2 h3 h4)
          rw [gcd_rest] at HIR
          rw [hn1, hn2] at HLD HAP HDM ⊢
          rw [hn2] at HIR
          have HM := Lib.hid hM
          clear ih hl1 hl2 hn1 hn2 hM h1 h2 hp2 HC
          go_enter Tryz.func41, Tryz.ntmps41
          go_wp2_with fail
          refine (HLD.out w HR.out.1 HR.out.2).mono ?_
          rintro e w1 ⟨K, k1, k2, k3, rfl, hb1⟩
          have HB1 := Lib.hid hb1
          have HK := Lib.hid k1
          have HGU := Lib.hid (fun W => guess_steps (N / K) (M / K) W k2 k3)
          clear hb1 k1 k2 k3 HLD
          obtain ⟨X, hX⟩ : ∃ X, N / K = X := ⟨_, rfl⟩
          obtain ⟨Y, hY⟩ : ∃ Y, M / K = Y := ⟨_, rfl⟩
          rw [hX, hY] at HGU ⊢
          have HXY := Lib.hid (And.intro hX hY)
          clear hX hY
          go_wp2_with fail
          refine (HGU.out w1).mono ?_
          rintro e w2 ⟨n, dx, dy, rx, ry, a, b, rfl, hI, hB, hb2⟩
          unfold stV stL
          have HI := Lib.hid hI
          have HBB := Lib.hid hB
          have HB2 := Lib.hid (HB1.out.trans (hb2.mono HB1.out.size))
          clear hI hB hb2
          by_cases hn : 0 < n
          · have c1 : decide ((0 : Int) < (n : Int)) = true := decide_eq_true (by omega)
            have c1' : decide (0 < n) = true := decide_eq_true hn
            obtain ⟨P, C, hP, -⟩ := HI.out.all K (N % K) (M % K) (Nat.mod_lt _ HK.out) (Nat.mod_lt _ HK.out)
            rw [← HXY.out.1, ← HXY.out.2, Nat.div_add_mod', Nat.div_add_mod'] at hP
            have HA2 := Lib.hid (fun W h h' => HAP.out n dx dy rx ry P C W hP HBB.out.1 HBB.out.2.1 HBB.out.2.2.1 HBB.out.2.2.2.1 h h')
            have HI2 := Lib.hid (HIA.out P C (hP.les hn))
            rw [hP.com] at HI2
            clear HI HBB HAP HIA HIR HDM HGU hP hn
            go_wp2_with fail
            refine wp_region_held_drew (S := fun W => Blk W q 63 [gF q] ∧ Blk W w2.heap.size 68 (stL n dx dy rx ry) ∧ RdW W A (digW N) ∧ RdW W A2 (digW M) ∧ Below w.heap.size w W) (by kernel_rfl) ⟨((HQ.out.next HB2.out).alloc _).drew, (Blk.drew (Blk.new w2 68 (stL n dx dy rx ry))), (HR.out.1.next HB2.out).next ((Below.refl _ _).alloc (Nat.le_refl _) _).drew, (HR.out.2.next HB2.out).next ((Below.refl _ _).alloc (Nat.le_refl _) _).drew, HB2.out.trans (Below.mono ((Below.refl _ _).alloc (Nat.le_refl _) _).drew HB2.out.size)⟩ (fun hS => ?_)
            obtain ⟨g6, hg6⟩ : ∃ g, w2.heap.size = g := ⟨_, rfl⟩
            simp only [hg6] at hS ⊢
            generalize World.drew _ = u0 at hS ⊢
            refine reg_takeG (i := 0) (some 45) rfl rfl rfl (by kernel_rfl) (by kernel_rfl) (by kernel_rfl) (gF q) (fun _ _ _ h => h) (fun W hW => exec_load 63 (.tmp 2) rfl _ _ rfl (run_load_var 63 fn_flat hW.1)) hS ?_
            go_frame
            refine reg_takeG (i := 1) (some 46) rfl rfl rfl (by kernel_rfl) (by kernel_rfl) (by kernel_rfl) (stV n dx dy rx ry) (fun _ _ _ h => h) (fun W hW => exec_load 68 (.tmp 6) rfl _ _ rfl (run_load_part W _ g6 0 5 _ _ _ hW.2.1 (by simp [stL]) Tryz.underlying68 rfl st_size)) hS ?_
            go_frame
            refine reg_takeG (i := 2) (some 47) rfl rfl rfl (by kernel_rfl) (by kernel_rfl) (by kernel_rfl) (.slice A n1 c) (fun _ _ _ h => h) (fun W hW => exec_move (.tmp 0) rfl _ rfl) hS ?_
            go_frame
            refine reg_takeG (i := 3) (some 48) rfl rfl rfl (by kernel_rfl) (by kernel_rfl) (by kernel_rfl) (.slice A2 n2 c2) (fun _ _ _ h => h) (fun W hW => exec_move (.tmp 1) rfl _ rfl) hS ?_
            go_frame
            refine reg_callG (i := 4) (some 49) rfl rfl rfl (by kernel_rfl) rfl Tryz.func45 (by kernel_rfl) (by kernel_rfl) #[stV n dx dy rx ry, .slice A n1 c, .slice A2 n2 c2] rfl (HA2.out u0 hS.2.2.1 hS.2.2.2.1) ?_
            rintro e u1 ⟨v1, v2, rfl, ⟨A3, c3, rfl, hr3, hc3⟩, ⟨A4, c4, rfl, hr4, hc4⟩, hb1⟩
            have hS1 : Blk u1 q 63 [gF q] ∧ Blk u1 g6 68 (stL n dx dy rx ry) ∧ RdW u1 A (digW N) ∧ RdW u1 A2 (digW M) ∧ Below w.heap.size w u1 := ⟨hS.1.next hb1, hS.2.1.next hb1, hS.2.2.1.next hb1, hS.2.2.2.1.next hb1, hS.2.2.2.2.trans (hb1.mono hS.2.2.2.2.size)⟩
            refine ⟨_, rfl, hS1, ?_⟩
            go_frame
            refine reg_takeG (i := 5) (some 50) rfl rfl rfl (by kernel_rfl) (by kernel_rfl) (by kernel_rfl) (.slice A3 (digW P).length c3) (fun _ _ _ h => h) (fun W hW => exec_extract (.tmp 49) 0 rfl #[.slice A3 (digW P).length c3, .slice A4 (digW C).length c4] _ rfl rfl) hS1 ?_
            go_frame
            refine reg_takeG (i := 6) (some 51) rfl rfl rfl (by kernel_rfl) (by kernel_rfl) (by kernel_rfl) (.slice A4 (digW C).length c4) (fun _ _ _ h => h) (fun W hW => exec_extract (.tmp 49) 1 rfl #[.slice A3 (digW P).length c3, .slice A4 (digW C).length c4] _ rfl rfl) hS1 ?_
            go_frame
            refine reg_call_val (i := 7) (some 52) (.tmp 45) rfl rfl rfl (by kernel_rfl) rfl rfl Tryz.func41 (by kernel_rfl) (by kernel_rfl) #[.slice A3 (digW P).length c3, .slice A4 (digW C).length c4, .pointer (some ⟨q, 0, none⟩)] rfl (HI2.out A3 c3 A4 c4 u1 hr3 hc3 hr4 hc4 hS1.1) ?_
            rintro e u2 ⟨v, rfl, hv, hb2⟩
            have hS2 : Blk u2 q 63 [gF q] ∧ Blk u2 g6 68 (stL n dx dy rx ry) ∧ RdW u2 A (digW N) ∧ RdW u2 A2 (digW M) ∧ Below w.heap.size w u2 := ⟨hS1.1.next hb2, hS1.2.1.next hb2, hS1.2.2.1.next hb2, hS1.2.2.2.1.next hb2, hS1.2.2.2.2.trans (hb2.mono hS1.2.2.2.2.size)⟩
            refine ⟨_, rfl, hS2, ?_⟩
            go_frame
            refine reg_takeG (i := 8) (some 5) rfl rfl rfl (by kernel_rfl) (by kernel_rfl) (by kernel_rfl) (v) (fun _ _ _ h => h) (fun W hW => exec_assign (.tmp 52) rfl _ rfl) hS2 ?_
            go_frame
            refine wpAnyH_done (by kernel_rfl) ?_ _
            have HV := Lib.hid hv
            have HB := Lib.hid hS2.2.2.2.2
            clear hS hS1 hS2 hv hb1 hb2 hr3 hr4
            go_wp2
            go_ret
            exact ⟨_, rfl, HV.out, HB.out⟩
          · have c1 : decide ((0 : Int) < (n : Int)) = false := decide_eq_false (by omega)
            have c1' : decide (0 < n) = false := decide_eq_false hn
            clear HI HBB HAP HIA HGU hn
            have hal := HB2.out.alloc HB2.out.size (.cells #[.int .i64 n, .int .u64 dx, .int .u64 dy, .int .u64 rx, .int .u64 ry] 68)
            have HAL := Lib.hid hal
            clear hal
            go_wp2_with fail
            refine (HDM.out _ (HR.out.1.next HAL.out) (HR.out.2.next HAL.out)).mono ?_
            rintro e w3 ⟨v7, v8, rfl, ⟨A3, c3, rfl, hr3, hc3⟩, ⟨A4, c4, rfl, hr4, hc4⟩, hb3⟩
            have HB3 := Lib.hid (HAL.out.trans (hb3.mono HAL.out.size))
            have HR4 := Lib.hid (And.intro hr4 hc4)
            clear hr3 hc3 hr4 hc4 hb3 HDM HAL
            go_wp2_with (refine wpList_load_var rfl 63 (.tmp 2) rfl q _ (gF q) rfl (HQ.out.next HB3.out) fn_flat ?_; unfold gF)
            refine (HIR.out A4 c4 w3 (HR.out.2.next HB3.out) HR4.out.1 HR4.out.2 (HQ.out.next HB3.out)).mono ?_
            rintro e w4 ⟨v, rfl, hv, hb4⟩
            have HV := Lib.hid hv
            have HB4 := Lib.hid (HB3.out.trans (hb4.mono HB3.out.size))
            clear hv hb4
            go_wp2
            go_ret
            exact ⟨_, rfl, HV.out, HB4.out⟩
end Go.Proofs.YtkjnfobaoaaopaaGreatDoor
