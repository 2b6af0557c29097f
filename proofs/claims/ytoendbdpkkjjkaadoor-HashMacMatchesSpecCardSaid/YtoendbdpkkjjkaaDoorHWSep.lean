/- The walk of HashOfSeparates. -/
import Derived.Test.YtoendbdpkkjjkaaDoorHSep
import Derived.Test.YtoendbdpkkjjkaaDoorHWBegins
namespace Go.Proofs.YtoendbdpkkjjkaaDoor
open Go.RowKit Hm Wm

theorem tagB_inj {x y : Nat} (hx : x < 256) (hy : y < 256) (h : tagB (x : Int) = tagB (y : Int)) : x = y := by
  have e : ∀ z : Nat, z < 256 → (tagB (z : Int)).toNat = z := fun z hz => by
    unfold tagB
    rw [UInt8.toNat_ofNat']
    omega
  rw [← e x hx, ← e y hy, h]
theorem run_neq_str (w : World) (l r : List UInt8) : (binOp .neq 9 (.string (sb l)) (.string (sb r))).run Tryd.prog w = .ok (.bool (decide (l ≠ r))) w := by
  have h1 : (sb l).toList = l := by simp [sb]
  have h2 : (sb r).toList = r := by simp [sb]
  simp [binOp, Op.stringOp, h1, h2]
  rw [Bool.eq_iff_iff]; simp
theorem run_eql_bool (w : World) (p : Bool) : (binOp .eql 4 (.bool p) (.bool p)).run Tryd.prog w = .ok (.bool true) w := by
  cases p <;> kernel_rfl

def sepOk (w : World) (e : Ending) (w' : World) : Prop := e = .returned (.bool true) ∧ Below w.heap.size w w'

set_option maxRecDepth 100000 in
set_option maxHeartbeats 1000000 in
theorem walkSep_a (x y : Nat) (A : Option Addr) (ca : Nat) (la : List ByteArray) (B : Option Addr) (cb : Nat) (lb : List ByteArray) (w : World) (hg : Glob w) (hra : Rd w A (la.map Value.string)) (hrb : Rd w B (lb.map Value.string)) (hla : la.length ≤ maxLen) (hlb : lb.length ≤ maxLen) (hf : fewB la = false) :
    Calls Tryd.prog 6 #[.agg #[.int .u8 x, .int .u8 y], .slice A la.length ca, .slice B lb.length cb] w fun e w' => e = .returned (.bool true) ∧ Below w.heap.size w w' := by
  have HG := Lib.hid (glob_new hg (.cells #[.int .u8 x, .int .u8 y] 47))
  have hb0 := (Below.refl w.heap.size w).alloc (Nat.le_refl _) (.cells #[.int .u8 x, .int .u8 y] 47)
  have HB0 := Lib.hid hb0
  have HK0 := Lib.hid (Blk.new w 47 [.int .u8 x, .int .u8 y])
  have HRA := Lib.hid (hra.below hb0)
  have HRB := Lib.hid (hrb.below hb0)
  have HLA := Lib.hid hla
  have HLB := Lib.hid hlb
  have HFA := Lib.hid hf
  clear hf
  clear hg hra hrb hla hlb hb0
  go_enter Tryd.func6, Tryd.ntmps6
  go_wp2_with fail
  refine (hsanity_any _ HG.out).mono ?_
  rintro e w1 ⟨rfl, hb1⟩
  have G1 := Lib.hid (HG.out.next hb1)
  have B1 := Lib.hid (HB0.out.trans (hb1.mono HB0.out.size))
  have K1 := Lib.hid (HK0.out.next hb1)
  have RA := Lib.hid (HRA.out.below hb1)
  have RB := Lib.hid (HRB.out.below hb1)
  clear hb1 HG HB0 HK0 HRA HRB
  go_wp2_with fail
  refine (few_any A ca la w1 RA.out HLA.out).mono ?_
  rintro e w' ⟨rfl, rfl⟩
  rw [HFA.out]
  go_wp2
  go_ret
  exact ⟨rfl, B1.out⟩

set_option maxRecDepth 100000 in
set_option maxHeartbeats 1000000 in
theorem walkSep_b (x y : Nat) (A : Option Addr) (ca : Nat) (la : List ByteArray) (B : Option Addr) (cb : Nat) (lb : List ByteArray) (w : World) (hg : Glob w) (hra : Rd w A (la.map Value.string)) (hrb : Rd w B (lb.map Value.string)) (hla : la.length ≤ maxLen) (hlb : lb.length ≤ maxLen) (hf : fewB la = true) (hf2 : fewB lb = false) :
    Calls Tryd.prog 6 #[.agg #[.int .u8 x, .int .u8 y], .slice A la.length ca, .slice B lb.length cb] w fun e w' => e = .returned (.bool true) ∧ Below w.heap.size w w' := by
  have HG := Lib.hid (glob_new hg (.cells #[.int .u8 x, .int .u8 y] 47))
  have hb0 := (Below.refl w.heap.size w).alloc (Nat.le_refl _) (.cells #[.int .u8 x, .int .u8 y] 47)
  have HB0 := Lib.hid hb0
  have HK0 := Lib.hid (Blk.new w 47 [.int .u8 x, .int .u8 y])
  have HRA := Lib.hid (hra.below hb0)
  have HRB := Lib.hid (hrb.below hb0)
  have HLA := Lib.hid hla
  have HLB := Lib.hid hlb
  have HFA := Lib.hid hf
  have HFB := Lib.hid hf2
  clear hf hf2
  clear hg hra hrb hla hlb hb0
  go_enter Tryd.func6, Tryd.ntmps6
  go_wp2_with fail
  refine (hsanity_any _ HG.out).mono ?_
  rintro e w1 ⟨rfl, hb1⟩
  have G1 := Lib.hid (HG.out.next hb1)
  have B1 := Lib.hid (HB0.out.trans (hb1.mono HB0.out.size))
  have K1 := Lib.hid (HK0.out.next hb1)
  have RA := Lib.hid (HRA.out.below hb1)
  have RB := Lib.hid (HRB.out.below hb1)
  clear hb1 HG HB0 HK0 HRA HRB
  go_wp2_with fail
  refine (few_any A ca la w1 RA.out HLA.out).mono ?_
  rintro e w' ⟨rfl, rfl⟩
  rw [HFA.out]
  go_wp2_with fail
  refine (few_any B cb lb w1 RB.out HLB.out).mono ?_
  rintro e w' ⟨rfl, rfl⟩
  rw [HFB.out]
  go_wp2
  go_ret
  exact ⟨rfl, B1.out⟩

set_option maxRecDepth 100000 in
set_option maxHeartbeats 1000000 in
theorem walkSep_same (x y : Nat) (A : Option Addr) (ca : Nat) (la : List ByteArray) (B : Option Addr) (cb : Nat) (lb : List ByteArray) (w : World) (hg : Glob w) (hra : Rd w A (la.map Value.string)) (hrb : Rd w B (lb.map Value.string)) (hla : la.length ≤ maxLen) (hlb : lb.length ≤ maxLen) (hf : fewB la = true) (hx : x < 256) (hxy : x = y) (hab : la = lb) :
    Calls Tryd.prog 6 #[.agg #[.int .u8 x, .int .u8 y], .slice A la.length ca, .slice B lb.length cb] w fun e w' => e = .returned (.bool true) ∧ Below w.heap.size w w' := by
  subst hxy
  have HG := Lib.hid (glob_new hg (.cells #[.int .u8 x, .int .u8 x] 47))
  have hb0 := (Below.refl w.heap.size w).alloc (Nat.le_refl _) (.cells #[.int .u8 x, .int .u8 x] 47)
  have HB0 := Lib.hid hb0
  have HK0 := Lib.hid (Blk.new w 47 [.int .u8 x, .int .u8 x])
  have HRA := Lib.hid (hra.below hb0)
  have HRB := Lib.hid (hrb.below hb0)
  have HLA := Lib.hid hla
  have HLB := Lib.hid hlb
  have HFA := Lib.hid hf
  have HFB : Hid (fewB lb = true) := by rw [← hab]; exact hf
  have HA12 := Lib.hid (fewB_yes HFA.out).1
  have HAS := Lib.hid (fewB_yes HFA.out).2
  have HB12 := Lib.hid (fewB_yes HFB.out).1
  have HBS := Lib.hid (fewB_yes HFB.out).2
  have HAB := Lib.hid hab
  have x0 : (0 : Int) ≤ (x : Int) := by omega
  have x1 : (x : Int) ≤ 255 := by omega
  clear hf hx hab
  clear hg hra hrb hla hlb hb0
  go_enter Tryd.func6, Tryd.ntmps6
  go_wp2_with fail
  refine (hsanity_any _ HG.out).mono ?_
  rintro e w1 ⟨rfl, hb1⟩
  have G1 := Lib.hid (HG.out.next hb1)
  have B1 := Lib.hid (HB0.out.trans (hb1.mono HB0.out.size))
  have K1 := Lib.hid (HK0.out.next hb1)
  have RA := Lib.hid (HRA.out.below hb1)
  have RB := Lib.hid (HRB.out.below hb1)
  clear hb1 HG HB0 HK0 HRA HRB
  go_wp2_with fail
  refine (few_any A ca la w1 RA.out HLA.out).mono ?_
  rintro e w' ⟨rfl, rfl⟩
  rw [HFA.out]
  go_wp2_with fail
  refine (few_any B cb lb w1 RB.out HLB.out).mono ?_
  rintro e w' ⟨rfl, rfl⟩
  rw [HFB.out]
  have k0 : w1.cell? ⟨w.heap.size, 0, none⟩ = some (.int .u8 x) := by rw [K1.out.cell 0]; rfl
  have k1 : w1.cell? ⟨w.heap.size, 1, none⟩ = some (.int .u8 x) := by rw [K1.out.cell 1]; rfl
  go_wp2_with fail
  have hsame := rsame_any A B ca cb la lb w1 RA.out RB.out (by have := HA12.out; omega)
  rw [decide_eq_true HAB.out] at hsame
  have HSAME := Lib.hid hsame
  clear hsame
  refine HSAME.out.mono ?_
  rintro e wq ⟨rfl, hbq⟩
  have G1' := Lib.hid (G1.out.next hbq)
  have B1' := Lib.hid (B1.out.trans (hbq.mono B1.out.size))
  have K1' := Lib.hid (K1.out.next hbq)
  have RA' := Lib.hid (RA.out.below hbq)
  have RB' := Lib.hid (RB.out.below hbq)
  clear hbq G1 B1 K1 RA RB k0 k1 HSAME
  have k0 : wq.cell? ⟨w.heap.size, 0, none⟩ = some (.int .u8 x) := by rw [K1'.out.cell 0]; rfl
  have k1 : wq.cell? ⟨w.heap.size, 1, none⟩ = some (.int .u8 x) := by rw [K1'.out.cell 1]; rfl
  go_wp2_with fail
  refine (input_any x A ca la wq RA'.out HA12.out HAS.out).mono ?_
  rintro e w2 ⟨vx, rfl, hox, hb2⟩
  obtain ⟨X, hX⟩ : ∃ X, tagB (x : Int) :: encP la = X := ⟨_, rfl⟩
  rw [hX] at hox
  obtain ⟨Ax, cx, rfl, hrx, hcx⟩ := own_out hox
  have HX := Lib.hid hX
  have G2 := Lib.hid (G1'.out.next hb2)
  have B2 := Lib.hid (B1'.out.trans (hb2.mono B1'.out.size))
  have K2 := Lib.hid (K1'.out.next hb2)
  have RA2 := Lib.hid (RA'.out.below hb2)
  have RB2 := Lib.hid (RB'.out.below hb2)
  have RX2 := Lib.hid hrx
  have CX := Lib.hid hcx
  have c0 : w2.cell? ⟨w.heap.size, 0, none⟩ = some (.int .u8 x) := by rw [K2.out.cell 0]; rfl
  have c1 : w2.cell? ⟨w.heap.size, 1, none⟩ = some (.int .u8 x) := by rw [K2.out.cell 1]; rfl
  clear hox hrx hcx hb2 hX G1' B1' K1' RA' RB' k0 k1
  go_wp2_with fail
  refine (input_any x B cb lb w2 RB2.out HB12.out HBS.out).mono ?_
  rintro e w3 ⟨vy, rfl, hoy, hb3⟩
  obtain ⟨Y, hY⟩ : ∃ Y, tagB (x : Int) :: encP lb = Y := ⟨_, rfl⟩
  rw [hY] at hoy
  obtain ⟨Ay, cy, rfl, hry, hcy⟩ := own_out hoy
  have HY := Lib.hid hY
  have G3 := Lib.hid (G2.out.next hb3)
  have B3 := Lib.hid (B2.out.trans (hb3.mono B2.out.size))
  have K3 := Lib.hid (K2.out.next hb3)
  have RA3 := Lib.hid (RA2.out.below hb3)
  have RB3 := Lib.hid (RB2.out.below hb3)
  have RX3 := Lib.hid (RX2.out.below hb3)
  have RY3 := Lib.hid hry
  have CY := Lib.hid hcy
  clear hoy hry hcy hb3 hY G2 B2 K2 RA2 RB2 RX2 c0 c1
  have hXY : X = Y := by rw [← HX.out, ← HY.out, HAB.out]
  subst hXY
  have hcx := run_str RX3.out cx
  have hcy := run_str RY3.out cy
  go_wp2
  go_ret
  exact ⟨rfl, B3.out⟩

set_option maxRecDepth 100000 in
set_option maxHeartbeats 1000000 in
theorem walkSep_tags (x y : Nat) (A : Option Addr) (ca : Nat) (la : List ByteArray) (B : Option Addr) (cb : Nat) (lb : List ByteArray) (w : World) (hg : Glob w) (hra : Rd w A (la.map Value.string)) (hrb : Rd w B (lb.map Value.string)) (hla : la.length ≤ maxLen) (hlb : lb.length ≤ maxLen) (hf : fewB la = true) (hf2 : fewB lb = true) (hx : x < 256) (hy : y < 256) (hne : ¬ (x = y ∧ la = lb)) (hb : x ≠ y) :
    Calls Tryd.prog 6 #[.agg #[.int .u8 x, .int .u8 y], .slice A la.length ca, .slice B lb.length cb] w fun e w' => e = .returned (.bool true) ∧ Below w.heap.size w w' := by
  have HG := Lib.hid (glob_new hg (.cells #[.int .u8 x, .int .u8 y] 47))
  have hb0 := (Below.refl w.heap.size w).alloc (Nat.le_refl _) (.cells #[.int .u8 x, .int .u8 y] 47)
  have HB0 := Lib.hid hb0
  have HK0 := Lib.hid (Blk.new w 47 [.int .u8 x, .int .u8 y])
  have HRA := Lib.hid (hra.below hb0)
  have HRB := Lib.hid (hrb.below hb0)
  have HLA := Lib.hid hla
  have HLB := Lib.hid hlb
  have HFA := Lib.hid hf
  have HFB := Lib.hid hf2
  have HA12 := Lib.hid (fewB_yes HFA.out).1
  have HAS := Lib.hid (fewB_yes HFA.out).2
  have HB12 := Lib.hid (fewB_yes HFB.out).1
  have HBS := Lib.hid (fewB_yes HFB.out).2
  have HNE := Lib.hid hne
  have HX256 := Lib.hid hx
  have HY256 := Lib.hid hy
  have x0 : (0 : Int) ≤ (x : Int) := by omega
  have x1 : (x : Int) ≤ 255 := by omega
  have y0 : (0 : Int) ≤ (y : Int) := by omega
  have y1 : (y : Int) ≤ 255 := by omega
  have hbe : ((x : Int) == (y : Int)) = false := by simp; omega
  clear hf hf2 hx hy hne hb
  clear hg hra hrb hla hlb hb0
  go_enter Tryd.func6, Tryd.ntmps6
  go_wp2_with fail
  refine (hsanity_any _ HG.out).mono ?_
  rintro e w1 ⟨rfl, hb1⟩
  have G1 := Lib.hid (HG.out.next hb1)
  have B1 := Lib.hid (HB0.out.trans (hb1.mono HB0.out.size))
  have K1 := Lib.hid (HK0.out.next hb1)
  have RA := Lib.hid (HRA.out.below hb1)
  have RB := Lib.hid (HRB.out.below hb1)
  clear hb1 HG HB0 HK0 HRA HRB
  go_wp2_with fail
  refine (few_any A ca la w1 RA.out HLA.out).mono ?_
  rintro e w' ⟨rfl, rfl⟩
  rw [HFA.out]
  go_wp2_with fail
  refine (few_any B cb lb w1 RB.out HLB.out).mono ?_
  rintro e w' ⟨rfl, rfl⟩
  rw [HFB.out]
  have k0 : w1.cell? ⟨w.heap.size, 0, none⟩ = some (.int .u8 x) := by rw [K1.out.cell 0]; rfl
  have k1 : w1.cell? ⟨w.heap.size, 1, none⟩ = some (.int .u8 y) := by rw [K1.out.cell 1]; rfl
  go_wp2_with fail
  refine (input_any x A ca la w1 RA.out HA12.out HAS.out).mono ?_
  rintro e w2 ⟨vx, rfl, hox, hb2⟩
  obtain ⟨X, hX⟩ : ∃ X, tagB (x : Int) :: encP la = X := ⟨_, rfl⟩
  rw [hX] at hox
  obtain ⟨Ax, cx, rfl, hrx, hcx⟩ := own_out hox
  have HX := Lib.hid hX
  have G2 := Lib.hid (G1.out.next hb2)
  have B2 := Lib.hid (B1.out.trans (hb2.mono B1.out.size))
  have K2 := Lib.hid (K1.out.next hb2)
  have RA2 := Lib.hid (RA.out.below hb2)
  have RB2 := Lib.hid (RB.out.below hb2)
  have RX2 := Lib.hid hrx
  have CX := Lib.hid hcx
  have c0 : w2.cell? ⟨w.heap.size, 0, none⟩ = some (.int .u8 x) := by rw [K2.out.cell 0]; rfl
  have c1 : w2.cell? ⟨w.heap.size, 1, none⟩ = some (.int .u8 y) := by rw [K2.out.cell 1]; rfl
  clear hox hrx hcx hb2 hX G1 B1 K1 RA RB k0 k1
  go_wp2_with fail
  refine (input_any y B cb lb w2 RB2.out HB12.out HBS.out).mono ?_
  rintro e w3 ⟨vy, rfl, hoy, hb3⟩
  obtain ⟨Y, hY⟩ : ∃ Y, tagB (y : Int) :: encP lb = Y := ⟨_, rfl⟩
  rw [hY] at hoy
  obtain ⟨Ay, cy, rfl, hry, hcy⟩ := own_out hoy
  have HY := Lib.hid hY
  have G3 := Lib.hid (G2.out.next hb3)
  have B3 := Lib.hid (B2.out.trans (hb3.mono B2.out.size))
  have K3 := Lib.hid (K2.out.next hb3)
  have RA3 := Lib.hid (RA2.out.below hb3)
  have RB3 := Lib.hid (RB2.out.below hb3)
  have RX3 := Lib.hid (RX2.out.below hb3)
  have RY3 := Lib.hid hry
  have CY := Lib.hid hcy
  clear hoy hry hcy hb3 hY G2 B2 K2 RA2 RB2 RX2 c0 c1
  clear hbe
  have hXY : X ≠ Y := by
    intro e
    rw [← HX.out, ← HY.out] at e
    injection e with e1 e2
    exact HNE.out ⟨tagB_inj HX256.out HY256.out e1, encP_inj la lb HAS.out HBS.out e2⟩
  have HXY := Lib.hid hXY
  clear hXY
  have HLX := Lib.hid (show X.length ≤ 5000 by rw [← HX.out, List.length_cons]; have h1 := encP_len la HAS.out; have h2 := HA12.out; omega)
  have HLY := Lib.hid (show Y.length ≤ 5000 by rw [← HY.out, List.length_cons]; have h1 := encP_len lb HBS.out; have h2 := HB12.out; omega)
  have HPA := Lib.hid (show (encP la).length ≤ 100000000 by have h1 := encP_len la HAS.out; have h2 := HA12.out; omega)
  have HPB := Lib.hid (show (encP lb).length ≤ 100000000 by have h1 := encP_len lb HBS.out; have h2 := HB12.out; omega)
  have c0 : w3.cell? ⟨w.heap.size, 0, none⟩ = some (.int .u8 x) := by rw [K3.out.cell 0]; rfl
  have c1 : w3.cell? ⟨w.heap.size, 1, none⟩ = some (.int .u8 y) := by rw [K3.out.cell 1]; rfl
  go_wp2_with fail
  refine (of_any x A ca la w3 G3.out RA3.out (fun s hs => Nat.le_trans (HAS.out s hs) (by omega)) (by have := HA12.out; omega) HPA.out).mono ?_
  rintro e w4 ⟨rfl, hb4⟩
  rw [HX.out]
  obtain ⟨D, hD⟩ : ∃ D, (Hm.sum X).take 16 = D := ⟨_, rfl⟩
  rw [hD]
  have HD := Lib.hid hD
  have HDL := Lib.hid (show D.length = 16 by rw [← hD, List.length_take, sum_len]; rfl)
  have G4 := Lib.hid (G3.out.next hb4)
  have B4 := Lib.hid (B3.out.trans (hb4.mono B3.out.size))
  have K4 := Lib.hid (K3.out.next hb4)
  have RB4 := Lib.hid (RB3.out.below hb4)
  have RX4 := Lib.hid (RX3.out.below hb4)
  have RY4 := Lib.hid (RY3.out.below hb4)
  clear hb4 hD G3 B3 K3 RA3 RB3 RX3 RY3 c0 c1
  go_wp2_with (refine wpList_var rfl rfl 43 11 rfl rfl rfl (.tmp 56) rfl (zb 16) (bc D) dg_zero rfl rfl (by rw [bc_len, zb_len, HDL.out]) (by rw [dg_size, bc_len, HDL.out]) (bc_one _) ?_; intro w5 J5 D5; have G5 := Lib.hid (G4.out.next D5.out); have B5 := Lib.hid (B4.out.trans (D5.out.mono B4.out.size)); have RB5 := Lib.hid (RB4.out.below D5.out); have RX5 := Lib.hid (RX4.out.below D5.out); have RY5 := Lib.hid (RY4.out.below D5.out); have K5 := Lib.hid (K4.out.next D5.out); have c0 : w5.cell? ⟨w.heap.size, 0, none⟩ = some (.int .u8 x) := (by rw [K5.out.cell 0]; rfl); have c1 : w5.cell? ⟨w.heap.size, 1, none⟩ = some (.int .u8 y) := (by rw [K5.out.cell 1]; rfl); clear G4 B4 K4 RB4 RX4 RY4 D5)
  refine (of_any y B cb lb w5 G5.out RB5.out (fun s hs => Nat.le_trans (HBS.out s hs) (by omega)) (by have := HB12.out; omega) HPB.out).mono ?_
  rintro e w6 ⟨rfl, hb6⟩
  rw [HY.out]
  obtain ⟨E, hE⟩ : ∃ E, (Hm.sum Y).take 16 = E := ⟨_, rfl⟩
  rw [hE]
  have HE := Lib.hid hE
  have HEL := Lib.hid (show E.length = 16 by rw [← hE, List.length_take, sum_len]; rfl)
  have G6 := Lib.hid (G5.out.next hb6)
  have B6 := Lib.hid (B5.out.trans (hb6.mono B5.out.size))
  have J6 := Lib.hid (J5.out.next hb6)
  have RX6 := Lib.hid (RX5.out.below hb6)
  have RY6 := Lib.hid (RY5.out.below hb6)
  clear hb6 hE G5 B5 K5 RB5 RX5 RY5 J5 c0 c1
  go_wp2_with (refine wpList_var rfl rfl 43 12 rfl rfl rfl (.tmp 61) rfl (zb 16) (bc E) dg_zero rfl rfl (by rw [bc_len, zb_len, HEL.out]) (by rw [dg_size, bc_len, HEL.out]) (bc_one _) ?_; intro w7 L7 D7; have G7 := Lib.hid (G6.out.next D7.out); have B7 := Lib.hid (B6.out.trans (D7.out.mono B6.out.size)); have RX7 := Lib.hid (RX6.out.below D7.out); have RY7 := Lib.hid (RY6.out.below D7.out); have J7 := Lib.hid (J6.out.next D7.out); clear G6 B6 J6 RX6 RY6 D7)
  refine wp_region_held_drew (S := fun W => Below w7.heap.size w7 W) (by kernel_rfl) (Below.refl _ _).drew (fun hS => ?_)
  generalize w7.drew = w8 at hS ⊢
  refine reg_takeG (i := 0) (some 62) rfl rfl rfl (by kernel_rfl) (by kernel_rfl) (by kernel_rfl) (.bool true) (fun _ _ _ h => h) (fun W hW => exec_move (.tmp 7) rfl _ rfl) hS ?_
  go_frame
  refine reg_takeG (i := 1) (some 63) rfl rfl rfl (by kernel_rfl) (by kernel_rfl) (by kernel_rfl) (.bool true) (fun _ _ _ h => h) (fun W hW => exec_move (.tmp 62) rfl _ rfl) hS ?_
  go_frame
  refine reg_takeG (i := 2) (some 64) rfl rfl rfl (by kernel_rfl) (by kernel_rfl) (by kernel_rfl) (.slice Ax X.length cx) (fun _ _ _ h => h) (fun W hW => exec_move (.tmp 9) rfl _ rfl) hS ?_
  go_frame
  refine reg_takeG (i := 3) (some 65) rfl rfl rfl (by kernel_rfl) (by kernel_rfl) (by kernel_rfl) (.string (sb X)) (fun _ _ _ h => h) (fun W hW => exec_convert 22 9 (.tmp 64) rfl _ _ rfl (run_str (RX7.out.below hW) cx)) hS ?_
  go_frame
  refine reg_takeG (i := 4) (some 66) rfl rfl rfl (by kernel_rfl) (by kernel_rfl) (by kernel_rfl) (.slice Ay Y.length cy) (fun _ _ _ h => h) (fun W hW => exec_move (.tmp 10) rfl _ rfl) hS ?_
  go_frame
  refine reg_takeG (i := 5) (some 67) rfl rfl rfl (by kernel_rfl) (by kernel_rfl) (by kernel_rfl) (.string (sb Y)) (fun _ _ _ h => h) (fun W hW => exec_convert 22 9 (.tmp 66) rfl _ _ rfl (run_str (RY7.out.below hW) cy)) hS ?_
  go_frame
  refine reg_takeG (i := 6) (some 68) rfl rfl rfl (by kernel_rfl) (by kernel_rfl) (by kernel_rfl) (.bool (decide (X ≠ Y))) (fun _ _ _ h => h) (fun W hW => exec_bin .neq 9 _ (.tmp 65) (.tmp 67) rfl _ _ _ rfl rfl rfl (run_neq_str W X Y)) hS ?_
  rw [decide_eq_true HXY.out]
  go_frame
  refine reg_takeG (i := 7) (some 69) rfl rfl rfl (by kernel_rfl) (by kernel_rfl) (by kernel_rfl) (.bool true) (fun _ _ _ h => h) (fun W hW => exec_pick (.tmp 63) (.tmp 68) (.const (.bool false)) rfl _ rfl rfl) hS ?_
  go_frame
  refine reg_takeG (i := 8) (some 70) rfl rfl rfl (by kernel_rfl) (by kernel_rfl) (by kernel_rfl) (.bool true) (fun _ _ _ h => h) (fun W hW => exec_move (.tmp 69) rfl _ rfl) hS ?_
  go_frame
  refine reg_takeG (i := 9) (some 71) rfl rfl rfl (by kernel_rfl) (by kernel_rfl) (by kernel_rfl) (.agg (bc D).toArray) (fun _ _ _ h => h) (fun W hW => exec_load16 (.tmp 11) rfl _ D HDL.out (J7.out.next hW) rfl) hS ?_
  go_frame
  refine reg_takeG (i := 10) (some 72) rfl rfl rfl (by kernel_rfl) (by kernel_rfl) (by kernel_rfl) (.agg (bc E).toArray) (fun _ _ _ h => h) (fun W hW => exec_load16 (.tmp 12) rfl _ E HEL.out (L7.out.next hW) rfl) hS ?_
  go_frame
  refine reg_takeG (i := 11) (some 73) rfl rfl rfl (by kernel_rfl) (by kernel_rfl) (by kernel_rfl) (.bool (decide (D = E))) (fun _ _ _ h => h) (fun W hW => exec_eql16 (.tmp 71) (.tmp 72) _ rfl D E HDL.out HEL.out rfl rfl) hS ?_
  go_frame
  refine reg_takeG (i := 12) (some 74) rfl rfl rfl (by kernel_rfl) (by kernel_rfl) (by kernel_rfl) (.slice Ax X.length cx) (fun _ _ _ h => h) (fun W hW => exec_move (.tmp 9) rfl _ rfl) hS ?_
  go_frame
  refine reg_takeG (i := 14) (some 76) rfl rfl rfl (by kernel_rfl) (by kernel_rfl) (by kernel_rfl) (.slice Ay Y.length cy) (fun _ _ _ h => h) (fun W hW => exec_move (.tmp 10) rfl _ rfl) hS ?_
  go_frame
  refine reg_callG (i := 13) (some 75) rfl rfl rfl (by kernel_rfl) rfl Tryd.func13 (by kernel_rfl) (by kernel_rfl) #[.slice Ax X.length cx] rfl (sum_any Ax cx X w8 (G7.out.next hS) (RX7.out.below hS) CX.out (by have := HLX.out; omega)) ?_
  rintro e w9 ⟨rfl, hb9⟩
  have hS9 := hS.trans (hb9.mono hS.size)
  refine ⟨_, rfl, hS9, ?_⟩
  go_frame
  refine reg_callG (i := 15) (some 77) rfl rfl rfl (by kernel_rfl) rfl Tryd.func13 (by kernel_rfl) (by kernel_rfl) #[.slice Ay Y.length cy] rfl (sum_any Ay cy Y w9 (G7.out.next hS9) (RY7.out.below hS9) CY.out (by have := HLY.out; omega)) ?_
  rintro e w10 ⟨rfl, hb10⟩
  have hS10 := hS9.trans (hb10.mono hS9.size)
  refine ⟨_, rfl, hS10, ?_⟩
  go_frame
  refine reg_callG (i := 16) (some 78) rfl rfl rfl (by kernel_rfl) rfl Tryd.func24 (by kernel_rfl) (by kernel_rfl) #[.agg (bc (Hm.sum X)).toArray, .agg (bc (Hm.sum Y)).toArray] rfl (clash_any (Hm.sum X) (Hm.sum Y) w10 (sum_len _) (sum_len _)) ?_
  rintro e w11 ⟨rfl, hb11⟩
  rw [HD.out, HE.out]
  have hS11 := hS10.trans (hb11.mono hS10.size)
  refine ⟨_, rfl, hS11, ?_⟩
  go_frame
  refine reg_valueG (i := 17) (some 79) rfl rfl rfl (by kernel_rfl) (.bool true) (exec_bin .eql 4 _ (.tmp 73) (.tmp 78) rfl _ _ _ rfl rfl rfl (run_eql_bool w11 _)) hS11 ?_
  go_frame
  refine reg_valueG (i := 18) (some 80) rfl rfl rfl (by kernel_rfl) (.bool true) (exec_pick (.tmp 70) (.tmp 79) (.const (.bool false)) rfl _ rfl rfl) hS11 ?_
  go_frame
  refine reg_valueG (i := 19) (some 6) rfl rfl rfl (by kernel_rfl) (.bool true) (exec_assign (.tmp 80) rfl _ rfl) hS11 ?_
  go_frame
  refine wpAnyH_done (by kernel_rfl) ?_ _
  have F := Lib.hid (B7.out.trans (hS11.mono B7.out.size))
  clear hS hS9 hS10 hS11 hb9 hb10 hb11
  go_wp2
  go_ret
  exact ⟨rfl, F.out⟩

set_option maxRecDepth 100000 in
set_option maxHeartbeats 1000000 in
theorem walkSep_parts (x y : Nat) (A : Option Addr) (ca : Nat) (la : List ByteArray) (B : Option Addr) (cb : Nat) (lb : List ByteArray) (w : World) (hg : Glob w) (hra : Rd w A (la.map Value.string)) (hrb : Rd w B (lb.map Value.string)) (hla : la.length ≤ maxLen) (hlb : lb.length ≤ maxLen) (hf : fewB la = true) (hf2 : fewB lb = true) (hx : x < 256) (hy : y < 256) (hne : ¬ (x = y ∧ la = lb)) (hb : x = y) (hab : la ≠ lb) :
    Calls Tryd.prog 6 #[.agg #[.int .u8 x, .int .u8 y], .slice A la.length ca, .slice B lb.length cb] w fun e w' => e = .returned (.bool true) ∧ Below w.heap.size w w' := by
  have HG := Lib.hid (glob_new hg (.cells #[.int .u8 x, .int .u8 y] 47))
  have hb0 := (Below.refl w.heap.size w).alloc (Nat.le_refl _) (.cells #[.int .u8 x, .int .u8 y] 47)
  have HB0 := Lib.hid hb0
  have HK0 := Lib.hid (Blk.new w 47 [.int .u8 x, .int .u8 y])
  have HRA := Lib.hid (hra.below hb0)
  have HRB := Lib.hid (hrb.below hb0)
  have HLA := Lib.hid hla
  have HLB := Lib.hid hlb
  have HFA := Lib.hid hf
  have HFB := Lib.hid hf2
  have HA12 := Lib.hid (fewB_yes HFA.out).1
  have HAS := Lib.hid (fewB_yes HFA.out).2
  have HB12 := Lib.hid (fewB_yes HFB.out).1
  have HBS := Lib.hid (fewB_yes HFB.out).2
  have HNE := Lib.hid hne
  have HX256 := Lib.hid hx
  have HY256 := Lib.hid hy
  have x0 : (0 : Int) ≤ (x : Int) := by omega
  have x1 : (x : Int) ≤ 255 := by omega
  have y0 : (0 : Int) ≤ (y : Int) := by omega
  have y1 : (y : Int) ≤ 255 := by omega
  have HBR := Lib.hid hb
  have HAB := Lib.hid hab
  clear hab
  clear hf hf2 hx hy hne hb
  clear hg hra hrb hla hlb hb0
  go_enter Tryd.func6, Tryd.ntmps6
  go_wp2_with fail
  refine (hsanity_any _ HG.out).mono ?_
  rintro e w1 ⟨rfl, hb1⟩
  have G1 := Lib.hid (HG.out.next hb1)
  have B1 := Lib.hid (HB0.out.trans (hb1.mono HB0.out.size))
  have K1 := Lib.hid (HK0.out.next hb1)
  have RA := Lib.hid (HRA.out.below hb1)
  have RB := Lib.hid (HRB.out.below hb1)
  clear hb1 HG HB0 HK0 HRA HRB
  go_wp2_with fail
  refine (few_any A ca la w1 RA.out HLA.out).mono ?_
  rintro e w' ⟨rfl, rfl⟩
  rw [HFA.out]
  go_wp2_with fail
  refine (few_any B cb lb w1 RB.out HLB.out).mono ?_
  rintro e w' ⟨rfl, rfl⟩
  rw [HFB.out]
  have k0 : w1.cell? ⟨w.heap.size, 0, none⟩ = some (.int .u8 x) := by rw [K1.out.cell 0]; rfl
  have k1 : w1.cell? ⟨w.heap.size, 1, none⟩ = some (.int .u8 y) := by rw [K1.out.cell 1]; rfl
  have hbe : ((x : Int) == (y : Int)) = true := by rw [HBR.out]; simp
  go_wp2_with fail
  have hsame := rsame_any A B ca cb la lb w1 RA.out RB.out (by have := HA12.out; omega)
  rw [decide_eq_false HAB.out] at hsame
  have HSAME := Lib.hid hsame
  clear hsame
  refine HSAME.out.mono ?_
  rintro e wq ⟨rfl, hbq⟩
  have G1' := Lib.hid (G1.out.next hbq)
  have B1' := Lib.hid (B1.out.trans (hbq.mono B1.out.size))
  have K1' := Lib.hid (K1.out.next hbq)
  have RA' := Lib.hid (RA.out.below hbq)
  have RB' := Lib.hid (RB.out.below hbq)
  clear hbq G1 B1 K1 RA RB k0 k1 HSAME
  have k0 : wq.cell? ⟨w.heap.size, 0, none⟩ = some (.int .u8 x) := by rw [K1'.out.cell 0]; rfl
  have k1 : wq.cell? ⟨w.heap.size, 1, none⟩ = some (.int .u8 y) := by rw [K1'.out.cell 1]; rfl
  go_wp2_with fail
  refine (input_any x A ca la wq RA'.out HA12.out HAS.out).mono ?_
  rintro e w2 ⟨vx, rfl, hox, hb2⟩
  obtain ⟨X, hX⟩ : ∃ X, tagB (x : Int) :: encP la = X := ⟨_, rfl⟩
  rw [hX] at hox
  obtain ⟨Ax, cx, rfl, hrx, hcx⟩ := own_out hox
  have HX := Lib.hid hX
  have G2 := Lib.hid (G1'.out.next hb2)
  have B2 := Lib.hid (B1'.out.trans (hb2.mono B1'.out.size))
  have K2 := Lib.hid (K1'.out.next hb2)
  have RA2 := Lib.hid (RA'.out.below hb2)
  have RB2 := Lib.hid (RB'.out.below hb2)
  have RX2 := Lib.hid hrx
  have CX := Lib.hid hcx
  have c0 : w2.cell? ⟨w.heap.size, 0, none⟩ = some (.int .u8 x) := by rw [K2.out.cell 0]; rfl
  have c1 : w2.cell? ⟨w.heap.size, 1, none⟩ = some (.int .u8 y) := by rw [K2.out.cell 1]; rfl
  clear hox hrx hcx hb2 hX G1' B1' K1' RA' RB' k0 k1
  go_wp2_with fail
  refine (input_any y B cb lb w2 RB2.out HB12.out HBS.out).mono ?_
  rintro e w3 ⟨vy, rfl, hoy, hb3⟩
  obtain ⟨Y, hY⟩ : ∃ Y, tagB (y : Int) :: encP lb = Y := ⟨_, rfl⟩
  rw [hY] at hoy
  obtain ⟨Ay, cy, rfl, hry, hcy⟩ := own_out hoy
  have HY := Lib.hid hY
  have G3 := Lib.hid (G2.out.next hb3)
  have B3 := Lib.hid (B2.out.trans (hb3.mono B2.out.size))
  have K3 := Lib.hid (K2.out.next hb3)
  have RA3 := Lib.hid (RA2.out.below hb3)
  have RB3 := Lib.hid (RB2.out.below hb3)
  have RX3 := Lib.hid (RX2.out.below hb3)
  have RY3 := Lib.hid hry
  have CY := Lib.hid hcy
  clear hoy hry hcy hb3 hY G2 B2 K2 RA2 RB2 RX2 c0 c1
  clear hbe
  have hXY : X ≠ Y := by
    intro e
    rw [← HX.out, ← HY.out] at e
    injection e with e1 e2
    exact HNE.out ⟨tagB_inj HX256.out HY256.out e1, encP_inj la lb HAS.out HBS.out e2⟩
  have HXY := Lib.hid hXY
  clear hXY
  have HLX := Lib.hid (show X.length ≤ 5000 by rw [← HX.out, List.length_cons]; have h1 := encP_len la HAS.out; have h2 := HA12.out; omega)
  have HLY := Lib.hid (show Y.length ≤ 5000 by rw [← HY.out, List.length_cons]; have h1 := encP_len lb HBS.out; have h2 := HB12.out; omega)
  have HPA := Lib.hid (show (encP la).length ≤ 100000000 by have h1 := encP_len la HAS.out; have h2 := HA12.out; omega)
  have HPB := Lib.hid (show (encP lb).length ≤ 100000000 by have h1 := encP_len lb HBS.out; have h2 := HB12.out; omega)
  have c0 : w3.cell? ⟨w.heap.size, 0, none⟩ = some (.int .u8 x) := by rw [K3.out.cell 0]; rfl
  have c1 : w3.cell? ⟨w.heap.size, 1, none⟩ = some (.int .u8 y) := by rw [K3.out.cell 1]; rfl
  go_wp2_with fail
  refine (of_any x A ca la w3 G3.out RA3.out (fun s hs => Nat.le_trans (HAS.out s hs) (by omega)) (by have := HA12.out; omega) HPA.out).mono ?_
  rintro e w4 ⟨rfl, hb4⟩
  rw [HX.out]
  obtain ⟨D, hD⟩ : ∃ D, (Hm.sum X).take 16 = D := ⟨_, rfl⟩
  rw [hD]
  have HD := Lib.hid hD
  have HDL := Lib.hid (show D.length = 16 by rw [← hD, List.length_take, sum_len]; rfl)
  have G4 := Lib.hid (G3.out.next hb4)
  have B4 := Lib.hid (B3.out.trans (hb4.mono B3.out.size))
  have K4 := Lib.hid (K3.out.next hb4)
  have RB4 := Lib.hid (RB3.out.below hb4)
  have RX4 := Lib.hid (RX3.out.below hb4)
  have RY4 := Lib.hid (RY3.out.below hb4)
  clear hb4 hD G3 B3 K3 RA3 RB3 RX3 RY3 c0 c1
  go_wp2_with (refine wpList_var rfl rfl 43 11 rfl rfl rfl (.tmp 56) rfl (zb 16) (bc D) dg_zero rfl rfl (by rw [bc_len, zb_len, HDL.out]) (by rw [dg_size, bc_len, HDL.out]) (bc_one _) ?_; intro w5 J5 D5; have G5 := Lib.hid (G4.out.next D5.out); have B5 := Lib.hid (B4.out.trans (D5.out.mono B4.out.size)); have RB5 := Lib.hid (RB4.out.below D5.out); have RX5 := Lib.hid (RX4.out.below D5.out); have RY5 := Lib.hid (RY4.out.below D5.out); have K5 := Lib.hid (K4.out.next D5.out); have c0 : w5.cell? ⟨w.heap.size, 0, none⟩ = some (.int .u8 x) := (by rw [K5.out.cell 0]; rfl); have c1 : w5.cell? ⟨w.heap.size, 1, none⟩ = some (.int .u8 y) := (by rw [K5.out.cell 1]; rfl); clear G4 B4 K4 RB4 RX4 RY4 D5)
  refine (of_any y B cb lb w5 G5.out RB5.out (fun s hs => Nat.le_trans (HBS.out s hs) (by omega)) (by have := HB12.out; omega) HPB.out).mono ?_
  rintro e w6 ⟨rfl, hb6⟩
  rw [HY.out]
  obtain ⟨E, hE⟩ : ∃ E, (Hm.sum Y).take 16 = E := ⟨_, rfl⟩
  rw [hE]
  have HE := Lib.hid hE
  have HEL := Lib.hid (show E.length = 16 by rw [← hE, List.length_take, sum_len]; rfl)
  have G6 := Lib.hid (G5.out.next hb6)
  have B6 := Lib.hid (B5.out.trans (hb6.mono B5.out.size))
  have J6 := Lib.hid (J5.out.next hb6)
  have RX6 := Lib.hid (RX5.out.below hb6)
  have RY6 := Lib.hid (RY5.out.below hb6)
  clear hb6 hE G5 B5 K5 RB5 RX5 RY5 J5 c0 c1
  go_wp2_with (refine wpList_var rfl rfl 43 12 rfl rfl rfl (.tmp 61) rfl (zb 16) (bc E) dg_zero rfl rfl (by rw [bc_len, zb_len, HEL.out]) (by rw [dg_size, bc_len, HEL.out]) (bc_one _) ?_; intro w7 L7 D7; have G7 := Lib.hid (G6.out.next D7.out); have B7 := Lib.hid (B6.out.trans (D7.out.mono B6.out.size)); have RX7 := Lib.hid (RX6.out.below D7.out); have RY7 := Lib.hid (RY6.out.below D7.out); have J7 := Lib.hid (J6.out.next D7.out); clear G6 B6 J6 RX6 RY6 D7)
  refine wp_region_held_drew (S := fun W => Below w7.heap.size w7 W) (by kernel_rfl) (Below.refl _ _).drew (fun hS => ?_)
  generalize w7.drew = w8 at hS ⊢
  refine reg_takeG (i := 0) (some 62) rfl rfl rfl (by kernel_rfl) (by kernel_rfl) (by kernel_rfl) (.bool true) (fun _ _ _ h => h) (fun W hW => exec_move (.tmp 7) rfl _ rfl) hS ?_
  go_frame
  refine reg_takeG (i := 1) (some 63) rfl rfl rfl (by kernel_rfl) (by kernel_rfl) (by kernel_rfl) (.bool true) (fun _ _ _ h => h) (fun W hW => exec_move (.tmp 62) rfl _ rfl) hS ?_
  go_frame
  refine reg_takeG (i := 2) (some 64) rfl rfl rfl (by kernel_rfl) (by kernel_rfl) (by kernel_rfl) (.slice Ax X.length cx) (fun _ _ _ h => h) (fun W hW => exec_move (.tmp 9) rfl _ rfl) hS ?_
  go_frame
  refine reg_takeG (i := 3) (some 65) rfl rfl rfl (by kernel_rfl) (by kernel_rfl) (by kernel_rfl) (.string (sb X)) (fun _ _ _ h => h) (fun W hW => exec_convert 22 9 (.tmp 64) rfl _ _ rfl (run_str (RX7.out.below hW) cx)) hS ?_
  go_frame
  refine reg_takeG (i := 4) (some 66) rfl rfl rfl (by kernel_rfl) (by kernel_rfl) (by kernel_rfl) (.slice Ay Y.length cy) (fun _ _ _ h => h) (fun W hW => exec_move (.tmp 10) rfl _ rfl) hS ?_
  go_frame
  refine reg_takeG (i := 5) (some 67) rfl rfl rfl (by kernel_rfl) (by kernel_rfl) (by kernel_rfl) (.string (sb Y)) (fun _ _ _ h => h) (fun W hW => exec_convert 22 9 (.tmp 66) rfl _ _ rfl (run_str (RY7.out.below hW) cy)) hS ?_
  go_frame
  refine reg_takeG (i := 6) (some 68) rfl rfl rfl (by kernel_rfl) (by kernel_rfl) (by kernel_rfl) (.bool (decide (X ≠ Y))) (fun _ _ _ h => h) (fun W hW => exec_bin .neq 9 _ (.tmp 65) (.tmp 67) rfl _ _ _ rfl rfl rfl (run_neq_str W X Y)) hS ?_
  rw [decide_eq_true HXY.out]
  go_frame
  refine reg_takeG (i := 7) (some 69) rfl rfl rfl (by kernel_rfl) (by kernel_rfl) (by kernel_rfl) (.bool true) (fun _ _ _ h => h) (fun W hW => exec_pick (.tmp 63) (.tmp 68) (.const (.bool false)) rfl _ rfl rfl) hS ?_
  go_frame
  refine reg_takeG (i := 8) (some 70) rfl rfl rfl (by kernel_rfl) (by kernel_rfl) (by kernel_rfl) (.bool true) (fun _ _ _ h => h) (fun W hW => exec_move (.tmp 69) rfl _ rfl) hS ?_
  go_frame
  refine reg_takeG (i := 9) (some 71) rfl rfl rfl (by kernel_rfl) (by kernel_rfl) (by kernel_rfl) (.agg (bc D).toArray) (fun _ _ _ h => h) (fun W hW => exec_load16 (.tmp 11) rfl _ D HDL.out (J7.out.next hW) rfl) hS ?_
  go_frame
  refine reg_takeG (i := 10) (some 72) rfl rfl rfl (by kernel_rfl) (by kernel_rfl) (by kernel_rfl) (.agg (bc E).toArray) (fun _ _ _ h => h) (fun W hW => exec_load16 (.tmp 12) rfl _ E HEL.out (L7.out.next hW) rfl) hS ?_
  go_frame
  refine reg_takeG (i := 11) (some 73) rfl rfl rfl (by kernel_rfl) (by kernel_rfl) (by kernel_rfl) (.bool (decide (D = E))) (fun _ _ _ h => h) (fun W hW => exec_eql16 (.tmp 71) (.tmp 72) _ rfl D E HDL.out HEL.out rfl rfl) hS ?_
  go_frame
  refine reg_takeG (i := 12) (some 74) rfl rfl rfl (by kernel_rfl) (by kernel_rfl) (by kernel_rfl) (.slice Ax X.length cx) (fun _ _ _ h => h) (fun W hW => exec_move (.tmp 9) rfl _ rfl) hS ?_
  go_frame
  refine reg_takeG (i := 14) (some 76) rfl rfl rfl (by kernel_rfl) (by kernel_rfl) (by kernel_rfl) (.slice Ay Y.length cy) (fun _ _ _ h => h) (fun W hW => exec_move (.tmp 10) rfl _ rfl) hS ?_
  go_frame
  refine reg_callG (i := 13) (some 75) rfl rfl rfl (by kernel_rfl) rfl Tryd.func13 (by kernel_rfl) (by kernel_rfl) #[.slice Ax X.length cx] rfl (sum_any Ax cx X w8 (G7.out.next hS) (RX7.out.below hS) CX.out (by have := HLX.out; omega)) ?_
  rintro e w9 ⟨rfl, hb9⟩
  have hS9 := hS.trans (hb9.mono hS.size)
  refine ⟨_, rfl, hS9, ?_⟩
  go_frame
  refine reg_callG (i := 15) (some 77) rfl rfl rfl (by kernel_rfl) rfl Tryd.func13 (by kernel_rfl) (by kernel_rfl) #[.slice Ay Y.length cy] rfl (sum_any Ay cy Y w9 (G7.out.next hS9) (RY7.out.below hS9) CY.out (by have := HLY.out; omega)) ?_
  rintro e w10 ⟨rfl, hb10⟩
  have hS10 := hS9.trans (hb10.mono hS9.size)
  refine ⟨_, rfl, hS10, ?_⟩
  go_frame
  refine reg_callG (i := 16) (some 78) rfl rfl rfl (by kernel_rfl) rfl Tryd.func24 (by kernel_rfl) (by kernel_rfl) #[.agg (bc (Hm.sum X)).toArray, .agg (bc (Hm.sum Y)).toArray] rfl (clash_any (Hm.sum X) (Hm.sum Y) w10 (sum_len _) (sum_len _)) ?_
  rintro e w11 ⟨rfl, hb11⟩
  rw [HD.out, HE.out]
  have hS11 := hS10.trans (hb11.mono hS10.size)
  refine ⟨_, rfl, hS11, ?_⟩
  go_frame
  refine reg_valueG (i := 17) (some 79) rfl rfl rfl (by kernel_rfl) (.bool true) (exec_bin .eql 4 _ (.tmp 73) (.tmp 78) rfl _ _ _ rfl rfl rfl (run_eql_bool w11 _)) hS11 ?_
  go_frame
  refine reg_valueG (i := 18) (some 80) rfl rfl rfl (by kernel_rfl) (.bool true) (exec_pick (.tmp 70) (.tmp 79) (.const (.bool false)) rfl _ rfl rfl) hS11 ?_
  go_frame
  refine reg_valueG (i := 19) (some 6) rfl rfl rfl (by kernel_rfl) (.bool true) (exec_assign (.tmp 80) rfl _ rfl) hS11 ?_
  go_frame
  refine wpAnyH_done (by kernel_rfl) ?_ _
  have F := Lib.hid (B7.out.trans (hS11.mono B7.out.size))
  clear hS hS9 hS10 hS11 hb9 hb10 hb11
  go_wp2
  go_ret
  exact ⟨rfl, F.out⟩

theorem walkSep (x y : Nat) (A : Option Addr) (ca : Nat) (la : List ByteArray) (B : Option Addr) (cb : Nat) (lb : List ByteArray) (w : World) (hg : Glob w) (hra : Rd w A (la.map Value.string)) (hrb : Rd w B (lb.map Value.string)) (hla : la.length ≤ maxLen) (hlb : lb.length ≤ maxLen) (hx : x < 256) (hy : y < 256) :
    Calls Tryd.prog 6 #[.agg #[.int .u8 x, .int .u8 y], .slice A la.length ca, .slice B lb.length cb] w fun e w' => e = .returned (.bool true) ∧ Below w.heap.size w w' := by
  cases hf : fewB la with
  | false => exact walkSep_a x y A ca la B cb lb w hg hra hrb hla hlb hf
  | true =>
    cases hf2 : fewB lb with
    | false => exact walkSep_b x y A ca la B cb lb w hg hra hrb hla hlb hf hf2
    | true =>
      by_cases hxy : x = y
      · by_cases hab : la = lb
        · exact walkSep_same x y A ca la B cb lb w hg hra hrb hla hlb hf hx hxy hab
        · exact walkSep_parts x y A ca la B cb lb w hg hra hrb hla hlb hf hf2 hx hy (fun h => hab h.2) hxy hab
      · exact walkSep_tags x y A ca la B cb lb w hg hra hrb hla hlb hf hf2 hx hy (fun h => hxy h.1) hxy
end Go.Proofs.YtoendbdpkkjjkaaDoor
