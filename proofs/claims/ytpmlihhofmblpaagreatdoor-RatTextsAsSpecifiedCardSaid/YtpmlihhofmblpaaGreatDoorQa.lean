/- Rational numbers, and how the program writes them. -/
import Derived.Test.YtpmlihhofmblpaaGreatDoorMf
import Derived.Laws.StructEq
namespace Go.Proofs.YtpmlihhofmblpaaGreatDoor
open Go.RowKit Hm Wm Wn

/-- A number of the program: sign, numerator, denominator. -/
structure Rv where
  neg : Bool
  n : ByteArray
  d : ByteArray
theorem qnil : nB ⟨#[]⟩ = 0 := by rw [← c0, nB_cS]
def sg (b : Bool) (k : Nat) : Int := if b then -(k : Int) else (k : Int)
def zR : Rv := ⟨false, ⟨#[]⟩, ⟨#[]⟩⟩
/-- A fraction in lowest terms. -/
def fr (q : Rat) : Rv := ⟨decide (q.num < 0), cS q.num.natAbs, cS q.den⟩
/-- A number, as it is handed out. -/
def rt (q : Rat) : Rv := if q = 0 then zR else fr q
def okQ (x : Rv) : Prop := nB x.n ≠ 0 ∧ nB x.d ≠ 0 ∧ cS (nB x.n) = x.n ∧ cS (nB x.d) = x.d ∧ Nat.gcd (nB x.n) (nB x.d) = 1
open Classical in
noncomputable def valR (x : Rv) : Rat := if okQ x then mkRat (sg x.neg (nB x.n)) (nB x.d) else 0

theorem sg_abs (b : Bool) (k : Nat) : (sg b k).natAbs = k := by cases b <;> simp [sg]
theorem sg_neg (b : Bool) {k : Nat} (h : k ≠ 0) : decide (sg b k < 0) = b := by
  cases b
  · exact decide_eq_false (show ¬ ((k : Int) < 0) by omega)
  · exact decide_eq_true (show -(k : Int) < 0 by omega)
theorem sg_of (z : Int) : sg (decide (z < 0)) z.natAbs = z := by
  by_cases h : z < 0
  · rw [decide_eq_true h]; show -((z.natAbs : Nat) : Int) = z; omega
  · rw [decide_eq_false h]; show ((z.natAbs : Nat) : Int) = z; omega
theorem sg_inj {b c : Bool} {k : Nat} {z : Int} (h : sg b k = z) (hk : k ≠ 0) (_hc : c = decide (z < 0)) : b = c := by
  rw [_hc, ← h, sg_neg b hk]
theorem q_of {n : Int} {d : Nat} (hd : d ≠ 0) (hc : n.natAbs.Coprime d) : (mkRat n d).num = n ∧ (mkRat n d).den = d := by
  rw [← Rat.mk_eq_mkRat n d hd hc]; exact ⟨rfl, rfl⟩
theorem val_ok {x : Rv} (h : okQ x) : (valR x).num = sg x.neg (nB x.n) ∧ (valR x).den = nB x.d := by
  unfold valR
  rw [if_pos h]
  exact q_of h.2.1 (by rw [sg_abs]; exact h.2.2.2.2)
theorem fr_val {x : Rv} (h : okQ x) : fr (valR x) = x := by
  obtain ⟨h1, h2⟩ := val_ok h
  unfold fr
  rw [h1, h2, sg_neg _ h.1, sg_abs, h.2.2.1, h.2.2.2.1]
theorem val_no {x : Rv} (h : ¬ okQ x) : valR x = 0 := by unfold valR; rw [if_neg h]
theorem val_pos {x : Rv} (h : okQ x) : valR x ≠ 0 := fun e => by
  have h1 := (val_ok h).1
  rw [e] at h1
  have h2 := congrArg Int.natAbs h1
  rw [sg_abs] at h2
  exact h.1 h2.symm
theorem rt_val {x : Rv} (h : okQ x) : rt (valR x) = x := by unfold rt; rw [if_neg (val_pos h), fr_val h]
theorem rt_zero : rt 0 = zR := by unfold rt; rw [if_pos rfl]
theorem fr_zero : fr 0 = ⟨false, ⟨#[]⟩, cS 1⟩ := by unfold fr; simp [c0]
theorem num_ne {q : Rat} (h : q ≠ 0) : q.num.natAbs ≠ 0 := fun e => h (Rat.num_eq_zero.1 (Int.natAbs_eq_zero.1 e))
theorem ok_fr {q : Rat} (h : q ≠ 0) : okQ (fr q) := by
  refine ⟨?_, ?_, ?_, ?_, ?_⟩ <;> simp only [fr, nB_cS]
  · exact num_ne h
  · exact q.den_nz
  · exact q.reduced
theorem val_fr (q : Rat) : valR (fr q) = q := by
  by_cases h : q = 0
  · subst h
    exact val_no fun e => e.1 (by rw [fr_zero]; exact qnil)
  · obtain ⟨h1, h2⟩ := val_ok (ok_fr h)
    refine Rat.ext ?_ ?_
    · rw [h1]; simp only [fr, nB_cS]; exact sg_of _
    · rw [h2]; simp only [fr, nB_cS]
theorem val_rt (q : Rat) : valR (rt q) = q := by
  unfold rt
  split
  · rename_i h
    rw [h]
    exact val_no fun e => e.1 qnil
  · exact val_fr q
theorem rt_inj {p q : Rat} (h : rt p = rt q) : p = q := by rw [← val_rt p, ← val_rt q, h]
/-- The code's sum. -/
theorem add_parts (a b : Rat) {g m o r : Nat} (hg : Nat.gcd a.den b.den = g) (hm : a.den / g = m) (ho : b.den / g = o) {X : Int} (hX : a.num * (o : Int) + b.num * (m : Int) = X) (hr : Nat.gcd X.natAbs g = r) :
    (a + b).num.natAbs = X.natAbs / r ∧ (a + b).num.sign = X.sign ∧ (a + b).den = m * (b.den / r) := by
  have hgp : 0 < g := by rw [← hg]; exact Nat.gcd_pos_of_pos_left _ a.den_pos
  have ea : m * g = a.den := by rw [← hm, ← hg]; exact Nat.div_mul_cancel (Nat.gcd_dvd_left _ _)
  have eb : o * g = b.den := by rw [← ho, ← hg]; exact Nat.div_mul_cancel (Nat.gcd_dvd_right _ _)
  have hrg : r ∣ g := by rw [← hr]; exact Nat.gcd_dvd_right _ _
  have hrX : r ∣ X.natAbs := by rw [← hr]; exact Nat.gcd_dvd_left _ _
  have hrp : 0 < r := Nat.pos_of_dvd_of_pos hrg hgp
  have hmp : 0 < m := Nat.pos_of_ne_zero fun h0 => by rw [h0, Nat.zero_mul] at ea; exact a.den_nz ea.symm
  have hrb : r ∣ b.den := Nat.dvd_trans hrg (by rw [← eb]; exact Nat.dvd_mul_left _ _)
  have haux := Rat.add.aux a b hg.symm hm.symm ho.symm
  simp only at haux
  rw [hX, hr] at haux
  have hsum : a + b = mkRat X (m * b.den) := by
    have h1 : (a.num * (b.den : Int) + b.num * (a.den : Int)) = X * (g : Int) := by
      rw [← ea, ← eb, ← hX]; simp [Int.add_mul, Int.mul_assoc]
    have h2 : a.den * b.den = (m * b.den) * g := by rw [← ea, Nat.mul_right_comm]
    rw [Rat.add_def', h1, h2, Rat.mkRat_mul_right (Nat.ne_of_gt hgp)]
  have hne : m * b.den ≠ 0 := Nat.ne_of_gt (Nat.mul_pos hmp b.den_pos)
  refine ⟨?_, ?_, ?_⟩
  · rw [hsum, Rat.num_mkRat, if_neg hne, Nat.gcd_comm, ← haux, Int.natAbs_ediv_of_dvd (Int.ofNat_dvd_left.2 hrX)]; rfl
  · rw [hsum, Rat.num_mkRat, if_neg hne, Nat.gcd_comm, ← haux]
    obtain ⟨k, hk⟩ := Int.ofNat_dvd_left.2 hrX
    have hri : (r : Int) ≠ 0 := by omega
    rw [hk, Int.mul_ediv_cancel_left _ hri, Int.sign_mul, Int.sign_eq_one_of_pos (show (0 : Int) < (r : Int) by omega), Int.one_mul]
  · rw [hsum, Rat.den_mkRat, if_neg hne, Nat.gcd_comm, ← haux, Nat.mul_div_assoc _ hrb]
/-- The code's product. -/
theorem mul_parts (a b : Rat) {f s : Nat} (hf : Nat.gcd a.num.natAbs b.den = f) (hs : Nat.gcd b.num.natAbs a.den = s) :
    (a * b).num.natAbs = a.num.natAbs / f * (b.num.natAbs / s) ∧ (a * b).num.sign = a.num.sign * b.num.sign ∧ (a * b).den = a.den / s * (b.den / f) := by
  subst hf; subst hs
  have e : (Rat.mul a b) = a * b := rfl
  rw [← e]
  unfold Rat.mul
  have p1 : 0 < Nat.gcd a.num.natAbs b.den := Nat.gcd_pos_of_pos_right _ b.den_pos
  have p2 : 0 < Nat.gcd b.num.natAbs a.den := Nat.gcd_pos_of_pos_right _ a.den_pos
  refine ⟨?_, ?_, ?_⟩
  · simp only [Int.divExact_eq_tdiv, Int.natAbs_mul, Int.natAbs_tdiv, Int.natAbs_natCast]
    rfl
  · simp only [Int.divExact_eq_tdiv, Int.sign_mul]
    have key : ∀ (z : Int) (d : Nat), 0 < d → d ∣ z.natAbs → (z.tdiv (d : Int)).sign = z.sign := by
      intro z d hd hz
      obtain ⟨k, hk⟩ := Int.ofNat_dvd_left.2 hz
      have hdi : (d : Int) ≠ 0 := by omega
      rw [hk, Int.mul_tdiv_cancel_left _ hdi, Int.sign_mul, Int.sign_eq_one_of_pos (show (0 : Int) < (d : Int) by omega), Int.one_mul]
    rw [key _ _ p1 (Nat.gcd_dvd_left _ _), key _ _ p2 (Nat.gcd_dvd_left _ _)]
  · simp only [Nat.divExact_eq_div]
theorem fr_of {q : Rat} {b : Bool} {n d : Nat} (hn : q.num.natAbs = n) (hd : q.den = d) (hs : n ≠ 0 → decide (q.num < 0) = b) (hz : n = 0 → b = false) : fr q = ⟨b, cS n, cS d⟩ := by
  unfold fr
  rw [hn, hd]
  by_cases h : n = 0
  · rw [hz h]
    have h1 : q.num = 0 := Int.natAbs_eq_zero.1 (hn.trans h)
    rw [h1]; rfl
  · rw [hs h]
/-- The order. -/
def cmpQ (a b : Rat) : Int := if a < b then -1 else if a = b then 0 else 1
theorem cmpQ_eq (a b : Rat) : cmpQ a b = if a.num * b.den < b.num * a.den then -1 else if a.num * b.den = b.num * a.den then 0 else 1 := by
  unfold cmpQ
  by_cases h : a < b
  · rw [if_pos h, if_pos ((Rat.lt_iff a b).1 h)]
  · rw [if_neg h, if_neg fun e => h ((Rat.lt_iff a b).2 e)]
    by_cases h2 : a = b
    · rw [if_pos h2, if_pos (Rat.eq_iff_mul_eq_mul.1 h2)]
    · rw [if_neg h2, if_neg fun e => h2 (Rat.eq_iff_mul_eq_mul.2 e)]
end Go.Proofs.YtpmlihhofmblpaaGreatDoor

/- Products, quotients, divisors and sums of the parts of numbers. -/
namespace Go.Proofs.YtpmlihhofmblpaaGreatDoor
open Go.RowKit Hm Wm Wn

theorem cS_dec (x y : Nat) (b : Bool) (h : decide (x = y) = b) : decide (cS x = cS y) = b := by
  rw [← h]
  exact decide_eq_decide.2 ⟨cS_inj, fun h => by rw [h]⟩
theorem one_dec (x : Nat) (b : Bool) (h : decide (x = 1) = b) : decide (cS x = ⟨#[1]⟩) = b := by rw [← c1]; exact cS_dec x 1 b h
theorem nil_dec (x : Nat) (b : Bool) (h : decide (x = 0) = b) : decide (cS x = ⟨#[]⟩) = b := by rw [← c0]; exact cS_dec x 0 b h
set_option maxRecDepth 100000 in
set_option maxHeartbeats 1000000 in
theorem qprod_any (x y : Nat) (w : World) (hx : (cS x).size ≤ 40000) (hy : (cS y).size ≤ 40000) : Calls Tryz.prog 77 #[.string (cS x), .string (cS y)] w fun e w' => e = .returned (.string (cS (x * y))) ∧ Below w.heap.size w w' := by
  have HC := Lib.hid (fun W => mulC (cS x) (cS y) (cS (x * y)) W hx hy (by rw [nB_cS, nB_cS]))
  by_cases h1 : x = 1
  · subst h1
    rw [Nat.one_mul]
    have H6 := Lib.hid (fun W => run_eqS (cS 1) ⟨#[1]⟩ true (one_dec 1 true rfl) W)
    clear HC hx hy
    go_enter Tryz.func77, Tryz.ntmps77
    go_wp2_with (first | (refine wpList_dst 6 rfl ?_; refine wpList_run 6 rfl rfl _ (exec_bin .eql 9 _ (.tmp 5) (.const (.string ⟨#[1]⟩)) rfl _ _ _ rfl rfl rfl (H6.out _)) ?_))
    go_ret
    exact ⟨rfl, Below.refl _ _⟩
  · have H6 := Lib.hid (fun W => run_eqS (cS x) ⟨#[1]⟩ false (one_dec x false (decide_eq_false h1)) W)
    by_cases h2 : y = 1
    · subst h2
      rw [Nat.mul_one]
      have H9 := Lib.hid (fun W => run_eqS (cS 1) ⟨#[1]⟩ true (one_dec 1 true rfl) W)
      clear HC hx hy h1
      go_enter Tryz.func77, Tryz.ntmps77
      go_wp2_with (first | (refine wpList_dst 6 rfl ?_; refine wpList_run 6 rfl rfl _ (exec_bin .eql 9 _ (.tmp 5) (.const (.string ⟨#[1]⟩)) rfl _ _ _ rfl rfl rfl (H6.out _)) ?_) | (refine wpList_dst 9 rfl ?_; refine wpList_run 9 rfl rfl _ (exec_bin .eql 9 _ (.tmp 8) (.const (.string ⟨#[1]⟩)) rfl _ _ _ rfl rfl rfl (H9.out _)) ?_))
      go_ret
      exact ⟨rfl, Below.refl _ _⟩
    · have H9 := Lib.hid (fun W => run_eqS (cS y) ⟨#[1]⟩ false (one_dec y false (decide_eq_false h2)) W)
      clear hx hy h1 h2
      go_enter Tryz.func77, Tryz.ntmps77
      go_wp2_with (first | (refine wpList_dst 6 rfl ?_; refine wpList_run 6 rfl rfl _ (exec_bin .eql 9 _ (.tmp 5) (.const (.string ⟨#[1]⟩)) rfl _ _ _ rfl rfl rfl (H6.out _)) ?_) | (refine wpList_dst 9 rfl ?_; refine wpList_run 9 rfl rfl _ (exec_bin .eql 9 _ (.tmp 8) (.const (.string ⟨#[1]⟩)) rfl _ _ _ rfl rfl rfl (H9.out _)) ?_))
      refine (HC.out _).mono ?_
      rintro e w1 ⟨rfl, hb⟩
      go_wp2
      go_ret
      exact ⟨rfl, hb⟩
set_option maxRecDepth 100000 in
set_option maxHeartbeats 1000000 in
theorem qquot_any (x y : Nat) (w : World) (hx : (cS x).size ≤ 40000) (hy : (cS y).size ≤ 40000) (h0 : y ≠ 0) : Calls Tryz.prog 78 #[.string (cS x), .string (cS y)] w fun e w' => e = .returned (.string (cS (x / y))) ∧ Below w.heap.size w w' := by
  have HC := Lib.hid (fun W => divC (cS x) (cS y) (cS (x / y)) (cS (x % y)) W hx hy (by rw [nB_cS]; exact h0) (by rw [nB_cS, nB_cS]) (by rw [nB_cS, nB_cS]))
  by_cases h1 : y = 1
  · subst h1
    rw [Nat.div_one]
    have H9 := Lib.hid (fun W => run_eqS (cS 1) ⟨#[1]⟩ true (one_dec 1 true rfl) W)
    clear HC hx hy h0
    go_enter Tryz.func78, Tryz.ntmps78
    go_wp2_with (first | (refine wpList_dst 9 rfl ?_; refine wpList_run 9 rfl rfl _ (exec_bin .eql 9 _ (.tmp 8) (.const (.string ⟨#[1]⟩)) rfl _ _ _ rfl rfl rfl (H9.out _)) ?_))
    go_ret
    exact ⟨rfl, Below.refl _ _⟩
  · have H9 := Lib.hid (fun W => run_eqS (cS y) ⟨#[1]⟩ false (one_dec y false (decide_eq_false h1)) W)
    by_cases h2 : y = x
    · subst h2
      rw [Nat.div_self (Nat.pos_of_ne_zero h0), c1]
      have H13 := Lib.hid (fun W => run_eqS (cS y) (cS y) true (decide_eq_true rfl) W)
      clear HC hx hy h1 h0
      go_enter Tryz.func78, Tryz.ntmps78
      go_wp2_with (first | (refine wpList_dst 9 rfl ?_; refine wpList_run 9 rfl rfl _ (exec_bin .eql 9 _ (.tmp 8) (.const (.string ⟨#[1]⟩)) rfl _ _ _ rfl rfl rfl (H9.out _)) ?_) | (refine wpList_dst 13 rfl ?_; refine wpList_run 13 rfl rfl _ (exec_bin .eql 9 _ (.tmp 11) (.tmp 12) rfl _ _ _ rfl rfl rfl (H13.out _)) ?_))
      go_ret
      exact ⟨rfl, Below.refl _ _⟩
    · have H13 := Lib.hid (fun W => run_eqS (cS y) (cS x) false (cS_dec y x false (decide_eq_false h2)) W)
      clear hx hy h1 h2 h0
      go_enter Tryz.func78, Tryz.ntmps78
      go_wp2_with (first | (refine wpList_dst 9 rfl ?_; refine wpList_run 9 rfl rfl _ (exec_bin .eql 9 _ (.tmp 8) (.const (.string ⟨#[1]⟩)) rfl _ _ _ rfl rfl rfl (H9.out _)) ?_) | (refine wpList_dst 13 rfl ?_; refine wpList_run 13 rfl rfl _ (exec_bin .eql 9 _ (.tmp 11) (.tmp 12) rfl _ _ _ rfl rfl rfl (H13.out _)) ?_))
      refine (HC.out _).mono ?_
      rintro e w1 ⟨rfl, hb⟩
      go_wp2
      go_ret
      exact ⟨rfl, hb⟩
set_option maxRecDepth 100000 in
set_option maxHeartbeats 1000000 in
theorem qgcd_any (x y : Nat) (w : World) (hx : (cS x).size ≤ 40000) (hy : (cS y).size ≤ 40000) : Calls Tryz.prog 52 #[.string (cS x), .string (cS y)] w fun e w' => e = .returned (.string (cS (Nat.gcd x y))) ∧ Below w.heap.size w w' := by
  have HC := Lib.hid (fun W => gcdC (cS x) (cS y) (cS (Nat.gcd x y)) W hx hy (by rw [nB_cS, nB_cS]))
  by_cases h1 : x = 1
  · subst h1
    rw [Nat.gcd_one_left, c1]
    have H6 := Lib.hid (fun W => run_eqS ⟨#[1]⟩ ⟨#[1]⟩ true (decide_eq_true rfl) W)
    clear HC hx hy
    go_enter Tryz.func52, Tryz.ntmps52
    go_wp2_with (first | (refine wpList_dst 6 rfl ?_; refine wpList_run 6 rfl rfl _ (exec_bin .eql 9 _ (.tmp 5) (.const (.string ⟨#[1]⟩)) rfl _ _ _ rfl rfl rfl (H6.out _)) ?_))
    go_ret
    exact ⟨rfl, Below.refl _ _⟩
  · have H6 := Lib.hid (fun W => run_eqS (cS x) ⟨#[1]⟩ false (one_dec x false (decide_eq_false h1)) W)
    by_cases h2 : y = 1
    · subst h2
      rw [Nat.gcd_one_right, c1]
      have H9 := Lib.hid (fun W => run_eqS ⟨#[1]⟩ ⟨#[1]⟩ true (decide_eq_true rfl) W)
      clear HC hx hy h1
      go_enter Tryz.func52, Tryz.ntmps52
      go_wp2_with (first | (refine wpList_dst 6 rfl ?_; refine wpList_run 6 rfl rfl _ (exec_bin .eql 9 _ (.tmp 5) (.const (.string ⟨#[1]⟩)) rfl _ _ _ rfl rfl rfl (H6.out _)) ?_) | (refine wpList_dst 9 rfl ?_; refine wpList_runG 9 rfl rfl _ (exec_bin .eql 9 _ (.tmp 8) (.const (.string ⟨#[1]⟩)) rfl _ _ _ rfl rfl rfl (H9.out _)) ?_))
      go_ret
      exact ⟨rfl, Below.refl _ _⟩
    · have H9 := Lib.hid (fun W => run_eqS (cS y) ⟨#[1]⟩ false (one_dec y false (decide_eq_false h2)) W)
      by_cases h3 : x = y
      · subst h3
        rw [Nat.gcd_self]
        have H13 := Lib.hid (fun W => run_eqS (cS x) (cS x) true (decide_eq_true rfl) W)
        clear HC hx hy h1 h2
        go_enter Tryz.func52, Tryz.ntmps52
        go_wp2_with (first | (refine wpList_dst 6 rfl ?_; refine wpList_run 6 rfl rfl _ (exec_bin .eql 9 _ (.tmp 5) (.const (.string ⟨#[1]⟩)) rfl _ _ _ rfl rfl rfl (H6.out _)) ?_) | (refine wpList_dst 9 rfl ?_; refine wpList_runG 9 rfl rfl _ (exec_bin .eql 9 _ (.tmp 8) (.const (.string ⟨#[1]⟩)) rfl _ _ _ rfl rfl rfl (H9.out _)) ?_) | (refine wpList_dst 13 rfl ?_; refine wpList_run 13 rfl rfl _ (exec_bin .eql 9 _ (.tmp 11) (.tmp 12) rfl _ _ _ rfl rfl rfl (H13.out _)) ?_))
        go_ret
        exact ⟨rfl, Below.refl _ _⟩
      · have H13 := Lib.hid (fun W => run_eqS (cS x) (cS y) false (cS_dec x y false (decide_eq_false h3)) W)
        clear hx hy h1 h2 h3
        go_enter Tryz.func52, Tryz.ntmps52
        go_wp2_with (first | (refine wpList_dst 6 rfl ?_; refine wpList_run 6 rfl rfl _ (exec_bin .eql 9 _ (.tmp 5) (.const (.string ⟨#[1]⟩)) rfl _ _ _ rfl rfl rfl (H6.out _)) ?_) | (refine wpList_dst 9 rfl ?_; refine wpList_runG 9 rfl rfl _ (exec_bin .eql 9 _ (.tmp 8) (.const (.string ⟨#[1]⟩)) rfl _ _ _ rfl rfl rfl (H9.out _)) ?_) | (refine wpList_dst 13 rfl ?_; refine wpList_run 13 rfl rfl _ (exec_bin .eql 9 _ (.tmp 11) (.tmp 12) rfl _ _ _ rfl rfl rfl (H13.out _)) ?_))
        refine (HC.out _).mono ?_
        rintro e w1 ⟨rfl, hb⟩
        go_wp2
        go_ret
        exact ⟨rfl, hb⟩
/-- What the sum of two signed numbers is. -/
theorem run_eqb (b c d : Bool) (h : (b == c) = d) (W : World) : (binOp .eql 4 (.bool b) (.bool c)).run Tryz.prog W = .ok (.bool d) W := by
  subst h
  cases b <;> cases c <;> kernel_rfl
set_option maxRecDepth 100000 in
set_option maxHeartbeats 1000000 in
theorem qsum_any (b c : Bool) (x y : Nat) (w : World) (hx : (cS x).size ≤ 40000) (hy : (cS y).size ≤ 40000) : Calls Tryz.prog 99 #[.bool b, .string (cS x), .bool c, .string (cS y)] w fun e w' => (∃ d k, sg d k = sg b x + sg c y ∧ e = .returned (.tuple #[.bool d, .string (cS k)])) ∧ Below w.heap.size w w' := by
  by_cases hbc : b = c
  · subst hbc
    have HE := Lib.hid (fun W => run_eqb b b true (by cases b <;> rfl) W)
    have HC := Lib.hid (fun W => addC (cS x) (cS y) (cS (x + y)) W hx hy (by rw [nB_cS, nB_cS]))
    have HV := Lib.hid (show sg b (x + y) = sg b x + sg b y by cases b <;> simp only [sg] <;> simp <;> omega)
    clear hx hy
    go_enter Tryz.func99, Tryz.ntmps99
    go_wp2_with (first | (refine wpList_dst 16 rfl ?_; refine wpList_run 16 rfl rfl _ (exec_bin .eql 4 _ (.tmp 14) (.tmp 15) rfl _ _ _ rfl rfl rfl (HE.out _)) ?_))
    refine (HC.out _).mono ?_
    rintro e w1 ⟨rfl, hb⟩
    go_wp2
    go_ret2
    exact ⟨⟨b, x + y, HV.out, rfl⟩, hb⟩
  · have HE := Lib.hid (fun W => run_eqb b c false (by cases b <;> cases c <;> first | rfl | exact absurd rfl hbc) W)
    by_cases hle : y ≤ x
    · have HC := Lib.hid (fun W => subC (cS x) (cS y) (cS (x - y)) W hx hy (by rw [nB_cS, nB_cS]; exact hle) (by rw [nB_cS, nB_cS]))
      have HV := Lib.hid (show sg b (x - y) = sg b x + sg c y by cases b <;> cases c <;> first | exact absurd rfl hbc | (simp only [sg]; simp; omega))
      clear hx hy hle hbc
      go_enter Tryz.func99, Tryz.ntmps99
      go_wp2_with (first | (refine wpList_dst 16 rfl ?_; refine wpList_run 16 rfl rfl _ (exec_bin .eql 4 _ (.tmp 14) (.tmp 15) rfl _ _ _ rfl rfl rfl (HE.out _)) ?_))
      refine (HC.out _).mono ?_
      rintro e w1 ⟨rfl, hb⟩
      go_wp2
      go_ret2
      exact ⟨⟨b, x - y, HV.out, rfl⟩, hb⟩
    · have HC := Lib.hid (fun W => sub_low (cS x) (cS y) W (by rw [nB_cS, nB_cS]; omega))
      have HD := Lib.hid (fun W => subC (cS y) (cS x) (cS (y - x)) W hy hx (by rw [nB_cS, nB_cS]; omega) (by rw [nB_cS, nB_cS]))
      have HV := Lib.hid (show sg c (y - x) = sg b x + sg c y by cases b <;> cases c <;> first | exact absurd rfl hbc | (simp only [sg]; simp; omega))
      clear hx hy hle hbc
      go_enter Tryz.func99, Tryz.ntmps99
      go_wp2_with (first | (refine wpList_dst 16 rfl ?_; refine wpList_run 16 rfl rfl _ (exec_bin .eql 4 _ (.tmp 14) (.tmp 15) rfl _ _ _ rfl rfl rfl (HE.out _)) ?_))
      refine (HC.out _).mono ?_
      rintro e w1 ⟨rfl, hw⟩
      obtain rfl : w = w1 := hw.symm
      go_wp2_with fail
      refine (HD.out _).mono ?_
      rintro e w1 ⟨rfl, hb⟩
      go_wp2
      go_ret2
      exact ⟨⟨c, y - x, HV.out, rfl⟩, hb⟩
end Go.Proofs.YtpmlihhofmblpaaGreatDoor

/- Fractions: reading fields, and the small methods. -/
namespace Go.Proofs.YtpmlihhofmblpaaGreatDoor
open Go.RowKit Hm Wm Wn

abbrev q3 (b : Bool) (x y : ByteArray) : List Value := [.bool b, .string x, .string y]
abbrev qZ : List Value := [.bool false, .string ⟨#[]⟩, .string ⟨#[]⟩]
/-- A number, or a fraction, as a value. -/
def rv (x : Rv) : Value := .agg #[.bool x.neg, .string x.n, .string x.d]
theorem q_one (b : Bool) (x y : ByteArray) : ∀ v ∈ q3 b x y, v.oneCell' = true := by
  intro v hv
  simp only [List.mem_cons, List.not_mem_nil, or_false] at hv
  rcases hv with rfl | rfl | rfl <;> rfl
theorem qstr_flat (W : World) : (isAgg 9).run Tryz.prog W = .ok false W := by kernel_rfl
theorem qbool_flat (W : World) : (isAgg 4).run Tryz.prog W = .ok false W := by kernel_rfl
theorem exec_loadQ {oi : Oper} {a : Act} {w : World} {g o : Nat} (ty : TypeId) (hf : ∀ W, (isAgg ty).run Tryz.prog W = .ok false W) (x : Operand) (ho : oi.op = .load ty x) (v : Value) (hx : a.eval x = .pointer (some ⟨g, o, none⟩)) (h : w.cell? ⟨g, o, none⟩ = some v) : (execOp a.eval oi).run Tryz.prog w = .ok (.value v) w :=
  exec_load ty x ho _ _ hx (run_load_cell hf h)
section
variable {P : Program} {oi : Oper} {a : Act} {w : World}
theorem exec_build3 (ty : TypeId) (x y z : Operand) (ho : oi.op = .build ty #[(0, x), (1, y), (2, z)]) (p q r v : Value) (hx : a.eval x = p) (hy : a.eval y = q) (hz : a.eval z = r) (hl : (Instr.build ty #[(0, p), (1, q), (2, r)]).run P w = .ok v w) : (execOp a.eval oi).run P w = .ok (.value v) w := by
  subst hx; subst hy; subst hz
  simp [execOp, ho, hl]
theorem exec_build1 (ty : TypeId) (m : Nat) (x : Operand) (ho : oi.op = .build ty #[(m, x)]) (p v : Value) (hx : a.eval x = p) (hl : (Instr.build ty #[(m, p)]).run P w = .ok v w) : (execOp a.eval oi).run P w = .ok (.value v) w := by
  subst hx
  simp [execOp, ho, hl]
theorem exec_build0 (ty : TypeId) (ho : oi.op = .build ty #[]) (v : Value) (hl : (Instr.build ty #[]).run P w = .ok v w) : (execOp a.eval oi).run P w = .ok (.value v) w := by
  simp [execOp, ho, hl]
end
theorem qf_size : (Tryz.prog.info? 47).map (·.size) = some 3 := by kernel_rfl
theorem qf_zero : (Tryz.prog.info? 47).map (·.zero) = some (some (.agg qZ.toArray)) := by kernel_rfl
theorem qf_build (b : Bool) (x y : ByteArray) (W : World) : (Instr.build 47 #[(0, .bool b), (1, .string x), (2, .string y)]).run Tryz.prog W = .ok (.agg #[.bool b, .string x, .string y]) W := by kernel_rfl
theorem qf_f0 (g : Nat) (W : World) : (Instr.fieldAt 47 (.pointer (some ⟨g, 0, none⟩)) 0).run Tryz.prog W = .ok (.pointer (some ⟨g, 0, none⟩)) W := by kernel_rfl
theorem qf_f1 (g : Nat) (W : World) : (Instr.fieldAt 47 (.pointer (some ⟨g, 0, none⟩)) 1).run Tryz.prog W = .ok (.pointer (some ⟨g, 1, none⟩)) W := by kernel_rfl
theorem qf_f2 (g : Nat) (W : World) : (Instr.fieldAt 47 (.pointer (some ⟨g, 0, none⟩)) 2).run Tryz.prog W = .ok (.pointer (some ⟨g, 2, none⟩)) W := by kernel_rfl
theorem qr_size : (Tryz.prog.info? 26).map (·.size) = some 3 := by kernel_rfl
theorem qr_zero : (Tryz.prog.info? 26).map (·.zero) = some (some (.agg qZ.toArray)) := by kernel_rfl
theorem qr_build (b : Bool) (x y : ByteArray) (W : World) : (Instr.build 26 #[(0, .bool b), (1, .string x), (2, .string y)]).run Tryz.prog W = .ok (.agg #[.bool b, .string x, .string y]) W := by kernel_rfl
theorem qr_f0 (g : Nat) (W : World) : (Instr.fieldAt 26 (.pointer (some ⟨g, 0, none⟩)) 0).run Tryz.prog W = .ok (.pointer (some ⟨g, 0, none⟩)) W := by kernel_rfl
theorem qr_f1 (g : Nat) (W : World) : (Instr.fieldAt 26 (.pointer (some ⟨g, 0, none⟩)) 1).run Tryz.prog W = .ok (.pointer (some ⟨g, 1, none⟩)) W := by kernel_rfl
theorem qr_f2 (g : Nat) (W : World) : (Instr.fieldAt 26 (.pointer (some ⟨g, 0, none⟩)) 2).run Tryz.prog W = .ok (.pointer (some ⟨g, 2, none⟩)) W := by kernel_rfl
theorem qf_one (W : World) : (Instr.build 47 #[(2, .string ⟨#[1]⟩)]).run Tryz.prog W = .ok (.agg #[.bool false, .string ⟨#[]⟩, .string ⟨#[1]⟩]) W := by kernel_rfl
theorem qr_nil (W : World) : (Instr.build 26 #[]).run Tryz.prog W = .ok (.agg #[.bool false, .string ⟨#[]⟩, .string ⟨#[]⟩]) W := by kernel_rfl
theorem qsize_alloc (w : World) (o : Obj) : (w.alloc o).heap.size = w.heap.size + 1 := by simp
/-- A parameter in its variable, and the result's. -/
theorem two_vars (w : World) (t u : TypeId) (xs zs : List Value) : Blk ((w.alloc (.cells xs.toArray t)).alloc (.cells zs.toArray u)) w.heap.size t xs ∧ Blk ((w.alloc (.cells xs.toArray t)).alloc (.cells zs.toArray u)) (w.heap.size + 1) u zs ∧ Below w.heap.size w ((w.alloc (.cells xs.toArray t)).alloc (.cells zs.toArray u)) := by
  refine ⟨(Blk.new w t xs).alloc _, ?_, ((Below.refl w.heap.size w).alloc (Nat.le_refl _) _).alloc (by simp) _⟩
  have := Blk.new (w.alloc (.cells xs.toArray t)) u zs
  rwa [qsize_alloc] at this
set_option maxRecDepth 100000 in
set_option maxHeartbeats 1000000 in
theorem qinv_raw (b : Bool) (x y : ByteArray) (w : World) : Calls Tryz.prog 46 #[.agg #[.bool b, .string x, .string y]] w fun e w' => e = .returned (.agg #[.bool b, .string y, .string x]) ∧ Below w.heap.size w w' := by
  have HK := Lib.hid (two_vars w 47 47 (q3 b x y) (q3 b y x))
  go_enter Tryz.func46, Tryz.ntmps46
  go_wp2
  exact bodyPost_ret (results_blk rfl _ _ (w.heap.size + 1) _ (q3 b y x) _ rfl HK.out.2.1 Tryz.underlying47 rfl qf_size) rfl ⟨rfl, HK.out.2.2⟩
set_option maxRecDepth 100000 in
set_option maxHeartbeats 1000000 in
theorem qrat_zero (b : Bool) (x y : ByteArray) (w : World) (h : x = ⟨#[]⟩) : Calls Tryz.prog 37 #[.agg #[.bool b, .string x, .string y]] w fun e w' => e = .returned (.agg #[.bool false, .string ⟨#[]⟩, .string ⟨#[]⟩]) ∧ Below w.heap.size w w' := by
  have HK := Lib.hid (two_vars w 47 26 (q3 b x y) qZ)
  have H5 := Lib.hid (fun W => run_eqS x ⟨#[]⟩ true (decide_eq_true h) W)
  clear h
  go_enter Tryz.func37, Tryz.ntmps37
  go_wp2_with (first | (refine wpList_dst 5 rfl ?_; refine wpList_run 5 rfl rfl _ (exec_bin .eql 9 _ (.tmp 4) (.const (.string ⟨#[]⟩)) rfl _ _ _ rfl rfl rfl (H5.out _)) ?_))
  exact bodyPost_ret (results_blk rfl _ _ (w.heap.size + 1) _ qZ _ rfl HK.out.2.1 Tryz.underlying26 rfl qr_size) rfl ⟨rfl, HK.out.2.2⟩
set_option maxRecDepth 100000 in
set_option maxHeartbeats 1000000 in
theorem qrat_pos (b : Bool) (x y : ByteArray) (w : World) (h : x ≠ ⟨#[]⟩) : Calls Tryz.prog 37 #[.agg #[.bool b, .string x, .string y]] w fun e w' => e = .returned (.agg #[.bool b, .string x, .string y]) ∧ Below w.heap.size w w' := by
  have HK := Lib.hid (two_vars w 47 26 (q3 b x y) (q3 b x y))
  have H5 := Lib.hid (fun W => run_eqS x ⟨#[]⟩ false (decide_eq_false h) W)
  clear h
  go_enter Tryz.func37, Tryz.ntmps37
  go_wp2_with (first | (refine wpList_dst 5 rfl ?_; refine wpList_run 5 rfl rfl _ (exec_bin .eql 9 _ (.tmp 4) (.const (.string ⟨#[]⟩)) rfl _ _ _ rfl rfl rfl (H5.out _)) ?_))
  exact bodyPost_ret (results_blk rfl _ _ (w.heap.size + 1) _ (q3 b x y) _ rfl HK.out.2.1 Tryz.underlying26 rfl qr_size) rfl ⟨rfl, HK.out.2.2⟩
theorem run_neqQ (x y : ByteArray) (b : Bool) (h : decide (x ≠ y) = b) (w : World) : (binOp .neq 9 (.string x) (.string y)).run Tryz.prog w = .ok (.bool b) w := by
  subst h
  have h1 := run_neq_str w x.data.toList y.data.toList
  rw [show sb x.data.toList = x by cases x; simp [sb], show sb y.data.toList = y by cases y; simp [sb]] at h1
  rw [h1]
  congr 2
  refine decide_eq_decide.2 ⟨fun h e => h (by rw [e]), fun h e => h ?_⟩
  cases x
  cases y
  simpa using e
set_option maxRecDepth 100000 in
set_option maxHeartbeats 1000000 in
theorem qneg_neg (x y : ByteArray) (w : World) : Calls Tryz.prog 48 #[.agg #[.bool true, .string x, .string y]] w fun e w' => e = .returned (.agg #[.bool false, .string x, .string y]) ∧ Below w.heap.size w w' := by
  have HK := Lib.hid (two_vars w 47 47 (q3 true x y) (q3 false x y))
  go_enter Tryz.func48, Tryz.ntmps48
  go_wp2
  exact bodyPost_ret (results_blk rfl _ _ (w.heap.size + 1) _ (q3 false x y) _ rfl HK.out.2.1 Tryz.underlying47 rfl qf_size) rfl ⟨rfl, HK.out.2.2⟩
set_option maxRecDepth 100000 in
set_option maxHeartbeats 1000000 in
theorem qneg_zero (x y : ByteArray) (w : World) (h : x = ⟨#[]⟩) : Calls Tryz.prog 48 #[.agg #[.bool false, .string x, .string y]] w fun e w' => e = .returned (.agg #[.bool false, .string x, .string y]) ∧ Below w.heap.size w w' := by
  have HK := Lib.hid (two_vars w 47 47 (q3 false x y) (q3 false x y))
  have H9 := Lib.hid (fun W => run_neqQ x ⟨#[]⟩ false (decide_eq_false <| not_not_intro h) W)
  clear h
  go_enter Tryz.func48, Tryz.ntmps48
  go_wp2_with (first | (refine wpList_dst 9 rfl ?_; refine wpList_runG 9 rfl rfl _ (exec_bin .neq 9 _ (.tmp 8) (.const (.string ⟨#[]⟩)) rfl _ _ _ rfl rfl rfl (H9.out _)) ?_))
  exact bodyPost_ret (results_blk rfl _ _ (w.heap.size + 1) _ (q3 false x y) _ rfl HK.out.2.1 Tryz.underlying47 rfl qf_size) rfl ⟨rfl, HK.out.2.2⟩
set_option maxRecDepth 100000 in
set_option maxHeartbeats 1000000 in
theorem qneg_pos (x y : ByteArray) (w : World) (h : x ≠ ⟨#[]⟩) : Calls Tryz.prog 48 #[.agg #[.bool false, .string x, .string y]] w fun e w' => e = .returned (.agg #[.bool true, .string x, .string y]) ∧ Below w.heap.size w w' := by
  have HK := Lib.hid (two_vars w 47 47 (q3 false x y) (q3 true x y))
  have H9 := Lib.hid (fun W => run_neqQ x ⟨#[]⟩ true (decide_eq_true h) W)
  clear h
  go_enter Tryz.func48, Tryz.ntmps48
  go_wp2_with (first | (refine wpList_dst 9 rfl ?_; refine wpList_runG 9 rfl rfl _ (exec_bin .neq 9 _ (.tmp 8) (.const (.string ⟨#[]⟩)) rfl _ _ _ rfl rfl rfl (H9.out _)) ?_))
  exact bodyPost_ret (results_blk rfl _ _ (w.heap.size + 1) _ (q3 true x y) _ rfl HK.out.2.1 Tryz.underlying47 rfl qf_size) rfl ⟨rfl, HK.out.2.2⟩
end Go.Proofs.YtpmlihhofmblpaaGreatDoor

/- Fractions: the product. -/
namespace Go.Proofs.YtpmlihhofmblpaaGreatDoor
open Go.RowKit Hm Wm Wn

theorem three_vars (w : World) (t u v : TypeId) (xs ys zs : List Value) : ∃ W, W = (((w.alloc (.cells xs.toArray t)).alloc (.cells ys.toArray u)).alloc (.cells zs.toArray v)) ∧ Blk W w.heap.size t xs ∧ Blk W (w.heap.size + 1) u ys ∧ Blk W (w.heap.size + 1 + 1) v zs ∧ Below w.heap.size w W := by
  refine ⟨_, rfl, ((Blk.new w t xs).alloc _).alloc _, ?_, ?_, (((Below.refl w.heap.size w).alloc (Nat.le_refl _) _).alloc (by simp) _).alloc (by simp; omega) _⟩
  · have := (Blk.new (w.alloc (.cells xs.toArray t)) u ys).alloc (.cells zs.toArray v)
    rwa [qsize_alloc] at this
  · have := Blk.new ((w.alloc (.cells xs.toArray t)).alloc (.cells ys.toArray u)) v zs
    rwa [qsize_alloc, qsize_alloc] at this
theorem run_neqb (b c d : Bool) (h : (b != c) = d) (W : World) : (binOp .neq 4 (.bool b) (.bool c)).run Tryz.prog W = .ok (.bool d) W := by
  subst h
  cases b <;> cases c <;> kernel_rfl
set_option maxRecDepth 100000 in
set_option maxHeartbeats 2000000 in
theorem times_raw (b c d : Bool) (x y z v f s x1 z1 y1 v1 N D : ByteArray) (w : World) (hx : x ≠ ⟨#[]⟩) (hz : z ≠ ⟨#[]⟩) (hd : (b != c) = d) (h22 : (∀ W, Calls Tryz.prog 52 #[.string x, .string v] W fun e w' => e = .returned (.string f) ∧ Below W.heap.size W w')) (h27 : (∀ W, Calls Tryz.prog 52 #[.string z, .string y] W fun e w' => e = .returned (.string s) ∧ Below W.heap.size W w')) (h31 : (∀ W, Calls Tryz.prog 78 #[.string x, .string f] W fun e w' => e = .returned (.string x1) ∧ Below W.heap.size W w')) (h35 : (∀ W, Calls Tryz.prog 78 #[.string z, .string s] W fun e w' => e = .returned (.string z1) ∧ Below W.heap.size W w')) (h36 : (∀ W, Calls Tryz.prog 77 #[.string x1, .string z1] W fun e w' => e = .returned (.string N) ∧ Below W.heap.size W w')) (h40 : (∀ W, Calls Tryz.prog 78 #[.string y, .string s] W fun e w' => e = .returned (.string y1) ∧ Below W.heap.size W w')) (h44 : (∀ W, Calls Tryz.prog 78 #[.string v, .string f] W fun e w' => e = .returned (.string v1) ∧ Below W.heap.size W w')) (h45 : (∀ W, Calls Tryz.prog 77 #[.string y1, .string v1] W fun e w' => e = .returned (.string D) ∧ Below W.heap.size W w')) :
    Calls Tryz.prog 45 #[.agg #[.bool b, .string x, .string y], .agg #[.bool c, .string z, .string v]] w fun e w' => e = .returned (.agg #[.bool d, .string N, .string D]) ∧ Below w.heap.size w w' := by
  have HK := three_vars w 47 47 47 (q3 b x y) (q3 c z v) qZ
  obtain ⟨W0, hW0, kx, ky, kz, kw⟩ := HK
  have HX := Lib.hid kx
  have HY := Lib.hid ky
  have HZ := Lib.hid kz
  have HXe := Lib.hid kx
  have HYe := Lib.hid ky
  rw [hW0] at HXe HYe
  have HW := Lib.hid kw
  have H11 := Lib.hid (fun W => run_eqS x ⟨#[]⟩ false (decide_eq_false hx) W)
  have H15 := Lib.hid (fun W => run_eqS z ⟨#[]⟩ false (decide_eq_false hz) W)
  have H50 := Lib.hid (fun W => run_neqb b c d hd W)
  have F22 := Lib.hid h22
  have F27 := Lib.hid h27
  have F31 := Lib.hid h31
  have F35 := Lib.hid h35
  have F36 := Lib.hid h36
  have F40 := Lib.hid h40
  have F44 := Lib.hid h44
  have F45 := Lib.hid h45
  clear kx ky kz kw hx hz hd h22 h27 h31 h35 h36 h40 h44 h45
  go_enter Tryz.func45, Tryz.ntmps45
  go_wp2_with (first | (refine wpList_dst 9 rfl ?_; refine wpList_run 9 rfl rfl _ (exec_fieldAddr 47 (.tmp 2) 1 rfl _ _ rfl (qf_f1 _ _)) ?_) | (refine wpList_dst 10 rfl ?_; refine wpList_run 10 rfl rfl _ (exec_loadQ 9 qstr_flat (.tmp 9) rfl (.string x) rfl (HXe.out.cell 1)) ?_) | (refine wpList_dst 11 rfl ?_; refine wpList_run 11 rfl rfl _ (exec_bin .eql 9 _ (.tmp 10) (.const (.string ⟨#[]⟩)) rfl _ _ _ rfl rfl rfl (H11.out _)) ?_) | (refine wpList_dst 13 rfl ?_; refine wpList_runG 13 rfl rfl _ (exec_fieldAddr 47 (.tmp 3) 1 rfl _ _ rfl (qf_f1 _ _)) ?_) | (refine wpList_dst 14 rfl ?_; refine wpList_runG 14 rfl rfl _ (exec_loadQ 9 qstr_flat (.tmp 13) rfl (.string z) rfl (HYe.out.cell 1)) ?_) | (refine wpList_dst 15 rfl ?_; refine wpList_runG 15 rfl rfl _ (exec_bin .eql 9 _ (.tmp 14) (.const (.string ⟨#[]⟩)) rfl _ _ _ rfl rfl rfl (H15.out _)) ?_))
  rw [← hW0]
  clear HXe HYe hW0
  refine late_begin (S := fun _ W => Blk W w.heap.size 47 (q3 b x y) ∧ Blk W (w.heap.size + 1) 47 (q3 c z v)) (by kernel_rfl) ?_
  have hX0 := HX.out.drew
  have hY0 := HY.out.drew
  have hZ0 := HZ.out.drew
  have hW0 := HW.out.drew
  generalize W0.drew = u0 at hX0 hY0 hZ0 hW0 ⊢
  clear HX HY HZ HW
  refine late_take [] (i := 0) (some 18) rfl rfl rfl (by kernel_rfl) (by kernel_rfl) (by kernel_rfl) (by kernel_rfl) (by kernel_rfl) (fun Ls W h => h) (.pointer (some ⟨w.heap.size, 1, none⟩)) (fun _ _ _ h => h) (fun Ls W hl0 hW => exec_fieldAddr 47 (.tmp 2) 1 rfl _ _ rfl (qf_f1 _ _)) ⟨hX0, hY0⟩ ⟨hX0, hY0⟩ ?_
  go_frame
  refine late_take [] (i := 1) (some 19) rfl rfl rfl (by kernel_rfl) (by kernel_rfl) (by kernel_rfl) (by kernel_rfl) (by kernel_rfl) (fun Ls W h => h) (.string x) (fun _ _ _ h => h) (fun Ls W hl0 hW => exec_loadQ 9 qstr_flat (.tmp 18) rfl (.string x) rfl (hW.1.cell 1)) ⟨hX0, hY0⟩ ⟨hX0, hY0⟩ ?_
  go_frame
  refine late_take [] (i := 2) (some 20) rfl rfl rfl (by kernel_rfl) (by kernel_rfl) (by kernel_rfl) (by kernel_rfl) (by kernel_rfl) (fun Ls W h => h) (.pointer (some ⟨(w.heap.size + 1), 2, none⟩)) (fun _ _ _ h => h) (fun Ls W hl0 hW => exec_fieldAddr 47 (.tmp 3) 2 rfl _ _ rfl (qf_f2 _ _)) ⟨hX0, hY0⟩ ⟨hX0, hY0⟩ ?_
  go_frame
  refine late_take [] (i := 3) (some 21) rfl rfl rfl (by kernel_rfl) (by kernel_rfl) (by kernel_rfl) (by kernel_rfl) (by kernel_rfl) (fun Ls W h => h) (.string v) (fun _ _ _ h => h) (fun Ls W hl0 hW => exec_loadQ 9 qstr_flat (.tmp 20) rfl (.string v) rfl (hW.2.cell 2)) ⟨hX0, hY0⟩ ⟨hX0, hY0⟩ ?_
  go_frame
  refine late_take [] (i := 5) (some 23) rfl rfl rfl (by kernel_rfl) (by kernel_rfl) (by kernel_rfl) (by kernel_rfl) (by kernel_rfl) (fun Ls W h => h) (.pointer (some ⟨(w.heap.size + 1), 1, none⟩)) (fun _ _ _ h => h) (fun Ls W hl0 hW => exec_fieldAddr 47 (.tmp 3) 1 rfl _ _ rfl (qf_f1 _ _)) ⟨hX0, hY0⟩ ⟨hX0, hY0⟩ ?_
  go_frame
  refine late_take [] (i := 6) (some 24) rfl rfl rfl (by kernel_rfl) (by kernel_rfl) (by kernel_rfl) (by kernel_rfl) (by kernel_rfl) (fun Ls W h => h) (.string z) (fun _ _ _ h => h) (fun Ls W hl0 hW => exec_loadQ 9 qstr_flat (.tmp 23) rfl (.string z) rfl (hW.2.cell 1)) ⟨hX0, hY0⟩ ⟨hX0, hY0⟩ ?_
  go_frame
  refine late_take [] (i := 7) (some 25) rfl rfl rfl (by kernel_rfl) (by kernel_rfl) (by kernel_rfl) (by kernel_rfl) (by kernel_rfl) (fun Ls W h => h) (.pointer (some ⟨w.heap.size, 2, none⟩)) (fun _ _ _ h => h) (fun Ls W hl0 hW => exec_fieldAddr 47 (.tmp 2) 2 rfl _ _ rfl (qf_f2 _ _)) ⟨hX0, hY0⟩ ⟨hX0, hY0⟩ ?_
  go_frame
  refine late_take [] (i := 8) (some 26) rfl rfl rfl (by kernel_rfl) (by kernel_rfl) (by kernel_rfl) (by kernel_rfl) (by kernel_rfl) (fun Ls W h => h) (.string y) (fun _ _ _ h => h) (fun Ls W hl0 hW => exec_loadQ 9 qstr_flat (.tmp 25) rfl (.string y) rfl (hW.1.cell 2)) ⟨hX0, hY0⟩ ⟨hX0, hY0⟩ ?_
  go_frame
  refine late_one (i := 4) (by kernel_rfl) (op_call (some 22) rfl rfl rfl rfl Tryz.func52 (by kernel_rfl) (by kernel_rfl) #[.string x, .string v] rfl (F22.out u0) ?_)
  rintro e u1 ⟨rfl, hb1⟩
  have hX1 := hX0.next hb1
  have hY1 := hY0.next hb1
  have hZ1 := hZ0.next hb1
  have hW1 := hW0.trans (hb1.mono hW0.size)
  refine ⟨_, rfl, ⟨hX1, hY1⟩, ?_⟩
  go_frame
  clear hX0 hY0 hZ0 hW0 hb1
  refine late_one (i := 9) (by kernel_rfl) (op_call (some 27) rfl rfl rfl rfl Tryz.func52 (by kernel_rfl) (by kernel_rfl) #[.string z, .string y] rfl (F27.out u1) ?_)
  rintro e u2 ⟨rfl, hb2⟩
  have hX2 := hX1.next hb2
  have hY2 := hY1.next hb2
  have hZ2 := hZ1.next hb2
  have hW2 := hW1.trans (hb2.mono hW1.size)
  refine ⟨_, rfl, ⟨hX2, hY2⟩, ?_⟩
  go_frame
  clear hX1 hY1 hZ1 hW1 hb2
  refine late_one (i := 10) (by kernel_rfl) (op_value (some 5) rfl rfl rfl (.string f) (exec_assign (.tmp 22) rfl _ rfl) ⟨⟨hX2, hY2⟩, ?_⟩)
  go_frame
  refine late_one (i := 11) (by kernel_rfl) (op_value (some 6) rfl rfl rfl (.string s) (exec_assign (.tmp 27) rfl _ rfl) ⟨⟨hX2, hY2⟩, late_done (by kernel_rfl) ?_ _⟩)
  go_frame
  have HX := Lib.hid hX2
  have HY := Lib.hid hY2
  have HZ := Lib.hid hZ2
  have HW := Lib.hid hW2
  clear hX2 hY2 hZ2 hW2
  go_wp2_with fail
  refine late_begin (S := fun _ W => Blk W w.heap.size 47 (q3 b x y) ∧ Blk W (w.heap.size + 1) 47 (q3 c z v)) (by kernel_rfl) ?_
  have hX0 := HX.out.drew
  have hY0 := HY.out.drew
  have hZ0 := HZ.out.drew
  have hW0 := HW.out.drew
  generalize u2.drew = u0 at hX0 hY0 hZ0 hW0 ⊢
  clear HX HY HZ HW
  refine late_take [] (i := 0) (some 28) rfl rfl rfl (by kernel_rfl) (by kernel_rfl) (by kernel_rfl) (by kernel_rfl) (by kernel_rfl) (fun Ls W h => h) (.pointer (some ⟨w.heap.size, 1, none⟩)) (fun _ _ _ h => h) (fun Ls W hl0 hW => exec_fieldAddr 47 (.tmp 2) 1 rfl _ _ rfl (qf_f1 _ _)) ⟨hX0, hY0⟩ ⟨hX0, hY0⟩ ?_
  go_frame
  refine late_take [] (i := 1) (some 29) rfl rfl rfl (by kernel_rfl) (by kernel_rfl) (by kernel_rfl) (by kernel_rfl) (by kernel_rfl) (fun Ls W h => h) (.string x) (fun _ _ _ h => h) (fun Ls W hl0 hW => exec_loadQ 9 qstr_flat (.tmp 28) rfl (.string x) rfl (hW.1.cell 1)) ⟨hX0, hY0⟩ ⟨hX0, hY0⟩ ?_
  go_frame
  refine late_take [] (i := 2) (some 30) rfl rfl rfl (by kernel_rfl) (by kernel_rfl) (by kernel_rfl) (by kernel_rfl) (by kernel_rfl) (fun Ls W h => h) (.string f) (fun _ _ _ h => h) (fun Ls W hl0 hW => exec_move (.tmp 5) rfl _ rfl) ⟨hX0, hY0⟩ ⟨hX0, hY0⟩ ?_
  go_frame
  refine late_take [] (i := 4) (some 32) rfl rfl rfl (by kernel_rfl) (by kernel_rfl) (by kernel_rfl) (by kernel_rfl) (by kernel_rfl) (fun Ls W h => h) (.pointer (some ⟨(w.heap.size + 1), 1, none⟩)) (fun _ _ _ h => h) (fun Ls W hl0 hW => exec_fieldAddr 47 (.tmp 3) 1 rfl _ _ rfl (qf_f1 _ _)) ⟨hX0, hY0⟩ ⟨hX0, hY0⟩ ?_
  go_frame
  refine late_take [] (i := 5) (some 33) rfl rfl rfl (by kernel_rfl) (by kernel_rfl) (by kernel_rfl) (by kernel_rfl) (by kernel_rfl) (fun Ls W h => h) (.string z) (fun _ _ _ h => h) (fun Ls W hl0 hW => exec_loadQ 9 qstr_flat (.tmp 32) rfl (.string z) rfl (hW.2.cell 1)) ⟨hX0, hY0⟩ ⟨hX0, hY0⟩ ?_
  go_frame
  refine late_take [] (i := 6) (some 34) rfl rfl rfl (by kernel_rfl) (by kernel_rfl) (by kernel_rfl) (by kernel_rfl) (by kernel_rfl) (fun Ls W h => h) (.string s) (fun _ _ _ h => h) (fun Ls W hl0 hW => exec_move (.tmp 6) rfl _ rfl) ⟨hX0, hY0⟩ ⟨hX0, hY0⟩ ?_
  go_frame
  refine late_one (i := 3) (by kernel_rfl) (op_call (some 31) rfl rfl rfl rfl Tryz.func78 (by kernel_rfl) (by kernel_rfl) #[.string x, .string f] rfl (F31.out u0) ?_)
  rintro e u1 ⟨rfl, hb1⟩
  have hX1 := hX0.next hb1
  have hY1 := hY0.next hb1
  have hZ1 := hZ0.next hb1
  have hW1 := hW0.trans (hb1.mono hW0.size)
  refine ⟨_, rfl, ⟨hX1, hY1⟩, ?_⟩
  go_frame
  clear hX0 hY0 hZ0 hW0 hb1
  refine late_one (i := 7) (by kernel_rfl) (op_call (some 35) rfl rfl rfl rfl Tryz.func78 (by kernel_rfl) (by kernel_rfl) #[.string z, .string s] rfl (F35.out u1) ?_)
  rintro e u2 ⟨rfl, hb2⟩
  have hX2 := hX1.next hb2
  have hY2 := hY1.next hb2
  have hZ2 := hZ1.next hb2
  have hW2 := hW1.trans (hb2.mono hW1.size)
  refine ⟨_, rfl, ⟨hX2, hY2⟩, ?_⟩
  go_frame
  clear hX1 hY1 hZ1 hW1 hb2
  refine late_one (i := 8) (by kernel_rfl) (op_call (some 36) rfl rfl rfl rfl Tryz.func77 (by kernel_rfl) (by kernel_rfl) #[.string x1, .string z1] rfl (F36.out u2) ?_)
  rintro e u3 ⟨rfl, hb3⟩
  have hX3 := hX2.next hb3
  have hY3 := hY2.next hb3
  have hZ3 := hZ2.next hb3
  have hW3 := hW2.trans (hb3.mono hW2.size)
  refine ⟨_, rfl, ⟨hX3, hY3⟩, ?_⟩
  go_frame
  clear hX2 hY2 hZ2 hW2 hb3
  refine late_one (i := 9) (by kernel_rfl) (op_value (some 7) rfl rfl rfl (.string N) (exec_assign (.tmp 36) rfl _ rfl) ⟨⟨hX3, hY3⟩, late_done (by kernel_rfl) ?_ _⟩)
  go_frame
  have HX := Lib.hid hX3
  have HY := Lib.hid hY3
  have HZ := Lib.hid hZ3
  have HW := Lib.hid hW3
  clear hX3 hY3 hZ3 hW3
  go_wp2_with fail
  refine late_begin (S := fun _ W => Blk W w.heap.size 47 (q3 b x y) ∧ Blk W (w.heap.size + 1) 47 (q3 c z v)) (by kernel_rfl) ?_
  have hX0 := HX.out.drew
  have hY0 := HY.out.drew
  have hZ0 := HZ.out.drew
  have hW0 := HW.out.drew
  generalize u3.drew = u0 at hX0 hY0 hZ0 hW0 ⊢
  clear HX HY HZ HW
  refine late_take [] (i := 0) (some 37) rfl rfl rfl (by kernel_rfl) (by kernel_rfl) (by kernel_rfl) (by kernel_rfl) (by kernel_rfl) (fun Ls W h => h) (.pointer (some ⟨w.heap.size, 2, none⟩)) (fun _ _ _ h => h) (fun Ls W hl0 hW => exec_fieldAddr 47 (.tmp 2) 2 rfl _ _ rfl (qf_f2 _ _)) ⟨hX0, hY0⟩ ⟨hX0, hY0⟩ ?_
  go_frame
  refine late_take [] (i := 1) (some 38) rfl rfl rfl (by kernel_rfl) (by kernel_rfl) (by kernel_rfl) (by kernel_rfl) (by kernel_rfl) (fun Ls W h => h) (.string y) (fun _ _ _ h => h) (fun Ls W hl0 hW => exec_loadQ 9 qstr_flat (.tmp 37) rfl (.string y) rfl (hW.1.cell 2)) ⟨hX0, hY0⟩ ⟨hX0, hY0⟩ ?_
  go_frame
  refine late_take [] (i := 2) (some 39) rfl rfl rfl (by kernel_rfl) (by kernel_rfl) (by kernel_rfl) (by kernel_rfl) (by kernel_rfl) (fun Ls W h => h) (.string s) (fun _ _ _ h => h) (fun Ls W hl0 hW => exec_move (.tmp 6) rfl _ rfl) ⟨hX0, hY0⟩ ⟨hX0, hY0⟩ ?_
  go_frame
  refine late_take [] (i := 4) (some 41) rfl rfl rfl (by kernel_rfl) (by kernel_rfl) (by kernel_rfl) (by kernel_rfl) (by kernel_rfl) (fun Ls W h => h) (.pointer (some ⟨(w.heap.size + 1), 2, none⟩)) (fun _ _ _ h => h) (fun Ls W hl0 hW => exec_fieldAddr 47 (.tmp 3) 2 rfl _ _ rfl (qf_f2 _ _)) ⟨hX0, hY0⟩ ⟨hX0, hY0⟩ ?_
  go_frame
  refine late_take [] (i := 5) (some 42) rfl rfl rfl (by kernel_rfl) (by kernel_rfl) (by kernel_rfl) (by kernel_rfl) (by kernel_rfl) (fun Ls W h => h) (.string v) (fun _ _ _ h => h) (fun Ls W hl0 hW => exec_loadQ 9 qstr_flat (.tmp 41) rfl (.string v) rfl (hW.2.cell 2)) ⟨hX0, hY0⟩ ⟨hX0, hY0⟩ ?_
  go_frame
  refine late_take [] (i := 6) (some 43) rfl rfl rfl (by kernel_rfl) (by kernel_rfl) (by kernel_rfl) (by kernel_rfl) (by kernel_rfl) (fun Ls W h => h) (.string f) (fun _ _ _ h => h) (fun Ls W hl0 hW => exec_move (.tmp 5) rfl _ rfl) ⟨hX0, hY0⟩ ⟨hX0, hY0⟩ ?_
  go_frame
  refine late_one (i := 3) (by kernel_rfl) (op_call (some 40) rfl rfl rfl rfl Tryz.func78 (by kernel_rfl) (by kernel_rfl) #[.string y, .string s] rfl (F40.out u0) ?_)
  rintro e u1 ⟨rfl, hb1⟩
  have hX1 := hX0.next hb1
  have hY1 := hY0.next hb1
  have hZ1 := hZ0.next hb1
  have hW1 := hW0.trans (hb1.mono hW0.size)
  refine ⟨_, rfl, ⟨hX1, hY1⟩, ?_⟩
  go_frame
  clear hX0 hY0 hZ0 hW0 hb1
  refine late_one (i := 7) (by kernel_rfl) (op_call (some 44) rfl rfl rfl rfl Tryz.func78 (by kernel_rfl) (by kernel_rfl) #[.string v, .string f] rfl (F44.out u1) ?_)
  rintro e u2 ⟨rfl, hb2⟩
  have hX2 := hX1.next hb2
  have hY2 := hY1.next hb2
  have hZ2 := hZ1.next hb2
  have hW2 := hW1.trans (hb2.mono hW1.size)
  refine ⟨_, rfl, ⟨hX2, hY2⟩, ?_⟩
  go_frame
  clear hX1 hY1 hZ1 hW1 hb2
  refine late_one (i := 8) (by kernel_rfl) (op_call (some 45) rfl rfl rfl rfl Tryz.func77 (by kernel_rfl) (by kernel_rfl) #[.string y1, .string v1] rfl (F45.out u2) ?_)
  rintro e u3 ⟨rfl, hb3⟩
  have hX3 := hX2.next hb3
  have hY3 := hY2.next hb3
  have hZ3 := hZ2.next hb3
  have hW3 := hW2.trans (hb3.mono hW2.size)
  refine ⟨_, rfl, ⟨hX3, hY3⟩, ?_⟩
  go_frame
  clear hX2 hY2 hZ2 hW2 hb3
  refine late_one (i := 9) (by kernel_rfl) (op_value (some 8) rfl rfl rfl (.string D) (exec_assign (.tmp 45) rfl _ rfl) ⟨⟨hX3, hY3⟩, late_done (by kernel_rfl) ?_ _⟩)
  go_frame
  have HX := Lib.hid hX3
  have HY := Lib.hid hY3
  have HZ := Lib.hid hZ3
  have HW := Lib.hid hW3
  clear hX3 hY3 hZ3 hW3
  go_wp2_with (first | (refine wpList_dst 46 rfl ?_; refine wpList_run 46 rfl rfl _ (exec_fieldAddr 47 (.tmp 2) 0 rfl _ _ rfl (qf_f0 _ _)) ?_) | (refine wpList_dst 47 rfl ?_; refine wpList_run 47 rfl rfl _ (exec_loadQ 4 qbool_flat (.tmp 46) rfl (.bool b) rfl (HX.out.cell 0)) ?_) | (refine wpList_dst 48 rfl ?_; refine wpList_run 48 rfl rfl _ (exec_fieldAddr 47 (.tmp 3) 0 rfl _ _ rfl (qf_f0 _ _)) ?_) | (refine wpList_dst 49 rfl ?_; refine wpList_run 49 rfl rfl _ (exec_loadQ 4 qbool_flat (.tmp 48) rfl (.bool c) rfl (HY.out.cell 0)) ?_) | (refine wpList_dst 50 rfl ?_; refine wpList_run 50 rfl rfl _ (exec_bin .neq 4 _ (.tmp 47) (.tmp 49) rfl _ _ _ rfl rfl rfl (H50.out _)) ?_) | (refine wpList_dst 53 rfl ?_; refine wpList_run 53 rfl rfl _ (exec_build3 47 (.tmp 50) (.tmp 51) (.tmp 52) rfl _ _ _ _ rfl rfl rfl (qf_build _ _ _ _)) ?_) | (refine wpList_store_all rfl 47 (.tmp 4) (.tmp 53) rfl (w.heap.size + 1 + 1) _ qZ (q3 d N D) rfl rfl HZ.out rfl qf_size (q_one _ _ _) ?_; intro w9 HK9 ho9; have HO9 := Lib.hid ho9; clear ho9))
  exact bodyPost_ret (results_blk rfl _ _ (w.heap.size + 1 + 1) _ (q3 d N D) _ rfl HK9.out Tryz.underlying47 rfl qf_size) rfl ⟨rfl, HW.out.trans (HO9.out.below (by omega))⟩
end Go.Proofs.YtpmlihhofmblpaaGreatDoor

/- Fractions: the sum; a product with 0. -/
namespace Go.Proofs.YtpmlihhofmblpaaGreatDoor
open Go.RowKit Hm Wm Wn

theorem exec_extractQ {P : Program} {oi : Oper} {a : Act} {w : World} (x : Operand) (j : Nat) (ho : oi.op = .extract x j) (vs : Array Value) (v : Value) (hx : a.eval x = .tuple vs) (hv : vs[j]? = some v) : (execOp a.eval oi).run P w = .ok (.value v) w := by
  simp [execOp, ho, hx, Instr.extract, hv]
set_option maxRecDepth 100000 in
set_option maxHeartbeats 2000000 in
theorem plus_zero (b c : Bool) (x y z v g m o p q : ByteArray) (w : World) (h15 : (∀ W, Calls Tryz.prog 52 #[.string y, .string v] W fun e w' => e = .returned (.string g) ∧ Below W.heap.size W w')) (h19 : (∀ W, Calls Tryz.prog 78 #[.string y, .string g] W fun e w' => e = .returned (.string m) ∧ Below W.heap.size W w')) (h23 : (∀ W, Calls Tryz.prog 78 #[.string v, .string g] W fun e w' => e = .returned (.string o) ∧ Below W.heap.size W w')) (h30 : (∀ W, Calls Tryz.prog 77 #[.string x, .string o] W fun e w' => e = .returned (.string p) ∧ Below W.heap.size W w')) (h36 : (∀ W, Calls Tryz.prog 77 #[.string z, .string m] W fun e w' => e = .returned (.string q) ∧ Below W.heap.size W w')) (h37 : (∀ W, Calls Tryz.prog 99 #[.bool b, .string p, .bool c, .string q] W fun e w' => (∃ d, e = .returned (.tuple #[.bool d, .string ⟨#[]⟩])) ∧ Below W.heap.size W w')) :
    Calls Tryz.prog 73 #[.agg #[.bool b, .string x, .string y], .agg #[.bool c, .string z, .string v]] w fun e w' => e = .returned (.agg #[.bool false, .string ⟨#[]⟩, .string ⟨#[1]⟩]) ∧ Below w.heap.size w w' := by
  have HK := three_vars w 47 47 47 (q3 b x y) (q3 c z v) qZ
  obtain ⟨W0, hW0, kx, ky, kz, kw⟩ := HK
  have HX := Lib.hid kx
  have HY := Lib.hid ky
  have HZ := Lib.hid kz
  have HW := Lib.hid kw
  have H41 := Lib.hid (fun W => run_eqS ⟨#[]⟩ ⟨#[]⟩ true (decide_eq_true rfl) W)
  have F15 := Lib.hid h15
  have F19 := Lib.hid h19
  have F23 := Lib.hid h23
  have F30 := Lib.hid h30
  have F36 := Lib.hid h36
  have F37 := Lib.hid h37
  clear kx ky kz kw h15 h19 h23 h30 h36 h37
  go_enter Tryz.func73, Tryz.ntmps73
  go_wp2_with fail
  rw [← hW0]
  clear hW0
  refine (F15.out _).mono ?_
  rintro e wx ⟨rfl, hb⟩
  replace HX := Lib.hid (HX.out.next hb)
  replace HY := Lib.hid (HY.out.next hb)
  replace HZ := Lib.hid (HZ.out.next hb)
  replace HW := Lib.hid (HW.out.trans (hb.mono HW.out.size))
  clear hb
  go_wp2_with fail
  refine late_begin (S := fun _ W => Blk W w.heap.size 47 (q3 b x y) ∧ Blk W (w.heap.size + 1) 47 (q3 c z v)) (by kernel_rfl) ?_
  have hX0 := HX.out.drew
  have hY0 := HY.out.drew
  have hZ0 := HZ.out.drew
  have hW0 := HW.out.drew
  generalize wx.drew = u0 at hX0 hY0 hZ0 hW0 ⊢
  clear HX HY HZ HW
  refine late_take [] (i := 0) (some 16) rfl rfl rfl (by kernel_rfl) (by kernel_rfl) (by kernel_rfl) (by kernel_rfl) (by kernel_rfl) (fun Ls W h => h) (.pointer (some ⟨w.heap.size, 2, none⟩)) (fun _ _ _ h => h) (fun Ls W hl0 hW => exec_fieldAddr 47 (.tmp 2) 2 rfl _ _ rfl (qf_f2 _ _)) ⟨hX0, hY0⟩ ⟨hX0, hY0⟩ ?_
  go_frame
  refine late_take [] (i := 1) (some 17) rfl rfl rfl (by kernel_rfl) (by kernel_rfl) (by kernel_rfl) (by kernel_rfl) (by kernel_rfl) (fun Ls W h => h) (.string y) (fun _ _ _ h => h) (fun Ls W hl0 hW => exec_loadQ 9 qstr_flat (.tmp 16) rfl (.string y) rfl (hW.1.cell 2)) ⟨hX0, hY0⟩ ⟨hX0, hY0⟩ ?_
  go_frame
  refine late_take [] (i := 2) (some 18) rfl rfl rfl (by kernel_rfl) (by kernel_rfl) (by kernel_rfl) (by kernel_rfl) (by kernel_rfl) (fun Ls W h => h) (.string g) (fun _ _ _ h => h) (fun Ls W hl0 hW => exec_move (.tmp 5) rfl _ rfl) ⟨hX0, hY0⟩ ⟨hX0, hY0⟩ ?_
  go_frame
  refine late_take [] (i := 4) (some 20) rfl rfl rfl (by kernel_rfl) (by kernel_rfl) (by kernel_rfl) (by kernel_rfl) (by kernel_rfl) (fun Ls W h => h) (.pointer (some ⟨(w.heap.size + 1), 2, none⟩)) (fun _ _ _ h => h) (fun Ls W hl0 hW => exec_fieldAddr 47 (.tmp 3) 2 rfl _ _ rfl (qf_f2 _ _)) ⟨hX0, hY0⟩ ⟨hX0, hY0⟩ ?_
  go_frame
  refine late_take [] (i := 5) (some 21) rfl rfl rfl (by kernel_rfl) (by kernel_rfl) (by kernel_rfl) (by kernel_rfl) (by kernel_rfl) (fun Ls W h => h) (.string v) (fun _ _ _ h => h) (fun Ls W hl0 hW => exec_loadQ 9 qstr_flat (.tmp 20) rfl (.string v) rfl (hW.2.cell 2)) ⟨hX0, hY0⟩ ⟨hX0, hY0⟩ ?_
  go_frame
  refine late_take [] (i := 6) (some 22) rfl rfl rfl (by kernel_rfl) (by kernel_rfl) (by kernel_rfl) (by kernel_rfl) (by kernel_rfl) (fun Ls W h => h) (.string g) (fun _ _ _ h => h) (fun Ls W hl0 hW => exec_move (.tmp 5) rfl _ rfl) ⟨hX0, hY0⟩ ⟨hX0, hY0⟩ ?_
  go_frame
  refine late_one (i := 3) (by kernel_rfl) (op_call (some 19) rfl rfl rfl rfl Tryz.func78 (by kernel_rfl) (by kernel_rfl) #[.string y, .string g] rfl (F19.out u0) ?_)
  rintro e u1 ⟨rfl, hb1⟩
  have hX1 := hX0.next hb1
  have hY1 := hY0.next hb1
  have hZ1 := hZ0.next hb1
  have hW1 := hW0.trans (hb1.mono hW0.size)
  refine ⟨_, rfl, ⟨hX1, hY1⟩, ?_⟩
  go_frame
  clear hX0 hY0 hZ0 hW0 hb1
  refine late_one (i := 7) (by kernel_rfl) (op_call (some 23) rfl rfl rfl rfl Tryz.func78 (by kernel_rfl) (by kernel_rfl) #[.string v, .string g] rfl (F23.out u1) ?_)
  rintro e u2 ⟨rfl, hb2⟩
  have hX2 := hX1.next hb2
  have hY2 := hY1.next hb2
  have hZ2 := hZ1.next hb2
  have hW2 := hW1.trans (hb2.mono hW1.size)
  refine ⟨_, rfl, ⟨hX2, hY2⟩, ?_⟩
  go_frame
  clear hX1 hY1 hZ1 hW1 hb2
  refine late_one (i := 8) (by kernel_rfl) (op_value (some 6) rfl rfl rfl (.string m) (exec_assign (.tmp 19) rfl _ rfl) ⟨⟨hX2, hY2⟩, ?_⟩)
  go_frame
  refine late_one (i := 9) (by kernel_rfl) (op_value (some 7) rfl rfl rfl (.string o) (exec_assign (.tmp 23) rfl _ rfl) ⟨⟨hX2, hY2⟩, late_done (by kernel_rfl) ?_ _⟩)
  go_frame
  have HX := Lib.hid hX2
  have HY := Lib.hid hY2
  have HZ := Lib.hid hZ2
  have HW := Lib.hid hW2
  clear hX2 hY2 hZ2 hW2
  go_wp2_with fail
  refine late_begin (S := fun _ W => Blk W w.heap.size 47 (q3 b x y) ∧ Blk W (w.heap.size + 1) 47 (q3 c z v)) (by kernel_rfl) ?_
  have hX0 := HX.out.drew
  have hY0 := HY.out.drew
  have hZ0 := HZ.out.drew
  have hW0 := HW.out.drew
  generalize u2.drew = u0 at hX0 hY0 hZ0 hW0 ⊢
  clear HX HY HZ HW
  refine late_take [] (i := 0) (some 25) rfl rfl rfl (by kernel_rfl) (by kernel_rfl) (by kernel_rfl) (by kernel_rfl) (by kernel_rfl) (fun Ls W h => h) (.pointer (some ⟨w.heap.size, 0, none⟩)) (fun _ _ _ h => h) (fun Ls W hl0 hW => exec_fieldAddr 47 (.tmp 2) 0 rfl _ _ rfl (qf_f0 _ _)) ⟨hX0, hY0⟩ ⟨hX0, hY0⟩ ?_
  go_frame
  refine late_take [] (i := 1) (some 26) rfl rfl rfl (by kernel_rfl) (by kernel_rfl) (by kernel_rfl) (by kernel_rfl) (by kernel_rfl) (fun Ls W h => h) (.bool b) (fun _ _ _ h => h) (fun Ls W hl0 hW => exec_loadQ 4 qbool_flat (.tmp 25) rfl (.bool b) rfl (hW.1.cell 0)) ⟨hX0, hY0⟩ ⟨hX0, hY0⟩ ?_
  go_frame
  refine late_take [] (i := 2) (some 27) rfl rfl rfl (by kernel_rfl) (by kernel_rfl) (by kernel_rfl) (by kernel_rfl) (by kernel_rfl) (fun Ls W h => h) (.pointer (some ⟨w.heap.size, 1, none⟩)) (fun _ _ _ h => h) (fun Ls W hl0 hW => exec_fieldAddr 47 (.tmp 2) 1 rfl _ _ rfl (qf_f1 _ _)) ⟨hX0, hY0⟩ ⟨hX0, hY0⟩ ?_
  go_frame
  refine late_take [] (i := 3) (some 28) rfl rfl rfl (by kernel_rfl) (by kernel_rfl) (by kernel_rfl) (by kernel_rfl) (by kernel_rfl) (fun Ls W h => h) (.string x) (fun _ _ _ h => h) (fun Ls W hl0 hW => exec_loadQ 9 qstr_flat (.tmp 27) rfl (.string x) rfl (hW.1.cell 1)) ⟨hX0, hY0⟩ ⟨hX0, hY0⟩ ?_
  go_frame
  refine late_take [] (i := 4) (some 29) rfl rfl rfl (by kernel_rfl) (by kernel_rfl) (by kernel_rfl) (by kernel_rfl) (by kernel_rfl) (fun Ls W h => h) (.string o) (fun _ _ _ h => h) (fun Ls W hl0 hW => exec_move (.tmp 7) rfl _ rfl) ⟨hX0, hY0⟩ ⟨hX0, hY0⟩ ?_
  go_frame
  refine late_take [] (i := 6) (some 31) rfl rfl rfl (by kernel_rfl) (by kernel_rfl) (by kernel_rfl) (by kernel_rfl) (by kernel_rfl) (fun Ls W h => h) (.pointer (some ⟨(w.heap.size + 1), 0, none⟩)) (fun _ _ _ h => h) (fun Ls W hl0 hW => exec_fieldAddr 47 (.tmp 3) 0 rfl _ _ rfl (qf_f0 _ _)) ⟨hX0, hY0⟩ ⟨hX0, hY0⟩ ?_
  go_frame
  refine late_take [] (i := 7) (some 32) rfl rfl rfl (by kernel_rfl) (by kernel_rfl) (by kernel_rfl) (by kernel_rfl) (by kernel_rfl) (fun Ls W h => h) (.bool c) (fun _ _ _ h => h) (fun Ls W hl0 hW => exec_loadQ 4 qbool_flat (.tmp 31) rfl (.bool c) rfl (hW.2.cell 0)) ⟨hX0, hY0⟩ ⟨hX0, hY0⟩ ?_
  go_frame
  refine late_take [] (i := 8) (some 33) rfl rfl rfl (by kernel_rfl) (by kernel_rfl) (by kernel_rfl) (by kernel_rfl) (by kernel_rfl) (fun Ls W h => h) (.pointer (some ⟨(w.heap.size + 1), 1, none⟩)) (fun _ _ _ h => h) (fun Ls W hl0 hW => exec_fieldAddr 47 (.tmp 3) 1 rfl _ _ rfl (qf_f1 _ _)) ⟨hX0, hY0⟩ ⟨hX0, hY0⟩ ?_
  go_frame
  refine late_take [] (i := 9) (some 34) rfl rfl rfl (by kernel_rfl) (by kernel_rfl) (by kernel_rfl) (by kernel_rfl) (by kernel_rfl) (fun Ls W h => h) (.string z) (fun _ _ _ h => h) (fun Ls W hl0 hW => exec_loadQ 9 qstr_flat (.tmp 33) rfl (.string z) rfl (hW.2.cell 1)) ⟨hX0, hY0⟩ ⟨hX0, hY0⟩ ?_
  go_frame
  refine late_take [] (i := 10) (some 35) rfl rfl rfl (by kernel_rfl) (by kernel_rfl) (by kernel_rfl) (by kernel_rfl) (by kernel_rfl) (fun Ls W h => h) (.string m) (fun _ _ _ h => h) (fun Ls W hl0 hW => exec_move (.tmp 6) rfl _ rfl) ⟨hX0, hY0⟩ ⟨hX0, hY0⟩ ?_
  go_frame
  refine late_one (i := 5) (by kernel_rfl) (op_call (some 30) rfl rfl rfl rfl Tryz.func77 (by kernel_rfl) (by kernel_rfl) #[.string x, .string o] rfl (F30.out u0) ?_)
  rintro e u1 ⟨rfl, hb1⟩
  have hX1 := hX0.next hb1
  have hY1 := hY0.next hb1
  have hZ1 := hZ0.next hb1
  have hW1 := hW0.trans (hb1.mono hW0.size)
  refine ⟨_, rfl, ⟨hX1, hY1⟩, ?_⟩
  go_frame
  clear hX0 hY0 hZ0 hW0 hb1
  refine late_one (i := 11) (by kernel_rfl) (op_call (some 36) rfl rfl rfl rfl Tryz.func77 (by kernel_rfl) (by kernel_rfl) #[.string z, .string m] rfl (F36.out u1) ?_)
  rintro e u2 ⟨rfl, hb2⟩
  have hX2 := hX1.next hb2
  have hY2 := hY1.next hb2
  have hZ2 := hZ1.next hb2
  have hW2 := hW1.trans (hb2.mono hW1.size)
  refine ⟨_, rfl, ⟨hX2, hY2⟩, ?_⟩
  go_frame
  clear hX1 hY1 hZ1 hW1 hb2
  refine late_one (i := 12) (by kernel_rfl) (op_call (some 37) rfl rfl rfl rfl Tryz.func99 (by kernel_rfl) (by kernel_rfl) #[.bool b, .string p, .bool c, .string q] rfl (F37.out u2) ?_)
  rintro e u3 ⟨⟨d, rfl⟩, hb3⟩
  have hX3 := hX2.next hb3
  have hY3 := hY2.next hb3
  have hZ3 := hZ2.next hb3
  have hW3 := hW2.trans (hb3.mono hW2.size)
  refine ⟨_, rfl, ⟨hX3, hY3⟩, ?_⟩
  go_frame
  clear hX2 hY2 hZ2 hW2 hb3
  refine late_one (i := 13) (by kernel_rfl) (op_value (some 24) rfl rfl rfl (.tuple #[.bool d, .string ⟨#[]⟩]) (exec_move (.tmp 37) rfl _ rfl) ⟨⟨hX3, hY3⟩, ?_⟩)
  go_frame
  refine late_take [] (i := 14) (some 38) rfl rfl rfl (by kernel_rfl) (by kernel_rfl) (by kernel_rfl) (by kernel_rfl) (by kernel_rfl) (fun Ls W h => h) (.bool d) (fun _ _ _ h => h) (fun Ls W hl0 hW => exec_extractQ (.tmp 24) 0 rfl _ _ rfl rfl) ⟨hX3, hY3⟩ ⟨hX3, hY3⟩ ?_
  go_frame
  refine late_take [] (i := 15) (some 39) rfl rfl rfl (by kernel_rfl) (by kernel_rfl) (by kernel_rfl) (by kernel_rfl) (by kernel_rfl) (fun Ls W h => h) (.string ⟨#[]⟩) (fun _ _ _ h => h) (fun Ls W hl0 hW => exec_extractQ (.tmp 24) 1 rfl _ _ rfl rfl) ⟨hX3, hY3⟩ ⟨hX3, hY3⟩ ?_
  go_frame
  refine late_one (i := 16) (by kernel_rfl) (op_value (some 8) rfl rfl rfl (.bool d) (exec_assign (.tmp 38) rfl _ rfl) ⟨⟨hX3, hY3⟩, ?_⟩)
  go_frame
  refine late_one (i := 17) (by kernel_rfl) (op_value (some 9) rfl rfl rfl (.string ⟨#[]⟩) (exec_assign (.tmp 39) rfl _ rfl) ⟨⟨hX3, hY3⟩, late_done (by kernel_rfl) ?_ _⟩)
  go_frame
  have HX := Lib.hid hX3
  have HY := Lib.hid hY3
  have HZ := Lib.hid hZ3
  have HW := Lib.hid hW3
  clear hX3 hY3 hZ3 hW3
  go_wp2_with (first | (refine wpList_dst 41 rfl ?_; refine wpList_run 41 rfl rfl _ (exec_bin .eql 9 _ (.tmp 40) (.const (.string ⟨#[]⟩)) rfl _ _ _ rfl rfl rfl (H41.out _)) ?_) | (refine wpList_dst 42 rfl ?_; refine wpList_run 42 rfl rfl _ (exec_build1 47 2 (.const (.string ⟨#[1]⟩)) rfl _ _ rfl (qf_one _)) ?_) | (refine wpList_store_all rfl 47 (.tmp 4) (.tmp 42) rfl (w.heap.size + 1 + 1) _ qZ (q3 false ⟨#[]⟩ ⟨#[1]⟩) rfl rfl HZ.out rfl qf_size (q_one _ _ _) ?_; intro w9 HK9 ho9; have HO9 := Lib.hid ho9; clear ho9))
  exact bodyPost_ret (results_blk rfl _ _ (w.heap.size + 1 + 1) _ (q3 false ⟨#[]⟩ ⟨#[1]⟩) _ rfl HK9.out Tryz.underlying47 rfl qf_size) rfl ⟨rfl, HW.out.trans (HO9.out.below (by omega))⟩
set_option maxRecDepth 100000 in
set_option maxHeartbeats 2000000 in
theorem plus_pos (b c d : Bool) (x y z v g m o p q N r N2 v2 D : ByteArray) (w : World) (h15 : (∀ W, Calls Tryz.prog 52 #[.string y, .string v] W fun e w' => e = .returned (.string g) ∧ Below W.heap.size W w')) (h19 : (∀ W, Calls Tryz.prog 78 #[.string y, .string g] W fun e w' => e = .returned (.string m) ∧ Below W.heap.size W w')) (h23 : (∀ W, Calls Tryz.prog 78 #[.string v, .string g] W fun e w' => e = .returned (.string o) ∧ Below W.heap.size W w')) (h30 : (∀ W, Calls Tryz.prog 77 #[.string x, .string o] W fun e w' => e = .returned (.string p) ∧ Below W.heap.size W w')) (h36 : (∀ W, Calls Tryz.prog 77 #[.string z, .string m] W fun e w' => e = .returned (.string q) ∧ Below W.heap.size W w')) (h45 : (∀ W, Calls Tryz.prog 52 #[.string N, .string g] W fun e w' => e = .returned (.string r) ∧ Below W.heap.size W w')) (h49 : (∀ W, Calls Tryz.prog 78 #[.string N, .string r] W fun e w' => e = .returned (.string N2) ∧ Below W.heap.size W w')) (h54 : (∀ W, Calls Tryz.prog 78 #[.string v, .string r] W fun e w' => e = .returned (.string v2) ∧ Below W.heap.size W w')) (h55 : (∀ W, Calls Tryz.prog 77 #[.string m, .string v2] W fun e w' => e = .returned (.string D) ∧ Below W.heap.size W w')) (h37 : (∀ W, Calls Tryz.prog 99 #[.bool b, .string p, .bool c, .string q] W fun e w' => e = .returned (.tuple #[.bool d, .string N]) ∧ Below W.heap.size W w')) (hN : N ≠ ⟨#[]⟩) :
    Calls Tryz.prog 73 #[.agg #[.bool b, .string x, .string y], .agg #[.bool c, .string z, .string v]] w fun e w' => e = .returned (.agg #[.bool d, .string N2, .string D]) ∧ Below w.heap.size w w' := by
  have HK := three_vars w 47 47 47 (q3 b x y) (q3 c z v) qZ
  obtain ⟨W0, hW0, kx, ky, kz, kw⟩ := HK
  have HX := Lib.hid kx
  have HY := Lib.hid ky
  have HZ := Lib.hid kz
  have HW := Lib.hid kw
  have H41 := Lib.hid (fun W => run_eqS N ⟨#[]⟩ false (decide_eq_false hN) W)
  clear hN
  have F15 := Lib.hid h15
  have F19 := Lib.hid h19
  have F23 := Lib.hid h23
  have F30 := Lib.hid h30
  have F36 := Lib.hid h36
  have F37 := Lib.hid h37
  have F45 := Lib.hid h45
  have F49 := Lib.hid h49
  have F54 := Lib.hid h54
  have F55 := Lib.hid h55
  clear kx ky kz kw h15 h19 h23 h30 h36 h37 h45 h49 h54 h55
  go_enter Tryz.func73, Tryz.ntmps73
  go_wp2_with fail
  rw [← hW0]
  clear hW0
  refine (F15.out _).mono ?_
  rintro e wx ⟨rfl, hb⟩
  replace HX := Lib.hid (HX.out.next hb)
  replace HY := Lib.hid (HY.out.next hb)
  replace HZ := Lib.hid (HZ.out.next hb)
  replace HW := Lib.hid (HW.out.trans (hb.mono HW.out.size))
  clear hb
  go_wp2_with fail
  refine late_begin (S := fun _ W => Blk W w.heap.size 47 (q3 b x y) ∧ Blk W (w.heap.size + 1) 47 (q3 c z v)) (by kernel_rfl) ?_
  have hX0 := HX.out.drew
  have hY0 := HY.out.drew
  have hZ0 := HZ.out.drew
  have hW0 := HW.out.drew
  generalize wx.drew = u0 at hX0 hY0 hZ0 hW0 ⊢
  clear HX HY HZ HW
  refine late_take [] (i := 0) (some 16) rfl rfl rfl (by kernel_rfl) (by kernel_rfl) (by kernel_rfl) (by kernel_rfl) (by kernel_rfl) (fun Ls W h => h) (.pointer (some ⟨w.heap.size, 2, none⟩)) (fun _ _ _ h => h) (fun Ls W hl0 hW => exec_fieldAddr 47 (.tmp 2) 2 rfl _ _ rfl (qf_f2 _ _)) ⟨hX0, hY0⟩ ⟨hX0, hY0⟩ ?_
  go_frame
  refine late_take [] (i := 1) (some 17) rfl rfl rfl (by kernel_rfl) (by kernel_rfl) (by kernel_rfl) (by kernel_rfl) (by kernel_rfl) (fun Ls W h => h) (.string y) (fun _ _ _ h => h) (fun Ls W hl0 hW => exec_loadQ 9 qstr_flat (.tmp 16) rfl (.string y) rfl (hW.1.cell 2)) ⟨hX0, hY0⟩ ⟨hX0, hY0⟩ ?_
  go_frame
  refine late_take [] (i := 2) (some 18) rfl rfl rfl (by kernel_rfl) (by kernel_rfl) (by kernel_rfl) (by kernel_rfl) (by kernel_rfl) (fun Ls W h => h) (.string g) (fun _ _ _ h => h) (fun Ls W hl0 hW => exec_move (.tmp 5) rfl _ rfl) ⟨hX0, hY0⟩ ⟨hX0, hY0⟩ ?_
  go_frame
  refine late_take [] (i := 4) (some 20) rfl rfl rfl (by kernel_rfl) (by kernel_rfl) (by kernel_rfl) (by kernel_rfl) (by kernel_rfl) (fun Ls W h => h) (.pointer (some ⟨(w.heap.size + 1), 2, none⟩)) (fun _ _ _ h => h) (fun Ls W hl0 hW => exec_fieldAddr 47 (.tmp 3) 2 rfl _ _ rfl (qf_f2 _ _)) ⟨hX0, hY0⟩ ⟨hX0, hY0⟩ ?_
  go_frame
  refine late_take [] (i := 5) (some 21) rfl rfl rfl (by kernel_rfl) (by kernel_rfl) (by kernel_rfl) (by kernel_rfl) (by kernel_rfl) (fun Ls W h => h) (.string v) (fun _ _ _ h => h) (fun Ls W hl0 hW => exec_loadQ 9 qstr_flat (.tmp 20) rfl (.string v) rfl (hW.2.cell 2)) ⟨hX0, hY0⟩ ⟨hX0, hY0⟩ ?_
  go_frame
  refine late_take [] (i := 6) (some 22) rfl rfl rfl (by kernel_rfl) (by kernel_rfl) (by kernel_rfl) (by kernel_rfl) (by kernel_rfl) (fun Ls W h => h) (.string g) (fun _ _ _ h => h) (fun Ls W hl0 hW => exec_move (.tmp 5) rfl _ rfl) ⟨hX0, hY0⟩ ⟨hX0, hY0⟩ ?_
  go_frame
  refine late_one (i := 3) (by kernel_rfl) (op_call (some 19) rfl rfl rfl rfl Tryz.func78 (by kernel_rfl) (by kernel_rfl) #[.string y, .string g] rfl (F19.out u0) ?_)
  rintro e u1 ⟨rfl, hb1⟩
  have hX1 := hX0.next hb1
  have hY1 := hY0.next hb1
  have hZ1 := hZ0.next hb1
  have hW1 := hW0.trans (hb1.mono hW0.size)
  refine ⟨_, rfl, ⟨hX1, hY1⟩, ?_⟩
  go_frame
  clear hX0 hY0 hZ0 hW0 hb1
  refine late_one (i := 7) (by kernel_rfl) (op_call (some 23) rfl rfl rfl rfl Tryz.func78 (by kernel_rfl) (by kernel_rfl) #[.string v, .string g] rfl (F23.out u1) ?_)
  rintro e u2 ⟨rfl, hb2⟩
  have hX2 := hX1.next hb2
  have hY2 := hY1.next hb2
  have hZ2 := hZ1.next hb2
  have hW2 := hW1.trans (hb2.mono hW1.size)
  refine ⟨_, rfl, ⟨hX2, hY2⟩, ?_⟩
  go_frame
  clear hX1 hY1 hZ1 hW1 hb2
  refine late_one (i := 8) (by kernel_rfl) (op_value (some 6) rfl rfl rfl (.string m) (exec_assign (.tmp 19) rfl _ rfl) ⟨⟨hX2, hY2⟩, ?_⟩)
  go_frame
  refine late_one (i := 9) (by kernel_rfl) (op_value (some 7) rfl rfl rfl (.string o) (exec_assign (.tmp 23) rfl _ rfl) ⟨⟨hX2, hY2⟩, late_done (by kernel_rfl) ?_ _⟩)
  go_frame
  have HX := Lib.hid hX2
  have HY := Lib.hid hY2
  have HZ := Lib.hid hZ2
  have HW := Lib.hid hW2
  clear hX2 hY2 hZ2 hW2
  go_wp2_with fail
  refine late_begin (S := fun _ W => Blk W w.heap.size 47 (q3 b x y) ∧ Blk W (w.heap.size + 1) 47 (q3 c z v)) (by kernel_rfl) ?_
  have hX0 := HX.out.drew
  have hY0 := HY.out.drew
  have hZ0 := HZ.out.drew
  have hW0 := HW.out.drew
  generalize u2.drew = u0 at hX0 hY0 hZ0 hW0 ⊢
  clear HX HY HZ HW
  refine late_take [] (i := 0) (some 25) rfl rfl rfl (by kernel_rfl) (by kernel_rfl) (by kernel_rfl) (by kernel_rfl) (by kernel_rfl) (fun Ls W h => h) (.pointer (some ⟨w.heap.size, 0, none⟩)) (fun _ _ _ h => h) (fun Ls W hl0 hW => exec_fieldAddr 47 (.tmp 2) 0 rfl _ _ rfl (qf_f0 _ _)) ⟨hX0, hY0⟩ ⟨hX0, hY0⟩ ?_
  go_frame
  refine late_take [] (i := 1) (some 26) rfl rfl rfl (by kernel_rfl) (by kernel_rfl) (by kernel_rfl) (by kernel_rfl) (by kernel_rfl) (fun Ls W h => h) (.bool b) (fun _ _ _ h => h) (fun Ls W hl0 hW => exec_loadQ 4 qbool_flat (.tmp 25) rfl (.bool b) rfl (hW.1.cell 0)) ⟨hX0, hY0⟩ ⟨hX0, hY0⟩ ?_
  go_frame
  refine late_take [] (i := 2) (some 27) rfl rfl rfl (by kernel_rfl) (by kernel_rfl) (by kernel_rfl) (by kernel_rfl) (by kernel_rfl) (fun Ls W h => h) (.pointer (some ⟨w.heap.size, 1, none⟩)) (fun _ _ _ h => h) (fun Ls W hl0 hW => exec_fieldAddr 47 (.tmp 2) 1 rfl _ _ rfl (qf_f1 _ _)) ⟨hX0, hY0⟩ ⟨hX0, hY0⟩ ?_
  go_frame
  refine late_take [] (i := 3) (some 28) rfl rfl rfl (by kernel_rfl) (by kernel_rfl) (by kernel_rfl) (by kernel_rfl) (by kernel_rfl) (fun Ls W h => h) (.string x) (fun _ _ _ h => h) (fun Ls W hl0 hW => exec_loadQ 9 qstr_flat (.tmp 27) rfl (.string x) rfl (hW.1.cell 1)) ⟨hX0, hY0⟩ ⟨hX0, hY0⟩ ?_
  go_frame
  refine late_take [] (i := 4) (some 29) rfl rfl rfl (by kernel_rfl) (by kernel_rfl) (by kernel_rfl) (by kernel_rfl) (by kernel_rfl) (fun Ls W h => h) (.string o) (fun _ _ _ h => h) (fun Ls W hl0 hW => exec_move (.tmp 7) rfl _ rfl) ⟨hX0, hY0⟩ ⟨hX0, hY0⟩ ?_
  go_frame
  refine late_take [] (i := 6) (some 31) rfl rfl rfl (by kernel_rfl) (by kernel_rfl) (by kernel_rfl) (by kernel_rfl) (by kernel_rfl) (fun Ls W h => h) (.pointer (some ⟨(w.heap.size + 1), 0, none⟩)) (fun _ _ _ h => h) (fun Ls W hl0 hW => exec_fieldAddr 47 (.tmp 3) 0 rfl _ _ rfl (qf_f0 _ _)) ⟨hX0, hY0⟩ ⟨hX0, hY0⟩ ?_
  go_frame
  refine late_take [] (i := 7) (some 32) rfl rfl rfl (by kernel_rfl) (by kernel_rfl) (by kernel_rfl) (by kernel_rfl) (by kernel_rfl) (fun Ls W h => h) (.bool c) (fun _ _ _ h => h) (fun Ls W hl0 hW => exec_loadQ 4 qbool_flat (.tmp 31) rfl (.bool c) rfl (hW.2.cell 0)) ⟨hX0, hY0⟩ ⟨hX0, hY0⟩ ?_
  go_frame
  refine late_take [] (i := 8) (some 33) rfl rfl rfl (by kernel_rfl) (by kernel_rfl) (by kernel_rfl) (by kernel_rfl) (by kernel_rfl) (fun Ls W h => h) (.pointer (some ⟨(w.heap.size + 1), 1, none⟩)) (fun _ _ _ h => h) (fun Ls W hl0 hW => exec_fieldAddr 47 (.tmp 3) 1 rfl _ _ rfl (qf_f1 _ _)) ⟨hX0, hY0⟩ ⟨hX0, hY0⟩ ?_
  go_frame
  refine late_take [] (i := 9) (some 34) rfl rfl rfl (by kernel_rfl) (by kernel_rfl) (by kernel_rfl) (by kernel_rfl) (by kernel_rfl) (fun Ls W h => h) (.string z) (fun _ _ _ h => h) (fun Ls W hl0 hW => exec_loadQ 9 qstr_flat (.tmp 33) rfl (.string z) rfl (hW.2.cell 1)) ⟨hX0, hY0⟩ ⟨hX0, hY0⟩ ?_
  go_frame
  refine late_take [] (i := 10) (some 35) rfl rfl rfl (by kernel_rfl) (by kernel_rfl) (by kernel_rfl) (by kernel_rfl) (by kernel_rfl) (fun Ls W h => h) (.string m) (fun _ _ _ h => h) (fun Ls W hl0 hW => exec_move (.tmp 6) rfl _ rfl) ⟨hX0, hY0⟩ ⟨hX0, hY0⟩ ?_
  go_frame
  refine late_one (i := 5) (by kernel_rfl) (op_call (some 30) rfl rfl rfl rfl Tryz.func77 (by kernel_rfl) (by kernel_rfl) #[.string x, .string o] rfl (F30.out u0) ?_)
  rintro e u1 ⟨rfl, hb1⟩
  have hX1 := hX0.next hb1
  have hY1 := hY0.next hb1
  have hZ1 := hZ0.next hb1
  have hW1 := hW0.trans (hb1.mono hW0.size)
  refine ⟨_, rfl, ⟨hX1, hY1⟩, ?_⟩
  go_frame
  clear hX0 hY0 hZ0 hW0 hb1
  refine late_one (i := 11) (by kernel_rfl) (op_call (some 36) rfl rfl rfl rfl Tryz.func77 (by kernel_rfl) (by kernel_rfl) #[.string z, .string m] rfl (F36.out u1) ?_)
  rintro e u2 ⟨rfl, hb2⟩
  have hX2 := hX1.next hb2
  have hY2 := hY1.next hb2
  have hZ2 := hZ1.next hb2
  have hW2 := hW1.trans (hb2.mono hW1.size)
  refine ⟨_, rfl, ⟨hX2, hY2⟩, ?_⟩
  go_frame
  clear hX1 hY1 hZ1 hW1 hb2
  refine late_one (i := 12) (by kernel_rfl) (op_call (some 37) rfl rfl rfl rfl Tryz.func99 (by kernel_rfl) (by kernel_rfl) #[.bool b, .string p, .bool c, .string q] rfl (F37.out u2) ?_)
  rintro e u3 ⟨rfl, hb3⟩
  have hX3 := hX2.next hb3
  have hY3 := hY2.next hb3
  have hZ3 := hZ2.next hb3
  have hW3 := hW2.trans (hb3.mono hW2.size)
  refine ⟨_, rfl, ⟨hX3, hY3⟩, ?_⟩
  go_frame
  clear hX2 hY2 hZ2 hW2 hb3
  refine late_one (i := 13) (by kernel_rfl) (op_value (some 24) rfl rfl rfl (.tuple #[.bool d, .string N]) (exec_move (.tmp 37) rfl _ rfl) ⟨⟨hX3, hY3⟩, ?_⟩)
  go_frame
  refine late_take [] (i := 14) (some 38) rfl rfl rfl (by kernel_rfl) (by kernel_rfl) (by kernel_rfl) (by kernel_rfl) (by kernel_rfl) (fun Ls W h => h) (.bool d) (fun _ _ _ h => h) (fun Ls W hl0 hW => exec_extractQ (.tmp 24) 0 rfl _ _ rfl rfl) ⟨hX3, hY3⟩ ⟨hX3, hY3⟩ ?_
  go_frame
  refine late_take [] (i := 15) (some 39) rfl rfl rfl (by kernel_rfl) (by kernel_rfl) (by kernel_rfl) (by kernel_rfl) (by kernel_rfl) (fun Ls W h => h) (.string N) (fun _ _ _ h => h) (fun Ls W hl0 hW => exec_extractQ (.tmp 24) 1 rfl _ _ rfl rfl) ⟨hX3, hY3⟩ ⟨hX3, hY3⟩ ?_
  go_frame
  refine late_one (i := 16) (by kernel_rfl) (op_value (some 8) rfl rfl rfl (.bool d) (exec_assign (.tmp 38) rfl _ rfl) ⟨⟨hX3, hY3⟩, ?_⟩)
  go_frame
  refine late_one (i := 17) (by kernel_rfl) (op_value (some 9) rfl rfl rfl (.string N) (exec_assign (.tmp 39) rfl _ rfl) ⟨⟨hX3, hY3⟩, late_done (by kernel_rfl) ?_ _⟩)
  go_frame
  have HX := Lib.hid hX3
  have HY := Lib.hid hY3
  have HZ := Lib.hid hZ3
  have HW := Lib.hid hW3
  clear hX3 hY3 hZ3 hW3
  go_wp2_with (first | (refine wpList_dst 41 rfl ?_; refine wpList_run 41 rfl rfl _ (exec_bin .eql 9 _ (.tmp 40) (.const (.string ⟨#[]⟩)) rfl _ _ _ rfl rfl rfl (H41.out _)) ?_))
  refine (F45.out _).mono ?_
  rintro e wx ⟨rfl, hb⟩
  replace HX := Lib.hid (HX.out.next hb)
  replace HY := Lib.hid (HY.out.next hb)
  replace HZ := Lib.hid (HZ.out.next hb)
  replace HW := Lib.hid (HW.out.trans (hb.mono HW.out.size))
  clear hb
  go_wp2_with fail
  refine late_begin (S := fun _ W => Blk W w.heap.size 47 (q3 b x y) ∧ Blk W (w.heap.size + 1) 47 (q3 c z v)) (by kernel_rfl) ?_
  have hX0 := HX.out.drew
  have hY0 := HY.out.drew
  have hZ0 := HZ.out.drew
  have hW0 := HW.out.drew
  generalize wx.drew = u0 at hX0 hY0 hZ0 hW0 ⊢
  clear HX HY HZ HW
  refine late_take [] (i := 0) (some 46) rfl rfl rfl (by kernel_rfl) (by kernel_rfl) (by kernel_rfl) (by kernel_rfl) (by kernel_rfl) (fun Ls W h => h) (.bool d) (fun _ _ _ h => h) (fun Ls W hl0 hW => exec_move (.tmp 8) rfl _ rfl) ⟨hX0, hY0⟩ ⟨hX0, hY0⟩ ?_
  go_frame
  refine late_take [] (i := 1) (some 47) rfl rfl rfl (by kernel_rfl) (by kernel_rfl) (by kernel_rfl) (by kernel_rfl) (by kernel_rfl) (fun Ls W h => h) (.string N) (fun _ _ _ h => h) (fun Ls W hl0 hW => exec_move (.tmp 9) rfl _ rfl) ⟨hX0, hY0⟩ ⟨hX0, hY0⟩ ?_
  go_frame
  refine late_take [] (i := 2) (some 48) rfl rfl rfl (by kernel_rfl) (by kernel_rfl) (by kernel_rfl) (by kernel_rfl) (by kernel_rfl) (fun Ls W h => h) (.string r) (fun _ _ _ h => h) (fun Ls W hl0 hW => exec_move (.tmp 10) rfl _ rfl) ⟨hX0, hY0⟩ ⟨hX0, hY0⟩ ?_
  go_frame
  refine late_take [] (i := 4) (some 50) rfl rfl rfl (by kernel_rfl) (by kernel_rfl) (by kernel_rfl) (by kernel_rfl) (by kernel_rfl) (fun Ls W h => h) (.string m) (fun _ _ _ h => h) (fun Ls W hl0 hW => exec_move (.tmp 6) rfl _ rfl) ⟨hX0, hY0⟩ ⟨hX0, hY0⟩ ?_
  go_frame
  refine late_take [] (i := 5) (some 51) rfl rfl rfl (by kernel_rfl) (by kernel_rfl) (by kernel_rfl) (by kernel_rfl) (by kernel_rfl) (fun Ls W h => h) (.pointer (some ⟨(w.heap.size + 1), 2, none⟩)) (fun _ _ _ h => h) (fun Ls W hl0 hW => exec_fieldAddr 47 (.tmp 3) 2 rfl _ _ rfl (qf_f2 _ _)) ⟨hX0, hY0⟩ ⟨hX0, hY0⟩ ?_
  go_frame
  refine late_take [] (i := 6) (some 52) rfl rfl rfl (by kernel_rfl) (by kernel_rfl) (by kernel_rfl) (by kernel_rfl) (by kernel_rfl) (fun Ls W h => h) (.string v) (fun _ _ _ h => h) (fun Ls W hl0 hW => exec_loadQ 9 qstr_flat (.tmp 51) rfl (.string v) rfl (hW.2.cell 2)) ⟨hX0, hY0⟩ ⟨hX0, hY0⟩ ?_
  go_frame
  refine late_take [] (i := 7) (some 53) rfl rfl rfl (by kernel_rfl) (by kernel_rfl) (by kernel_rfl) (by kernel_rfl) (by kernel_rfl) (fun Ls W h => h) (.string r) (fun _ _ _ h => h) (fun Ls W hl0 hW => exec_move (.tmp 10) rfl _ rfl) ⟨hX0, hY0⟩ ⟨hX0, hY0⟩ ?_
  go_frame
  refine late_one (i := 3) (by kernel_rfl) (op_call (some 49) rfl rfl rfl rfl Tryz.func78 (by kernel_rfl) (by kernel_rfl) #[.string N, .string r] rfl (F49.out u0) ?_)
  rintro e u1 ⟨rfl, hb1⟩
  have hX1 := hX0.next hb1
  have hY1 := hY0.next hb1
  have hZ1 := hZ0.next hb1
  have hW1 := hW0.trans (hb1.mono hW0.size)
  refine ⟨_, rfl, ⟨hX1, hY1⟩, ?_⟩
  go_frame
  clear hX0 hY0 hZ0 hW0 hb1
  refine late_one (i := 8) (by kernel_rfl) (op_call (some 54) rfl rfl rfl rfl Tryz.func78 (by kernel_rfl) (by kernel_rfl) #[.string v, .string r] rfl (F54.out u1) ?_)
  rintro e u2 ⟨rfl, hb2⟩
  have hX2 := hX1.next hb2
  have hY2 := hY1.next hb2
  have hZ2 := hZ1.next hb2
  have hW2 := hW1.trans (hb2.mono hW1.size)
  refine ⟨_, rfl, ⟨hX2, hY2⟩, ?_⟩
  go_frame
  clear hX1 hY1 hZ1 hW1 hb2
  refine late_one (i := 9) (by kernel_rfl) (op_call (some 55) rfl rfl rfl rfl Tryz.func77 (by kernel_rfl) (by kernel_rfl) #[.string m, .string v2] rfl (F55.out u2) ?_)
  rintro e u3 ⟨rfl, hb3⟩
  have hX3 := hX2.next hb3
  have hY3 := hY2.next hb3
  have hZ3 := hZ2.next hb3
  have hW3 := hW2.trans (hb3.mono hW2.size)
  refine ⟨_, rfl, ⟨hX3, hY3⟩, ?_⟩
  go_frame
  clear hX2 hY2 hZ2 hW2 hb3
  refine late_one (i := 10) (by kernel_rfl) (op_value (some 56) rfl rfl rfl (.agg #[.bool d, .string N2, .string D]) (exec_build3 47 (.tmp 46) (.tmp 49) (.tmp 55) rfl _ _ _ _ rfl rfl rfl (qf_build _ _ _ _)) ⟨⟨hX3, hY3⟩, ?_⟩)
  go_frame
  refine late_one (i := 11) (by kernel_rfl) (op_store_all rfl rfl rfl 47 (.tmp 4) (.tmp 56) rfl (w.heap.size + 1 + 1) _ qZ (q3 d N2 D) rfl rfl hZ3 rfl qf_size (q_one _ _ _) ?_)
  intro w9 hk9 ho9
  refine ⟨⟨ho9.blk hX3 (by omega), ho9.blk hY3 (by omega)⟩, late_done (by kernel_rfl) ?_ _⟩
  go_frame
  have HK9 := Lib.hid hk9
  have HO9 := Lib.hid ho9
  have HW := Lib.hid hW3
  clear hX3 hY3 hZ3 hW3 hk9 ho9
  go_wp2_with fail
  exact bodyPost_ret (results_blk rfl _ _ (w.heap.size + 1 + 1) _ (q3 d N2 D) _ rfl HK9.out Tryz.underlying47 rfl qf_size) rfl ⟨rfl, HW.out.trans (HO9.out.below (by omega))⟩
set_option maxRecDepth 100000 in
set_option maxHeartbeats 2000000 in
theorem times_zero1 (b c : Bool) (x y z v : ByteArray) (w : World) (hx : x = ⟨#[]⟩) : Calls Tryz.prog 45 #[.agg #[.bool b, .string x, .string y], .agg #[.bool c, .string z, .string v]] w fun e w' => e = .returned (.agg #[.bool false, .string ⟨#[]⟩, .string ⟨#[1]⟩]) ∧ Below w.heap.size w w' := by
  obtain ⟨W0, hW0, kx, ky, kz, kw⟩ := three_vars w 47 47 47 (q3 b x y) (q3 c z v) (q3 false ⟨#[]⟩ ⟨#[1]⟩)
  subst hW0
  have HZ := Lib.hid kz
  have HW := Lib.hid kw
  have H11 := Lib.hid (fun W => run_eqS x ⟨#[]⟩ true (decide_eq_true hx) W)
  clear hx
  clear kx ky kz kw
  go_enter Tryz.func45, Tryz.ntmps45
  go_wp2_with (first | (refine wpList_dst 11 rfl ?_; refine wpList_run 11 rfl rfl _ (exec_bin .eql 9 _ (.tmp 10) (.const (.string ⟨#[]⟩)) rfl _ _ _ rfl rfl rfl (H11.out _)) ?_) | (refine wpList_dst 17 rfl ?_; refine wpList_run 17 rfl rfl _ (exec_build1 47 2 (.const (.string ⟨#[1]⟩)) rfl _ _ rfl (qf_one _)) ?_))
  exact bodyPost_ret (results_blk rfl _ _ (w.heap.size + 1 + 1) _ (q3 false ⟨#[]⟩ ⟨#[1]⟩) _ rfl HZ.out Tryz.underlying47 rfl qf_size) rfl ⟨rfl, HW.out⟩
set_option maxRecDepth 100000 in
set_option maxHeartbeats 2000000 in
theorem times_zero2 (b c : Bool) (x y z v : ByteArray) (w : World) (hx : x ≠ ⟨#[]⟩) (hz : z = ⟨#[]⟩) : Calls Tryz.prog 45 #[.agg #[.bool b, .string x, .string y], .agg #[.bool c, .string z, .string v]] w fun e w' => e = .returned (.agg #[.bool false, .string ⟨#[]⟩, .string ⟨#[1]⟩]) ∧ Below w.heap.size w w' := by
  obtain ⟨W0, hW0, kx, ky, kz, kw⟩ := three_vars w 47 47 47 (q3 b x y) (q3 c z v) (q3 false ⟨#[]⟩ ⟨#[1]⟩)
  subst hW0
  have HZ := Lib.hid kz
  have HW := Lib.hid kw
  have H11 := Lib.hid (fun W => run_eqS x ⟨#[]⟩ false (decide_eq_false hx) W)
  have H15 := Lib.hid (fun W => run_eqS z ⟨#[]⟩ true (decide_eq_true hz) W)
  clear hx hz
  clear kx ky kz kw
  go_enter Tryz.func45, Tryz.ntmps45
  go_wp2_with (first | (refine wpList_dst 11 rfl ?_; refine wpList_run 11 rfl rfl _ (exec_bin .eql 9 _ (.tmp 10) (.const (.string ⟨#[]⟩)) rfl _ _ _ rfl rfl rfl (H11.out _)) ?_) | (refine wpList_dst 15 rfl ?_; refine wpList_runG 15 rfl rfl _ (exec_bin .eql 9 _ (.tmp 14) (.const (.string ⟨#[]⟩)) rfl _ _ _ rfl rfl rfl (H15.out _)) ?_) | (refine wpList_dst 17 rfl ?_; refine wpList_run 17 rfl rfl _ (exec_build1 47 2 (.const (.string ⟨#[1]⟩)) rfl _ _ rfl (qf_one _)) ?_))
  exact bodyPost_ret (results_blk rfl _ _ (w.heap.size + 1 + 1) _ (q3 false ⟨#[]⟩ ⟨#[1]⟩) _ rfl HZ.out Tryz.underlying47 rfl qf_size) rfl ⟨rfl, HW.out⟩
end Go.Proofs.YtpmlihhofmblpaaGreatDoor

/- Fractions: what the methods return, in rational numbers. -/
namespace Go.Proofs.YtpmlihhofmblpaaGreatDoor
open Go.RowKit Hm Wm Wn

/-- The parts of a number have at most so many bytes. -/
def Sz (k : Nat) (q : Rat) : Prop := (cS q.num.natAbs).size ≤ k ∧ (cS q.den).size ≤ k
theorem cS_le {n m k : Nat} (h : n ≤ m) (hm : (cS m).size ≤ k) : (cS n).size ≤ k := cS_less (x := cS m) (by rw [nB_cS]; exact h) hm
theorem cS_mulS {m n j k : Nat} (hm : (cS m).size ≤ j) (hn : (cS n).size ≤ k) : (cS (m * n)).size ≤ j + k := by
  have h := cS_prod (x := cS m) (y := cS n) hm hn
  rwa [nB_cS, nB_cS] at h
theorem cS_addS {m n k : Nat} (hm : (cS m).size ≤ k) (hn : (cS n).size ≤ k) : (cS (m + n)).size ≤ k + 1 := by
  have h := cS_sum (x := cS m) (y := cS n) hm hn
  rwa [nB_cS, nB_cS] at h
theorem one_cS : (⟨#[1]⟩ : ByteArray) = cS 1 := c1.symm
theorem fr_zero' : rv (fr 0) = .agg #[.bool false, .string ⟨#[]⟩, .string ⟨#[1]⟩] := by rw [fr_zero, c1]; rfl
theorem num_nil {q : Rat} (h : q ≠ 0) : cS q.num.natAbs ≠ ⟨#[]⟩ := fun e => num_ne h (by rw [← c0] at e; exact cS_inj e)
theorem sg_mulS (b : Bool) (k o : Nat) : sg b (k * o) = sg b k * (o : Int) := by
  cases b
  · show ((k * o : Nat) : Int) = (k : Int) * o; simp
  · show -((k * o : Nat) : Int) = -(k : Int) * o; simp [Int.neg_mul]
theorem sign_neg {z t : Int} (h : z.sign = t.sign) : decide (z < 0) = decide (t < 0) := by
  refine decide_eq_decide.2 ⟨fun hz => ?_, fun ht => ?_⟩
  · rw [Int.sign_eq_neg_one_of_neg hz] at h
    exact Int.neg_of_sign_eq_neg_one h.symm
  · rw [Int.sign_eq_neg_one_of_neg ht] at h
    exact Int.neg_of_sign_eq_neg_one h
set_option maxRecDepth 100000 in
theorem qinv_any (q : Rat) (w : World) (h : q ≠ 0) : Calls Tryz.prog 46 #[rv (fr q)] w fun e w' => e = .returned (rv (fr q⁻¹)) ∧ Below w.heap.size w w' := by
  have h1 := qinv_raw (decide (q.num < 0)) (cS q.num.natAbs) (cS q.den) w
  have h0 : q.num ≠ 0 := fun e => h (Rat.num_eq_zero.1 e)
  have e : fr q⁻¹ = ⟨decide (q.num < 0), cS q.den, cS q.num.natAbs⟩ := by
    refine fr_of ?_ ?_ ?_ ?_
    · rw [Rat.num_inv, Int.natAbs_mul, Int.natAbs_sign_of_ne_zero h0, Nat.one_mul, Int.natAbs_natCast]
    · rw [Rat.den_inv, if_neg h0]
    · intro _
      refine sign_neg ?_
      rw [Rat.num_inv, Int.sign_mul, Int.sign_sign, Int.sign_eq_one_of_pos (show (0 : Int) < (q.den : Int) from Int.ofNat_lt.2 q.den_pos), Int.mul_one]
    · intro e; exact absurd e q.den_nz
  rw [e]
  exact h1
set_option maxRecDepth 100000 in
theorem qratv_any (q : Rat) (w : World) : Calls Tryz.prog 37 #[rv (fr q)] w fun e w' => e = .returned (rv (rt q)) ∧ Below w.heap.size w w' := by
  by_cases h : q = 0
  · subst h
    rw [rt_zero]
    exact qrat_zero _ (cS 0) _ w c0
  · rw [show rt q = fr q by unfold rt; rw [if_neg h]]
    exact qrat_pos _ _ _ w (num_nil h)
set_option maxRecDepth 100000 in
theorem qneg_any (q : Rat) (w : World) : Calls Tryz.prog 48 #[rv (fr q)] w fun e w' => e = .returned (rv (fr (-q))) ∧ Below w.heap.size w w' := by
  have e : ∀ b, (q.num ≠ 0 → decide (-q.num < 0) = b) → (q.num = 0 → b = false) → fr (-q) = ⟨b, cS q.num.natAbs, cS q.den⟩ := fun b h1 h2 => by
    refine fr_of ?_ ?_ ?_ ?_
    · rw [Rat.neg_num, Int.natAbs_neg]
    · rw [Rat.neg_den]
    · intro h; rw [Rat.neg_num]; exact h1 fun e => h (by rw [e]; rfl)
    · intro h; exact h2 (Int.natAbs_eq_zero.1 h)
  by_cases hn : q.num < 0
  · rw [e false (fun _ => decide_eq_false (by omega)) (fun _ => rfl)]
    have h1 := qneg_neg (cS q.num.natAbs) (cS q.den) w
    unfold rv fr
    rw [decide_eq_true hn]
    exact h1
  · by_cases h0 : q.num = 0
    · rw [e false (fun h => absurd h0 h) (fun _ => rfl)]
      have h1 := qneg_zero (cS q.num.natAbs) (cS q.den) w (by rw [h0]; exact c0)
      unfold rv fr
      rw [decide_eq_false hn]
      exact h1
    · rw [e true (fun _ => decide_eq_true (by omega)) (fun h => absurd h h0)]
      have h1 := qneg_pos (cS q.num.natAbs) (cS q.den) w (num_nil fun e => h0 (Rat.num_eq_zero.2 e))
      unfold rv fr
      rw [decide_eq_false hn]
      exact h1
set_option maxRecDepth 100000 in
theorem qtimes_any (a b : Rat) (w : World) (ha : Sz 10000 a) (hb : Sz 10000 b) : Calls Tryz.prog 45 #[rv (fr a), rv (fr b)] w fun e w' => e = .returned (rv (fr (a * b))) ∧ Below w.heap.size w w' := by
  by_cases h1 : a = 0
  · subst h1
    rw [Rat.zero_mul, fr_zero']
    exact times_zero1 _ _ _ _ _ _ w rfl
  by_cases h2 : b = 0
  · subst h2
    rw [Rat.mul_zero, fr_zero']
    exact times_zero2 _ _ _ _ _ _ w (num_nil h1) rfl
  obtain ⟨f, hf⟩ : ∃ f, Nat.gcd a.num.natAbs b.den = f := ⟨_, rfl⟩
  obtain ⟨s, hs⟩ : ∃ s, Nat.gcd b.num.natAbs a.den = s := ⟨_, rfl⟩
  obtain ⟨m1, m2, m3⟩ := mul_parts a b hf hs
  have f0 : f ≠ 0 := by rw [← hf]; exact Nat.ne_of_gt (Nat.gcd_pos_of_pos_right _ b.den_pos)
  have s0 : s ≠ 0 := by rw [← hs]; exact Nat.ne_of_gt (Nat.gcd_pos_of_pos_right _ a.den_pos)
  have fz : (cS f).size ≤ 10000 := cS_le (by rw [← hf]; exact Nat.le_of_dvd b.den_pos (Nat.gcd_dvd_right _ _)) hb.2
  have sz : (cS s).size ≤ 10000 := cS_le (by rw [← hs]; exact Nat.le_of_dvd a.den_pos (Nat.gcd_dvd_right _ _)) ha.2
  have l1 := ha.1
  have l2 := ha.2
  have l3 := hb.1
  have l4 := hb.2
  have q1 : (cS (a.num.natAbs / f)).size ≤ 10000 := cS_le (Nat.div_le_self _ _) l1
  have q2 : (cS (b.num.natAbs / s)).size ≤ 10000 := cS_le (Nat.div_le_self _ _) l3
  have q3' : (cS (a.den / s)).size ≤ 10000 := cS_le (Nat.div_le_self _ _) l2
  have q4 : (cS (b.den / f)).size ≤ 10000 := cS_le (Nat.div_le_self _ _) l4
  have hr := times_raw (decide (a.num < 0)) (decide (b.num < 0)) _ (cS a.num.natAbs) (cS a.den) (cS b.num.natAbs) (cS b.den) (cS f) (cS s) _ _ _ _ _ _ w (num_nil h1) (num_nil h2) rfl
    (fun W => by rw [← hf]; exact qgcd_any _ _ W (by omega) (by omega)) (fun W => by rw [← hs]; exact qgcd_any _ _ W (by omega) (by omega))
    (fun W => qquot_any _ _ W (by omega) (by omega) f0) (fun W => qquot_any _ _ W (by omega) (by omega) s0) (fun W => qprod_any _ _ W (by omega) (by omega))
    (fun W => qquot_any _ _ W (by omega) (by omega) s0) (fun W => qquot_any _ _ W (by omega) (by omega) f0) (fun W => qprod_any _ _ W (by omega) (by omega))
  have e : fr (a * b) = ⟨(decide (a.num < 0) != decide (b.num < 0)), cS (a.num.natAbs / f * (b.num.natAbs / s)), cS (a.den / s * (b.den / f))⟩ := by
    have hne : (a * b).num ≠ 0 := fun e => by
      rcases Rat.mul_eq_zero.1 (Rat.num_eq_zero.1 e) with h | h
      · exact h1 h
      · exact h2 h
    refine fr_of m1 m3 (fun _ => ?_) (fun h => absurd (Int.natAbs_eq_zero.1 (m1.trans h)) hne)
    rw [show decide ((a * b).num < 0) = decide ((a.num * b.num) < 0) from sign_neg (by rw [m2, Int.sign_mul])]
    have na : a.num ≠ 0 := fun e => h1 (Rat.num_eq_zero.1 e)
    have nb : b.num ≠ 0 := fun e => h2 (Rat.num_eq_zero.1 e)
    by_cases pa : a.num < 0 <;> by_cases pb : b.num < 0
    · rw [decide_eq_true pa, decide_eq_true pb]; exact decide_eq_false (Int.not_lt.2 (Int.le_of_lt (Int.mul_pos_of_neg_of_neg pa pb)))
    · rw [decide_eq_true pa, decide_eq_false pb]; exact decide_eq_true (Int.mul_neg_of_neg_of_pos pa (by omega))
    · rw [decide_eq_false pa, decide_eq_true pb]; exact decide_eq_true (Int.mul_neg_of_pos_of_neg (by omega) pb)
    · rw [decide_eq_false pa, decide_eq_false pb]; exact decide_eq_false (Int.not_lt.2 (Int.le_of_lt (Int.mul_pos (by omega) (by omega))))
  rw [e]
  exact hr
set_option maxRecDepth 100000 in
theorem qplus_any (a b : Rat) (w : World) (ha : Sz 10000 a) (hb : Sz 10000 b) : Calls Tryz.prog 73 #[rv (fr a), rv (fr b)] w fun e w' => e = .returned (rv (fr (a + b))) ∧ Below w.heap.size w w' := by
  obtain ⟨g, hg⟩ : ∃ g, Nat.gcd a.den b.den = g := ⟨_, rfl⟩
  obtain ⟨m, hm⟩ : ∃ m, a.den / g = m := ⟨_, rfl⟩
  obtain ⟨o, ho⟩ : ∃ o, b.den / g = o := ⟨_, rfl⟩
  obtain ⟨X, hX⟩ : ∃ X, a.num * (o : Int) + b.num * (m : Int) = X := ⟨_, rfl⟩
  obtain ⟨r, hr⟩ : ∃ r, Nat.gcd X.natAbs g = r := ⟨_, rfl⟩
  obtain ⟨p1, p2, p3⟩ := add_parts a b hg hm ho hX hr
  have g0 : 0 < g := by rw [← hg]; exact Nat.gcd_pos_of_pos_left _ a.den_pos
  have r0 : r ≠ 0 := by rw [← hr]; exact Nat.ne_of_gt (Nat.gcd_pos_of_pos_right _ g0)
  have l1 := ha.1
  have l2 := ha.2
  have l3 := hb.1
  have l4 := hb.2
  have gz : (cS g).size ≤ 10000 := cS_le (by rw [← hg]; exact Nat.le_of_dvd a.den_pos (Nat.gcd_dvd_left _ _)) l2
  have mz : (cS m).size ≤ 10000 := cS_le (by rw [← hm]; exact Nat.div_le_self _ _) l2
  have oz : (cS o).size ≤ 10000 := cS_le (by rw [← ho]; exact Nat.div_le_self _ _) l4
  have pz : (cS (a.num.natAbs * o)).size ≤ 20000 := cS_mulS l1 oz
  have qz : (cS (b.num.natAbs * m)).size ≤ 20000 := cS_mulS l3 mz
  have eX : sg (decide (a.num < 0)) (a.num.natAbs * o) + sg (decide (b.num < 0)) (b.num.natAbs * m) = X := by rw [sg_mulS, sg_mulS, sg_of, sg_of, hX]
  have Xz : (cS X.natAbs).size ≤ 20001 := cS_le (by
    rw [← eX]
    refine Nat.le_trans (Int.natAbs_add_le _ _) ?_
    rw [sg_abs, sg_abs]
    exact Nat.le_refl _) (cS_addS pz qz)
  have h37 := fun W => qsum_any (decide (a.num < 0)) (decide (b.num < 0)) (a.num.natAbs * o) (b.num.natAbs * m) W (by omega) (by omega)
  rw [eX] at h37
  have rz : (cS r).size ≤ 10000 := cS_le (by rw [← hr]; exact Nat.le_of_dvd g0 (Nat.gcd_dvd_right _ _)) gz
  by_cases h0 : X = 0
  · have hab : a + b = 0 := Rat.num_eq_zero.1 (Int.natAbs_eq_zero.1 (by rw [p1, h0]; simp))
    rw [hab, fr_zero']
    refine plus_zero (decide (a.num < 0)) (decide (b.num < 0)) (cS a.num.natAbs) (cS a.den) (cS b.num.natAbs) (cS b.den) (cS g) (cS m) (cS o) _ _ w
      (fun W => by rw [← hg]; exact qgcd_any _ _ W (by omega) (by omega)) (fun W => by rw [← hm]; exact qquot_any _ _ W (by omega) (by omega) (Nat.ne_of_gt g0)) (fun W => by rw [← ho]; exact qquot_any _ _ W (by omega) (by omega) (Nat.ne_of_gt g0))
      (fun W => qprod_any _ _ W (by omega) (by omega)) (fun W => qprod_any _ _ W (by omega) (by omega)) (fun W => (h37 W).mono ?_)
    rintro e w' ⟨⟨d, k, hk, rfl⟩, hb'⟩
    have hk0 : k = 0 := by rw [← sg_abs d k, hk, h0]; rfl
    exact ⟨⟨d, by rw [hk0, c0]⟩, hb'⟩
  · have hr' := plus_pos (decide (a.num < 0)) (decide (b.num < 0)) (decide (X < 0)) (cS a.num.natAbs) (cS a.den) (cS b.num.natAbs) (cS b.den) (cS g) (cS m) (cS o) _ _ (cS X.natAbs) (cS r) _ _ _ w
      (fun W => by rw [← hg]; exact qgcd_any _ _ W (by omega) (by omega)) (fun W => by rw [← hm]; exact qquot_any _ _ W (by omega) (by omega) (Nat.ne_of_gt g0)) (fun W => by rw [← ho]; exact qquot_any _ _ W (by omega) (by omega) (Nat.ne_of_gt g0))
      (fun W => qprod_any _ _ W (by omega) (by omega)) (fun W => qprod_any _ _ W (by omega) (by omega))
      (fun W => by rw [← hr]; exact qgcd_any _ _ W (by omega) (by omega)) (fun W => qquot_any _ _ W (by omega) (by omega) r0) (fun W => qquot_any _ _ W (by omega) (by omega) r0)
      (fun W => qprod_any _ _ W (by omega) (cS_le (Nat.div_le_self _ _) (by omega)))
      (fun W => (h37 W).mono fun e w' ⟨⟨d, k, hk, he⟩, hb'⟩ => ⟨by
        have hka : k = X.natAbs := by rw [← hk, sg_abs]
        have hk0 : k ≠ 0 := fun e0 => h0 (Int.natAbs_eq_zero.1 (by rw [← hka, e0]))
        rw [he, hka, ← hk, sg_neg d hk0, hk], hb'⟩)
      (fun e => h0 (Int.natAbs_eq_zero.1 (by rw [← c0] at e; exact cS_inj e)))
    rw [fr_of p1 p3 (fun _ => sign_neg p2) (fun hz => ?_)]
    · exact hr'
    · exfalso
      have h5 : (a + b).num = 0 := Int.natAbs_eq_zero.1 (p1.trans hz)
      rw [h5] at p2
      exact h0 (Int.sign_eq_zero_iff_zero.1 p2.symm)
end Go.Proofs.YtpmlihhofmblpaaGreatDoor

/- Valid and read. -/
namespace Go.Proofs.YtpmlihhofmblpaaGreatDoor
open Go.RowKit Hm Wm Wn

theorem toL_iff (x z : ByteArray) : x.toList = z.toList ↔ x = z := by
  rw [Lib.toList_data, Lib.toList_data]
  refine ⟨fun e => ?_, fun e => by rw [e]⟩
  cases x
  cases z
  simpa using e
theorem run_eqR (b c : Bool) (x y z v : ByteArray) (W : World) : (binOp .eql 26 (.agg #[.bool b, .string x, .string y]) (.agg #[.bool c, .string z, .string v])).run Tryz.prog W = .ok (.bool (decide (b = c ∧ x = z ∧ y = v))) W := by
  have u1 := Tryz.underlying4
  have u2 := Tryz.underlying9
  have a1 := Tryz.isAgg4
  have a2 := Tryz.isAgg9
  have z1 := Tryz.sizeOf4
  have z2 := Tryz.sizeOf9
  have hS : Tryz.prog.underlying 26 = some (.struct (Tryz.prog.fieldsOf 26)) := by kernel_rfl
  have hp : Tryz.prog.stoodInHeld 26 = false := by kernel_rfl
  rw [run_eql_struct, show (10000 : Nat) = 9999 + 1 from rfl, run_equalIn_agg W 9999 26 _ _ hS hp]
  simp only [Program.fieldsOf, Tryz.underlying26]
  go_simp
  simp only [toL_iff]
  by_cases h1 : b = c <;> by_cases h2 : x = z <;> by_cases h3 : y = v <;> simp [h1, h2, h3]
theorem rat_guard (W : World) (x y : Operand) (xs ys : Array Value) : (eqGuard .eql 26 x y (.agg xs) (.agg ys)).run Tryz.prog W = .ok () W := run_eqGuard_agg W .eql _ x y xs ys (by kernel_rfl)

/-- Whether a number is valid. -/
def okB (x : Rv) : Bool := decide (x.neg = false ∧ x.n = ⟨#[]⟩ ∧ x.d = ⟨#[]⟩) || (decide (x.n ≠ ⟨#[]⟩) && decide (x.d ≠ ⟨#[]⟩) && validB x.n && validB x.d && decide (Nat.gcd (nB x.n) (nB x.d) = 1))
theorem valid_cS {s : ByteArray} (h : validB s = true) : cS (nB s) = s := by
  refine cS_of (s := s) ?_
  unfold validB at h
  unfold CanB
  cases hl : s.data.toList with
  | nil => simp
  | cons b r =>
    rw [hl] at h
    simpa using h
set_option maxRecDepth 100000 in
set_option maxHeartbeats 2000000 in
theorem val_zero (b : Bool) (x y : ByteArray) (w : World) (h0 : decide (b = false ∧ x = ⟨#[]⟩ ∧ y = ⟨#[]⟩) = true) : Calls Tryz.prog 24 #[.agg #[.bool b, .string x, .string y]] w fun e w' => e = .returned (.bool true) ∧ Below w.heap.size w w' := by
  have HB := Lib.hid ((Below.refl w.heap.size w).alloc (Nat.le_refl _) (.cells (q3 b x y).toArray 26))
  have H5 := Lib.hid (fun W => by have h5 := run_eqR b false x y ⟨#[]⟩ ⟨#[]⟩ W; rw [h0] at h5; exact h5)
  clear h0
  go_enter Tryz.func24, Tryz.ntmps24
  go_wp2_with (first | (refine wpList_dst 5 rfl ?_; refine wpList_run 5 rfl rfl _ (exec_bin .eql 26 _ (.tmp 3) (.tmp 4) rfl _ _ _ rfl rfl (rat_guard _ _ _ _ _) (H5.out _)) ?_))
  go_ret
  exact ⟨rfl, HB.out⟩
set_option maxRecDepth 100000 in
set_option maxHeartbeats 2000000 in
theorem val_n (b : Bool) (x y : ByteArray) (w : World) (h0 : decide (b = false ∧ x = ⟨#[]⟩ ∧ y = ⟨#[]⟩) = false) (hx : decide (x ≠ ⟨#[]⟩) = false) : Calls Tryz.prog 24 #[.agg #[.bool b, .string x, .string y]] w fun e w' => e = .returned (.bool false) ∧ Below w.heap.size w w' := by
  have HB := Lib.hid ((Below.refl w.heap.size w).alloc (Nat.le_refl _) (.cells (q3 b x y).toArray 26))
  have H5 := Lib.hid (fun W => by have h5 := run_eqR b false x y ⟨#[]⟩ ⟨#[]⟩ W; rw [h0] at h5; exact h5)
  have H8 := Lib.hid (fun W => run_neqQ x ⟨#[]⟩ false hx W)
  clear h0 hx
  go_enter Tryz.func24, Tryz.ntmps24
  go_wp2_with (first | (refine wpList_dst 5 rfl ?_; refine wpList_run 5 rfl rfl _ (exec_bin .eql 26 _ (.tmp 3) (.tmp 4) rfl _ _ _ rfl rfl (rat_guard _ _ _ _ _) (H5.out _)) ?_) | (refine wpList_dst 8 rfl ?_; refine wpList_run 8 rfl rfl _ (exec_bin .neq 9 _ (.tmp 7) (.const (.string ⟨#[]⟩)) rfl _ _ _ rfl rfl rfl (H8.out _)) ?_))
  go_ret
  exact ⟨rfl, HB.out⟩
set_option maxRecDepth 100000 in
set_option maxHeartbeats 2000000 in
theorem val_d (b : Bool) (x y : ByteArray) (w : World) (h0 : decide (b = false ∧ x = ⟨#[]⟩ ∧ y = ⟨#[]⟩) = false) (hx : decide (x ≠ ⟨#[]⟩) = true) (hy : decide (y ≠ ⟨#[]⟩) = false) : Calls Tryz.prog 24 #[.agg #[.bool b, .string x, .string y]] w fun e w' => e = .returned (.bool false) ∧ Below w.heap.size w w' := by
  have HB := Lib.hid ((Below.refl w.heap.size w).alloc (Nat.le_refl _) (.cells (q3 b x y).toArray 26))
  have H5 := Lib.hid (fun W => by have h5 := run_eqR b false x y ⟨#[]⟩ ⟨#[]⟩ W; rw [h0] at h5; exact h5)
  have H8 := Lib.hid (fun W => run_neqQ x ⟨#[]⟩ true hx W)
  have H12 := Lib.hid (fun W => run_neqQ y ⟨#[]⟩ false hy W)
  clear h0 hx hy
  go_enter Tryz.func24, Tryz.ntmps24
  go_wp2_with (first | (refine wpList_dst 5 rfl ?_; refine wpList_run 5 rfl rfl _ (exec_bin .eql 26 _ (.tmp 3) (.tmp 4) rfl _ _ _ rfl rfl (rat_guard _ _ _ _ _) (H5.out _)) ?_) | (refine wpList_dst 8 rfl ?_; refine wpList_run 8 rfl rfl _ (exec_bin .neq 9 _ (.tmp 7) (.const (.string ⟨#[]⟩)) rfl _ _ _ rfl rfl rfl (H8.out _)) ?_) | (refine wpList_dst 12 rfl ?_; refine wpList_runG 12 rfl rfl _ (exec_bin .neq 9 _ (.tmp 11) (.const (.string ⟨#[]⟩)) rfl _ _ _ rfl rfl rfl (H12.out _)) ?_))
  go_ret
  exact ⟨rfl, HB.out⟩
set_option maxRecDepth 100000 in
set_option maxHeartbeats 2000000 in
theorem val_v1 (b : Bool) (x y : ByteArray) (w : World) (h0 : decide (b = false ∧ x = ⟨#[]⟩ ∧ y = ⟨#[]⟩) = false) (hx : decide (x ≠ ⟨#[]⟩) = true) (hy : decide (y ≠ ⟨#[]⟩) = true) (v1 : validB x = false) : Calls Tryz.prog 24 #[.agg #[.bool b, .string x, .string y]] w fun e w' => e = .returned (.bool false) ∧ Below w.heap.size w w' := by
  have HB := Lib.hid ((Below.refl w.heap.size w).alloc (Nat.le_refl _) (.cells (q3 b x y).toArray 26))
  have H5 := Lib.hid (fun W => by have h5 := run_eqR b false x y ⟨#[]⟩ ⟨#[]⟩ W; rw [h0] at h5; exact h5)
  have H8 := Lib.hid (fun W => run_neqQ x ⟨#[]⟩ true hx W)
  have H12 := Lib.hid (fun W => run_neqQ y ⟨#[]⟩ true hy W)
  have F17 := Lib.hid (fun W => valid_any x W)
  rw [v1] at F17
  clear h0 hx hy v1
  go_enter Tryz.func24, Tryz.ntmps24
  go_wp2_with (first | (refine wpList_dst 5 rfl ?_; refine wpList_run 5 rfl rfl _ (exec_bin .eql 26 _ (.tmp 3) (.tmp 4) rfl _ _ _ rfl rfl (rat_guard _ _ _ _ _) (H5.out _)) ?_) | (refine wpList_dst 8 rfl ?_; refine wpList_run 8 rfl rfl _ (exec_bin .neq 9 _ (.tmp 7) (.const (.string ⟨#[]⟩)) rfl _ _ _ rfl rfl rfl (H8.out _)) ?_) | (refine wpList_dst 12 rfl ?_; refine wpList_runG 12 rfl rfl _ (exec_bin .neq 9 _ (.tmp 11) (.const (.string ⟨#[]⟩)) rfl _ _ _ rfl rfl rfl (H12.out _)) ?_))
  refine (F17.out _).mono ?_
  rintro e wx ⟨rfl, hw⟩
  subst hw
  go_wp2
  go_ret
  exact ⟨rfl, HB.out⟩
set_option maxRecDepth 100000 in
set_option maxHeartbeats 2000000 in
theorem val_v2 (b : Bool) (x y : ByteArray) (w : World) (h0 : decide (b = false ∧ x = ⟨#[]⟩ ∧ y = ⟨#[]⟩) = false) (hx : decide (x ≠ ⟨#[]⟩) = true) (hy : decide (y ≠ ⟨#[]⟩) = true) (v1 : validB x = true) (v2 : validB y = false) : Calls Tryz.prog 24 #[.agg #[.bool b, .string x, .string y]] w fun e w' => e = .returned (.bool false) ∧ Below w.heap.size w w' := by
  have HB := Lib.hid ((Below.refl w.heap.size w).alloc (Nat.le_refl _) (.cells (q3 b x y).toArray 26))
  have H5 := Lib.hid (fun W => by have h5 := run_eqR b false x y ⟨#[]⟩ ⟨#[]⟩ W; rw [h0] at h5; exact h5)
  have H8 := Lib.hid (fun W => run_neqQ x ⟨#[]⟩ true hx W)
  have H12 := Lib.hid (fun W => run_neqQ y ⟨#[]⟩ true hy W)
  have F17 := Lib.hid (fun W => valid_any x W)
  have F22 := Lib.hid (fun W => valid_any y W)
  rw [v1] at F17
  rw [v2] at F22
  clear h0 hx hy v1 v2
  go_enter Tryz.func24, Tryz.ntmps24
  go_wp2_with (first | (refine wpList_dst 5 rfl ?_; refine wpList_run 5 rfl rfl _ (exec_bin .eql 26 _ (.tmp 3) (.tmp 4) rfl _ _ _ rfl rfl (rat_guard _ _ _ _ _) (H5.out _)) ?_) | (refine wpList_dst 8 rfl ?_; refine wpList_run 8 rfl rfl _ (exec_bin .neq 9 _ (.tmp 7) (.const (.string ⟨#[]⟩)) rfl _ _ _ rfl rfl rfl (H8.out _)) ?_) | (refine wpList_dst 12 rfl ?_; refine wpList_runG 12 rfl rfl _ (exec_bin .neq 9 _ (.tmp 11) (.const (.string ⟨#[]⟩)) rfl _ _ _ rfl rfl rfl (H12.out _)) ?_))
  refine (F17.out _).mono ?_
  rintro e wx ⟨rfl, hw⟩
  subst hw
  go_wp2_with fail
  refine (F22.out _).mono ?_
  rintro e wx ⟨rfl, hw⟩
  subst hw
  go_wp2
  go_ret
  exact ⟨rfl, HB.out⟩
set_option maxRecDepth 100000 in
set_option maxHeartbeats 2000000 in
theorem val_g (b : Bool) (x y : ByteArray) (w : World) (h0 : decide (b = false ∧ x = ⟨#[]⟩ ∧ y = ⟨#[]⟩) = false) (hx : decide (x ≠ ⟨#[]⟩) = true) (hy : decide (y ≠ ⟨#[]⟩) = true) (v1 : validB x = true) (v2 : validB y = true) (sx : x.size ≤ 10000) (sy : y.size ≤ 10000) : Calls Tryz.prog 24 #[.agg #[.bool b, .string x, .string y]] w fun e w' => e = .returned (.bool (decide (Nat.gcd (nB x) (nB y) = 1))) ∧ Below w.heap.size w w' := by
  have HB := Lib.hid ((Below.refl w.heap.size w).alloc (Nat.le_refl _) (.cells (q3 b x y).toArray 26))
  have H5 := Lib.hid (fun W => by have h5 := run_eqR b false x y ⟨#[]⟩ ⟨#[]⟩ W; rw [h0] at h5; exact h5)
  have H8 := Lib.hid (fun W => run_neqQ x ⟨#[]⟩ true hx W)
  have H12 := Lib.hid (fun W => run_neqQ y ⟨#[]⟩ true hy W)
  have F17 := Lib.hid (fun W => valid_any x W)
  have F22 := Lib.hid (fun W => valid_any y W)
  have hg := fun W => qgcd_any (nB x) (nB y) W (by rw [valid_cS v1]; omega) (by rw [valid_cS v2]; omega)
  rw [valid_cS v1, valid_cS v2] at hg
  have F29 := Lib.hid hg
  have H30 := Lib.hid (fun W => run_eqS (cS (Nat.gcd (nB x) (nB y))) ⟨#[1]⟩ _ (one_dec (Nat.gcd (nB x) (nB y)) _ rfl) W)
  rw [v1] at F17
  rw [v2] at F22
  generalize decide (Nat.gcd (nB x) (nB y) = 1) = r at *
  generalize cS (Nat.gcd (nB x) (nB y)) = G at *
  clear h0 hx hy v1 v2 hg sx sy
  go_enter Tryz.func24, Tryz.ntmps24
  go_wp2_with (first | (refine wpList_dst 5 rfl ?_; refine wpList_run 5 rfl rfl _ (exec_bin .eql 26 _ (.tmp 3) (.tmp 4) rfl _ _ _ rfl rfl (rat_guard _ _ _ _ _) (H5.out _)) ?_) | (refine wpList_dst 8 rfl ?_; refine wpList_run 8 rfl rfl _ (exec_bin .neq 9 _ (.tmp 7) (.const (.string ⟨#[]⟩)) rfl _ _ _ rfl rfl rfl (H8.out _)) ?_) | (refine wpList_dst 12 rfl ?_; refine wpList_runG 12 rfl rfl _ (exec_bin .neq 9 _ (.tmp 11) (.const (.string ⟨#[]⟩)) rfl _ _ _ rfl rfl rfl (H12.out _)) ?_))
  refine (F17.out _).mono ?_
  rintro e wx ⟨rfl, hw⟩
  subst hw
  go_wp2_with fail
  refine (F22.out _).mono ?_
  rintro e wx ⟨rfl, hw⟩
  subst hw
  go_wp2_with fail
  refine (F29.out _).mono ?_
  rintro e w1 ⟨rfl, hb⟩
  have HB1 := Lib.hid (HB.out.trans (hb.mono HB.out.size))
  clear hb HB
  go_wp2_with (first | (refine wpList_dst 30 rfl ?_; refine wpList_runG 30 rfl rfl _ (exec_bin .eql 9 _ (.tmp 29) (.const (.string ⟨#[1]⟩)) rfl _ _ _ rfl rfl rfl (H30.out _)) ?_))
  go_ret
  exact ⟨rfl, HB1.out⟩
/-- Valid. -/
theorem qvalid_any (x : Rv) (w : World) (sx : x.n.size ≤ 10000) (sy : x.d.size ≤ 10000) : Calls Tryz.prog 24 #[rv x] w fun e w' => e = .returned (.bool (okB x)) ∧ Below w.heap.size w w' := by
  obtain ⟨b, n, d⟩ := x
  unfold okB rv
  simp only at sx sy ⊢
  cases h0 : decide (b = false ∧ n = ⟨#[]⟩ ∧ d = ⟨#[]⟩)
  · cases hx : decide (n ≠ ⟨#[]⟩)
    · exact val_n b n d w h0 hx
    · cases hy : decide (d ≠ ⟨#[]⟩)
      · exact val_d b n d w h0 hx hy
      · cases v1 : validB n
        · exact val_v1 b n d w h0 hx hy v1
        · cases v2 : validB d
          · exact val_v2 b n d w h0 hx hy v1 v2
          · exact val_g b n d w h0 hx hy v1 v2 sx sy
  · exact val_zero b n d w h0
end Go.Proofs.YtpmlihhofmblpaaGreatDoor

/- read: a number as a fraction. -/
namespace Go.Proofs.YtpmlihhofmblpaaGreatDoor
open Go.RowKit Hm Wm Wn

theorem okB_iff (x : Rv) (hn : x.n ≠ ⟨#[]⟩) : okB x = true ↔ okQ x := by
  unfold okB okQ
  rw [decide_eq_false (p := x.neg = false ∧ x.n = ⟨#[]⟩ ∧ x.d = ⟨#[]⟩) (fun h => hn h.2.1), decide_eq_true (p := x.n ≠ ⟨#[]⟩) hn]
  simp only [Bool.false_or, Bool.true_and, Bool.and_eq_true, decide_eq_true_eq]
  constructor
  · rintro ⟨⟨⟨h1, h2⟩, h3⟩, h4⟩
    refine ⟨fun e => hn ?_, fun e => h1 ?_, valid_cS h2, valid_cS h3, h4⟩
    · rw [← valid_cS h2, e, c0]
    · rw [← valid_cS h3, e, c0]
  · rintro ⟨h1, h2, h3, h4, h5⟩
    refine ⟨⟨⟨fun e => h2 ?_, ?_⟩, ?_⟩, h5⟩
    · rw [e, qnil]
    · rw [← h3]; exact validB_cS _
    · rw [← h4]; exact validB_cS _
set_option maxRecDepth 100000 in
set_option maxHeartbeats 600000 in
theorem read_nil (b : Bool) (x y : ByteArray) (w : World) (h : x = ⟨#[]⟩) : Calls Tryz.prog 26 #[.agg #[.bool b, .string x, .string y]] w fun e w' => e = .returned (.agg #[.bool false, .string ⟨#[]⟩, .string ⟨#[1]⟩]) ∧ Below w.heap.size w w' := by
  have HK := Lib.hid (two_vars w 26 47 (q3 b x y) (q3 false ⟨#[]⟩ ⟨#[1]⟩))
  have H5 := Lib.hid (fun W => run_eqS x ⟨#[]⟩ true (decide_eq_true h) W)
  clear h
  go_enter Tryz.func26, Tryz.ntmps26
  go_wp2_with (first | (refine wpList_dst 5 rfl ?_; refine wpList_run 5 rfl rfl _ (exec_bin .eql 9 _ (.tmp 4) (.const (.string ⟨#[]⟩)) rfl _ _ _ rfl rfl rfl (H5.out _)) ?_) | (refine wpList_dst 11 rfl ?_; refine wpList_run 11 rfl rfl _ (exec_build1 47 2 (.const (.string ⟨#[1]⟩)) rfl _ _ rfl (qf_one _)) ?_))
  exact bodyPost_ret (results_blk rfl _ _ (w.heap.size + 1) _ (q3 false ⟨#[]⟩ ⟨#[1]⟩) _ rfl HK.out.2.1 Tryz.underlying47 rfl qf_size) rfl ⟨rfl, HK.out.2.2⟩
set_option maxRecDepth 100000 in
set_option maxHeartbeats 600000 in
theorem read_bad (b : Bool) (x y : ByteArray) (w : World) (h : x ≠ ⟨#[]⟩) (hv : ∀ W, Calls Tryz.prog 24 #[.agg #[.bool b, .string x, .string y]] W fun e w' => e = .returned (.bool false) ∧ Below W.heap.size W w') : Calls Tryz.prog 26 #[.agg #[.bool b, .string x, .string y]] w fun e w' => e = .returned (.agg #[.bool false, .string ⟨#[]⟩, .string ⟨#[1]⟩]) ∧ Below w.heap.size w w' := by
  have HK := two_vars w 26 47 (q3 b x y) qZ
  have HX := Lib.hid HK.1
  have HZ := Lib.hid HK.2.1
  have HW := Lib.hid HK.2.2
  have H5 := Lib.hid (fun W => run_eqS x ⟨#[]⟩ false (decide_eq_false h) W)
  have F8 := Lib.hid hv
  clear h hv HK
  go_enter Tryz.func26, Tryz.ntmps26
  go_wp2_with (first | (refine wpList_dst 5 rfl ?_; refine wpList_run 5 rfl rfl _ (exec_bin .eql 9 _ (.tmp 4) (.const (.string ⟨#[]⟩)) rfl _ _ _ rfl rfl rfl (H5.out _)) ?_))
  refine (F8.out _).mono ?_
  rintro e w1 ⟨rfl, hb⟩
  replace HX := Lib.hid (HX.out.next hb)
  replace HZ := Lib.hid (HZ.out.next hb)
  replace HW := Lib.hid (HW.out.trans (hb.mono HW.out.size))
  clear hb
  go_wp2_with (first | (refine wpList_dst 11 rfl ?_; refine wpList_run 11 rfl rfl _ (exec_build1 47 2 (.const (.string ⟨#[1]⟩)) rfl _ _ rfl (qf_one _)) ?_) | (refine wpList_store_all rfl 47 (.tmp 2) (.tmp 11) rfl (w.heap.size + 1) _ qZ (q3 false ⟨#[]⟩ ⟨#[1]⟩) rfl rfl HZ.out rfl qf_size (q_one _ _ _) ?_; intro w9 HK9 ho9; have HO9 := Lib.hid ho9; clear ho9))
  exact bodyPost_ret (results_blk rfl _ _ (w.heap.size + 1) _ (q3 false ⟨#[]⟩ ⟨#[1]⟩) _ rfl HK9.out Tryz.underlying47 rfl qf_size) rfl ⟨rfl, HW.out.trans (HO9.out.below (by omega))⟩
set_option maxRecDepth 100000 in
set_option maxHeartbeats 600000 in
theorem read_good (b : Bool) (x y : ByteArray) (w : World) (h : x ≠ ⟨#[]⟩) (hv : ∀ W, Calls Tryz.prog 24 #[.agg #[.bool b, .string x, .string y]] W fun e w' => e = .returned (.bool true) ∧ Below W.heap.size W w') : Calls Tryz.prog 26 #[.agg #[.bool b, .string x, .string y]] w fun e w' => e = .returned (.agg #[.bool b, .string x, .string y]) ∧ Below w.heap.size w w' := by
  have HK := two_vars w 26 47 (q3 b x y) qZ
  have HX := Lib.hid HK.1
  have HZ := Lib.hid HK.2.1
  have HW := Lib.hid HK.2.2
  have H5 := Lib.hid (fun W => run_eqS x ⟨#[]⟩ false (decide_eq_false h) W)
  have F8 := Lib.hid hv
  clear h hv HK
  go_enter Tryz.func26, Tryz.ntmps26
  go_wp2_with (first | (refine wpList_dst 5 rfl ?_; refine wpList_run 5 rfl rfl _ (exec_bin .eql 9 _ (.tmp 4) (.const (.string ⟨#[]⟩)) rfl _ _ _ rfl rfl rfl (H5.out _)) ?_))
  refine (F8.out _).mono ?_
  rintro e w1 ⟨rfl, hb⟩
  replace HX := Lib.hid (HX.out.next hb)
  replace HZ := Lib.hid (HZ.out.next hb)
  replace HW := Lib.hid (HW.out.trans (hb.mono HW.out.size))
  clear hb
  go_wp2_with (first | (refine wpList_dst 12 rfl ?_; refine wpList_run 12 rfl rfl _ (exec_fieldAddr 26 (.tmp 1) 0 rfl _ _ rfl (qr_f0 _ _)) ?_; go_frame) | (refine wpList_dst 13 rfl ?_; refine wpList_run 13 rfl rfl _ (exec_loadQ 4 qbool_flat (.tmp 12) rfl (.bool b) rfl (HX.out.cell 0)) ?_; go_frame) | (refine wpList_dst 14 rfl ?_; refine wpList_run 14 rfl rfl _ (exec_fieldAddr 26 (.tmp 1) 1 rfl _ _ rfl (qr_f1 _ _)) ?_; go_frame) | (refine wpList_dst 15 rfl ?_; refine wpList_run 15 rfl rfl _ (exec_loadQ 9 qstr_flat (.tmp 14) rfl (.string x) rfl (HX.out.cell 1)) ?_; go_frame) | (refine wpList_dst 16 rfl ?_; refine wpList_run 16 rfl rfl _ (exec_fieldAddr 26 (.tmp 1) 2 rfl _ _ rfl (qr_f2 _ _)) ?_; go_frame) | (refine wpList_dst 17 rfl ?_; refine wpList_run 17 rfl rfl _ (exec_loadQ 9 qstr_flat (.tmp 16) rfl (.string y) rfl (HX.out.cell 2)) ?_; go_frame) | (refine wpList_store_all rfl 47 (.tmp 2) (.tmp 18) rfl (w.heap.size + 1) _ qZ (q3 b x y) rfl rfl HZ.out rfl qf_size (q_one _ _ _) ?_; intro w9 HK9 ho9; have HO9 := Lib.hid ho9; clear ho9))
  exact bodyPost_ret (results_blk rfl _ _ (w.heap.size + 1) _ (q3 b x y) _ rfl HK9.out Tryz.underlying47 rfl qf_size) rfl ⟨rfl, HW.out.trans (HO9.out.below (by omega))⟩
/-- read. -/
theorem read_q (x : Rv) (w : World) (sx : x.n.size ≤ 10000) (sy : x.d.size ≤ 10000) : Calls Tryz.prog 26 #[rv x] w fun e w' => e = .returned (rv (fr (valR x))) ∧ Below w.heap.size w w' := by
  by_cases hn : x.n = ⟨#[]⟩
  · rw [val_no fun h => h.1 (by rw [hn, qnil]), fr_zero']
    exact read_nil _ _ _ w hn
  · have hv := fun W => qvalid_any x W sx sy
    cases hb : okB x
    · rw [hb] at hv
      rw [val_no fun h => (by rw [(okB_iff x hn).2 h] at hb; cases hb), fr_zero']
      exact read_bad _ _ _ w hn hv
    · rw [hb] at hv
      rw [fr_val ((okB_iff x hn).1 hb)]
      exact read_good _ _ _ w hn hv
end Go.Proofs.YtpmlihhofmblpaaGreatDoor

/- Fractions: the order. -/
namespace Go.Proofs.YtpmlihhofmblpaaGreatDoor
open Go.RowKit Hm Wm Wn

set_option maxRecDepth 100000 in
set_option maxHeartbeats 2000000 in
theorem qcmp_less (x y z v : ByteArray) (w : World) : Calls Tryz.prog 49 #[.agg #[.bool true, .string x, .string y], .agg #[.bool false, .string z, .string v]] w fun e w' => e = .returned (.int .i64 (-1)) ∧ Below w.heap.size w w' := by
  have HK := Lib.hid (two_vars w 47 47 (q3 true x y) (q3 false z v))
  go_enter Tryz.func49, Tryz.ntmps49
  go_wp2
  go_ret
  exact ⟨rfl, HK.out.2.2⟩
set_option maxRecDepth 100000 in
set_option maxHeartbeats 2000000 in
theorem qcmp_more (x y z v : ByteArray) (w : World) : Calls Tryz.prog 49 #[.agg #[.bool false, .string x, .string y], .agg #[.bool true, .string z, .string v]] w fun e w' => e = .returned (.int .i64 1) ∧ Below w.heap.size w w' := by
  have HK := Lib.hid (two_vars w 47 47 (q3 false x y) (q3 true z v))
  go_enter Tryz.func49, Tryz.ntmps49
  go_wp2
  go_ret
  exact ⟨rfl, HK.out.2.2⟩
set_option maxRecDepth 100000 in
set_option maxHeartbeats 2000000 in
theorem qcmp_pos (x y z v p q : ByteArray) (k : Int) (w : World) (h27 : (∀ W, Calls Tryz.prog 77 #[.string x, .string v] W fun e w' => e = .returned (.string p) ∧ Below W.heap.size W w')) (h32 : (∀ W, Calls Tryz.prog 77 #[.string z, .string y] W fun e w' => e = .returned (.string q) ∧ Below W.heap.size W w')) (h33 : ∀ W, Calls Tryz.prog 82 #[.string p, .string q] W fun e w' => e = .returned (.int .i64 k) ∧ Below W.heap.size W w') :
    Calls Tryz.prog 49 #[.agg #[.bool false, .string x, .string y], .agg #[.bool false, .string z, .string v]] w fun e w' => e = .returned (.int .i64 k) ∧ Below w.heap.size w w' := by
  obtain ⟨W0, hW0⟩ : ∃ W, W = ((w.alloc (.cells (q3 false x y).toArray 47)).alloc (.cells (q3 false z v).toArray 47)) := ⟨_, rfl⟩
  have HK := two_vars w 47 47 (q3 false x y) (q3 false z v)
  rw [← hW0] at HK
  have HX := Lib.hid HK.1
  have HY := Lib.hid HK.2.1
  have HZ := Lib.hid HK.1
  have HW := Lib.hid HK.2.2
  have F27 := Lib.hid h27
  have F32 := Lib.hid h32
  have F33 := Lib.hid h33
  clear HK h27 h32 h33
  go_enter Tryz.func49, Tryz.ntmps49
  go_wp2_with fail
  rw [← hW0]
  clear hW0
  refine late_begin (S := fun _ W => Blk W w.heap.size 47 (q3 false x y) ∧ Blk W (w.heap.size + 1) 47 (q3 false z v)) (by kernel_rfl) ?_
  have hX0 := HX.out.drew
  have hY0 := HY.out.drew
  have hZ0 := HZ.out.drew
  have hW0 := HW.out.drew
  generalize W0.drew = u0 at hX0 hY0 hZ0 hW0 ⊢
  clear HX HY HZ HW
  refine late_take [] (i := 0) (some 23) rfl rfl rfl (by kernel_rfl) (by kernel_rfl) (by kernel_rfl) (by kernel_rfl) (by kernel_rfl) (fun Ls W h => h) (.pointer (some ⟨w.heap.size, 1, none⟩)) (fun _ _ _ h => h) (fun Ls W hl0 hW => exec_fieldAddr 47 (.tmp 2) 1 rfl _ _ rfl (qf_f1 _ _)) ⟨hX0, hY0⟩ ⟨hX0, hY0⟩ ?_
  go_frame
  refine late_take [] (i := 1) (some 24) rfl rfl rfl (by kernel_rfl) (by kernel_rfl) (by kernel_rfl) (by kernel_rfl) (by kernel_rfl) (fun Ls W h => h) (.string x) (fun _ _ _ h => h) (fun Ls W hl0 hW => exec_loadQ 9 qstr_flat (.tmp 23) rfl (.string x) rfl (hW.1.cell 1)) ⟨hX0, hY0⟩ ⟨hX0, hY0⟩ ?_
  go_frame
  refine late_take [] (i := 2) (some 25) rfl rfl rfl (by kernel_rfl) (by kernel_rfl) (by kernel_rfl) (by kernel_rfl) (by kernel_rfl) (fun Ls W h => h) (.pointer (some ⟨(w.heap.size + 1), 2, none⟩)) (fun _ _ _ h => h) (fun Ls W hl0 hW => exec_fieldAddr 47 (.tmp 3) 2 rfl _ _ rfl (qf_f2 _ _)) ⟨hX0, hY0⟩ ⟨hX0, hY0⟩ ?_
  go_frame
  refine late_take [] (i := 3) (some 26) rfl rfl rfl (by kernel_rfl) (by kernel_rfl) (by kernel_rfl) (by kernel_rfl) (by kernel_rfl) (fun Ls W h => h) (.string v) (fun _ _ _ h => h) (fun Ls W hl0 hW => exec_loadQ 9 qstr_flat (.tmp 25) rfl (.string v) rfl (hW.2.cell 2)) ⟨hX0, hY0⟩ ⟨hX0, hY0⟩ ?_
  go_frame
  refine late_take [] (i := 5) (some 28) rfl rfl rfl (by kernel_rfl) (by kernel_rfl) (by kernel_rfl) (by kernel_rfl) (by kernel_rfl) (fun Ls W h => h) (.pointer (some ⟨(w.heap.size + 1), 1, none⟩)) (fun _ _ _ h => h) (fun Ls W hl0 hW => exec_fieldAddr 47 (.tmp 3) 1 rfl _ _ rfl (qf_f1 _ _)) ⟨hX0, hY0⟩ ⟨hX0, hY0⟩ ?_
  go_frame
  refine late_take [] (i := 6) (some 29) rfl rfl rfl (by kernel_rfl) (by kernel_rfl) (by kernel_rfl) (by kernel_rfl) (by kernel_rfl) (fun Ls W h => h) (.string z) (fun _ _ _ h => h) (fun Ls W hl0 hW => exec_loadQ 9 qstr_flat (.tmp 28) rfl (.string z) rfl (hW.2.cell 1)) ⟨hX0, hY0⟩ ⟨hX0, hY0⟩ ?_
  go_frame
  refine late_take [] (i := 7) (some 30) rfl rfl rfl (by kernel_rfl) (by kernel_rfl) (by kernel_rfl) (by kernel_rfl) (by kernel_rfl) (fun Ls W h => h) (.pointer (some ⟨w.heap.size, 2, none⟩)) (fun _ _ _ h => h) (fun Ls W hl0 hW => exec_fieldAddr 47 (.tmp 2) 2 rfl _ _ rfl (qf_f2 _ _)) ⟨hX0, hY0⟩ ⟨hX0, hY0⟩ ?_
  go_frame
  refine late_take [] (i := 8) (some 31) rfl rfl rfl (by kernel_rfl) (by kernel_rfl) (by kernel_rfl) (by kernel_rfl) (by kernel_rfl) (fun Ls W h => h) (.string y) (fun _ _ _ h => h) (fun Ls W hl0 hW => exec_loadQ 9 qstr_flat (.tmp 30) rfl (.string y) rfl (hW.1.cell 2)) ⟨hX0, hY0⟩ ⟨hX0, hY0⟩ ?_
  go_frame
  refine late_one (i := 4) (by kernel_rfl) (op_call (some 27) rfl rfl rfl rfl Tryz.func77 (by kernel_rfl) (by kernel_rfl) #[.string x, .string v] rfl (F27.out u0) ?_)
  rintro e u1 ⟨rfl, hb1⟩
  have hX1 := hX0.next hb1
  have hY1 := hY0.next hb1
  have hZ1 := hZ0.next hb1
  have hW1 := hW0.trans (hb1.mono hW0.size)
  refine ⟨_, rfl, ⟨hX1, hY1⟩, ?_⟩
  go_frame
  clear hX0 hY0 hZ0 hW0 hb1
  refine late_one (i := 9) (by kernel_rfl) (op_call (some 32) rfl rfl rfl rfl Tryz.func77 (by kernel_rfl) (by kernel_rfl) #[.string z, .string y] rfl (F32.out u1) ?_)
  rintro e u2 ⟨rfl, hb2⟩
  have hX2 := hX1.next hb2
  have hY2 := hY1.next hb2
  have hZ2 := hZ1.next hb2
  have hW2 := hW1.trans (hb2.mono hW1.size)
  refine ⟨_, rfl, ⟨hX2, hY2⟩, ?_⟩
  go_frame
  clear hX1 hY1 hZ1 hW1 hb2
  refine late_one (i := 10) (by kernel_rfl) (op_call (some 33) rfl rfl rfl rfl Tryz.func82 (by kernel_rfl) (by kernel_rfl) #[.string p, .string q] rfl (F33.out u2) ?_)
  rintro e u3 ⟨rfl, hb3⟩
  have hX3 := hX2.next hb3
  have hY3 := hY2.next hb3
  have hZ3 := hZ2.next hb3
  have hW3 := hW2.trans (hb3.mono hW2.size)
  refine ⟨_, rfl, ⟨hX3, hY3⟩, ?_⟩
  go_frame
  clear hX2 hY2 hZ2 hW2 hb3
  refine late_one (i := 11) (by kernel_rfl) (op_value (some 4) rfl rfl rfl (.int .i64 k) (exec_assign (.tmp 33) rfl _ rfl) ⟨⟨hX3, hY3⟩, late_done (by kernel_rfl) ?_ _⟩)
  go_frame
  have HX := Lib.hid hX3
  have HY := Lib.hid hY3
  have HZ := Lib.hid hZ3
  have HW := Lib.hid hW3
  clear hX3 hY3 hZ3 hW3
  go_wp2
  go_ret
  exact ⟨rfl, HW.out⟩
set_option maxRecDepth 100000 in
set_option maxHeartbeats 2000000 in
theorem qcmp_neg (x y z v p q : ByteArray) (k : Int) (w : World) (h27 : (∀ W, Calls Tryz.prog 77 #[.string z, .string y] W fun e w' => e = .returned (.string p) ∧ Below W.heap.size W w')) (h32 : (∀ W, Calls Tryz.prog 77 #[.string x, .string v] W fun e w' => e = .returned (.string q) ∧ Below W.heap.size W w')) (h33 : ∀ W, Calls Tryz.prog 82 #[.string p, .string q] W fun e w' => e = .returned (.int .i64 k) ∧ Below W.heap.size W w') :
    Calls Tryz.prog 49 #[.agg #[.bool true, .string x, .string y], .agg #[.bool true, .string z, .string v]] w fun e w' => e = .returned (.int .i64 k) ∧ Below w.heap.size w w' := by
  obtain ⟨W0, hW0⟩ : ∃ W, W = ((w.alloc (.cells (q3 true z v).toArray 47)).alloc (.cells (q3 true x y).toArray 47)) := ⟨_, rfl⟩
  have HK := two_vars w 47 47 (q3 true z v) (q3 true x y)
  rw [← hW0] at HK
  have HX := Lib.hid HK.1
  have HY := Lib.hid HK.2.1
  have HZ := Lib.hid HK.1
  have HW := Lib.hid HK.2.2
  have F27 := Lib.hid h27
  have F32 := Lib.hid h32
  have F33 := Lib.hid h33
  clear HK h27 h32 h33
  go_enter Tryz.func49, Tryz.ntmps49
  go_wp2_with fail
  rw [← hW0]
  clear hW0
  refine late_begin (S := fun _ W => Blk W w.heap.size 47 (q3 true z v) ∧ Blk W (w.heap.size + 1) 47 (q3 true x y)) (by kernel_rfl) ?_
  have hX0 := HX.out.drew
  have hY0 := HY.out.drew
  have hZ0 := HZ.out.drew
  have hW0 := HW.out.drew
  generalize W0.drew = u0 at hX0 hY0 hZ0 hW0 ⊢
  clear HX HY HZ HW
  refine late_take [] (i := 0) (some 23) rfl rfl rfl (by kernel_rfl) (by kernel_rfl) (by kernel_rfl) (by kernel_rfl) (by kernel_rfl) (fun Ls W h => h) (.pointer (some ⟨w.heap.size, 1, none⟩)) (fun _ _ _ h => h) (fun Ls W hl0 hW => exec_fieldAddr 47 (.tmp 2) 1 rfl _ _ rfl (qf_f1 _ _)) ⟨hX0, hY0⟩ ⟨hX0, hY0⟩ ?_
  go_frame
  refine late_take [] (i := 1) (some 24) rfl rfl rfl (by kernel_rfl) (by kernel_rfl) (by kernel_rfl) (by kernel_rfl) (by kernel_rfl) (fun Ls W h => h) (.string z) (fun _ _ _ h => h) (fun Ls W hl0 hW => exec_loadQ 9 qstr_flat (.tmp 23) rfl (.string z) rfl (hW.1.cell 1)) ⟨hX0, hY0⟩ ⟨hX0, hY0⟩ ?_
  go_frame
  refine late_take [] (i := 2) (some 25) rfl rfl rfl (by kernel_rfl) (by kernel_rfl) (by kernel_rfl) (by kernel_rfl) (by kernel_rfl) (fun Ls W h => h) (.pointer (some ⟨(w.heap.size + 1), 2, none⟩)) (fun _ _ _ h => h) (fun Ls W hl0 hW => exec_fieldAddr 47 (.tmp 3) 2 rfl _ _ rfl (qf_f2 _ _)) ⟨hX0, hY0⟩ ⟨hX0, hY0⟩ ?_
  go_frame
  refine late_take [] (i := 3) (some 26) rfl rfl rfl (by kernel_rfl) (by kernel_rfl) (by kernel_rfl) (by kernel_rfl) (by kernel_rfl) (fun Ls W h => h) (.string y) (fun _ _ _ h => h) (fun Ls W hl0 hW => exec_loadQ 9 qstr_flat (.tmp 25) rfl (.string y) rfl (hW.2.cell 2)) ⟨hX0, hY0⟩ ⟨hX0, hY0⟩ ?_
  go_frame
  refine late_take [] (i := 5) (some 28) rfl rfl rfl (by kernel_rfl) (by kernel_rfl) (by kernel_rfl) (by kernel_rfl) (by kernel_rfl) (fun Ls W h => h) (.pointer (some ⟨(w.heap.size + 1), 1, none⟩)) (fun _ _ _ h => h) (fun Ls W hl0 hW => exec_fieldAddr 47 (.tmp 3) 1 rfl _ _ rfl (qf_f1 _ _)) ⟨hX0, hY0⟩ ⟨hX0, hY0⟩ ?_
  go_frame
  refine late_take [] (i := 6) (some 29) rfl rfl rfl (by kernel_rfl) (by kernel_rfl) (by kernel_rfl) (by kernel_rfl) (by kernel_rfl) (fun Ls W h => h) (.string x) (fun _ _ _ h => h) (fun Ls W hl0 hW => exec_loadQ 9 qstr_flat (.tmp 28) rfl (.string x) rfl (hW.2.cell 1)) ⟨hX0, hY0⟩ ⟨hX0, hY0⟩ ?_
  go_frame
  refine late_take [] (i := 7) (some 30) rfl rfl rfl (by kernel_rfl) (by kernel_rfl) (by kernel_rfl) (by kernel_rfl) (by kernel_rfl) (fun Ls W h => h) (.pointer (some ⟨w.heap.size, 2, none⟩)) (fun _ _ _ h => h) (fun Ls W hl0 hW => exec_fieldAddr 47 (.tmp 2) 2 rfl _ _ rfl (qf_f2 _ _)) ⟨hX0, hY0⟩ ⟨hX0, hY0⟩ ?_
  go_frame
  refine late_take [] (i := 8) (some 31) rfl rfl rfl (by kernel_rfl) (by kernel_rfl) (by kernel_rfl) (by kernel_rfl) (by kernel_rfl) (fun Ls W h => h) (.string v) (fun _ _ _ h => h) (fun Ls W hl0 hW => exec_loadQ 9 qstr_flat (.tmp 30) rfl (.string v) rfl (hW.1.cell 2)) ⟨hX0, hY0⟩ ⟨hX0, hY0⟩ ?_
  go_frame
  refine late_one (i := 4) (by kernel_rfl) (op_call (some 27) rfl rfl rfl rfl Tryz.func77 (by kernel_rfl) (by kernel_rfl) #[.string z, .string y] rfl (F27.out u0) ?_)
  rintro e u1 ⟨rfl, hb1⟩
  have hX1 := hX0.next hb1
  have hY1 := hY0.next hb1
  have hZ1 := hZ0.next hb1
  have hW1 := hW0.trans (hb1.mono hW0.size)
  refine ⟨_, rfl, ⟨hX1, hY1⟩, ?_⟩
  go_frame
  clear hX0 hY0 hZ0 hW0 hb1
  refine late_one (i := 9) (by kernel_rfl) (op_call (some 32) rfl rfl rfl rfl Tryz.func77 (by kernel_rfl) (by kernel_rfl) #[.string x, .string v] rfl (F32.out u1) ?_)
  rintro e u2 ⟨rfl, hb2⟩
  have hX2 := hX1.next hb2
  have hY2 := hY1.next hb2
  have hZ2 := hZ1.next hb2
  have hW2 := hW1.trans (hb2.mono hW1.size)
  refine ⟨_, rfl, ⟨hX2, hY2⟩, ?_⟩
  go_frame
  clear hX1 hY1 hZ1 hW1 hb2
  refine late_one (i := 10) (by kernel_rfl) (op_call (some 33) rfl rfl rfl rfl Tryz.func82 (by kernel_rfl) (by kernel_rfl) #[.string p, .string q] rfl (F33.out u2) ?_)
  rintro e u3 ⟨rfl, hb3⟩
  have hX3 := hX2.next hb3
  have hY3 := hY2.next hb3
  have hZ3 := hZ2.next hb3
  have hW3 := hW2.trans (hb3.mono hW2.size)
  refine ⟨_, rfl, ⟨hX3, hY3⟩, ?_⟩
  go_frame
  clear hX2 hY2 hZ2 hW2 hb3
  refine late_one (i := 11) (by kernel_rfl) (op_value (some 4) rfl rfl rfl (.int .i64 k) (exec_assign (.tmp 33) rfl _ rfl) ⟨⟨hX3, hY3⟩, late_done (by kernel_rfl) ?_ _⟩)
  go_frame
  have HX := Lib.hid hX3
  have HY := Lib.hid hY3
  have HZ := Lib.hid hZ3
  have HW := Lib.hid hW3
  clear hX3 hY3 hZ3 hW3
  go_wp2
  go_ret
  exact ⟨rfl, HW.out⟩
theorem cmpN_mulQ (a b : Rat) (ha : 0 ≤ a.num) (hb : 0 ≤ b.num) : cmpN (a.num.natAbs * b.den) (b.num.natAbs * a.den) = cmpQ a b := by
  rw [cmpQ_eq]
  have e1 : a.num * (b.den : Int) = ((a.num.natAbs * b.den : Nat) : Int) := by rw [Int.natCast_mul, Int.natAbs_of_nonneg ha]
  have e2 : b.num * (a.den : Int) = ((b.num.natAbs * a.den : Nat) : Int) := by rw [Int.natCast_mul, Int.natAbs_of_nonneg hb]
  rw [e1, e2]
  unfold cmpN
  generalize a.num.natAbs * b.den = m
  generalize b.num.natAbs * a.den = n
  repeat' split
  all_goals first | rfl | (exfalso; omega)
theorem cmpQ_neg (a b : Rat) : cmpQ (-b) (-a) = cmpQ a b := by
  unfold cmpQ
  by_cases h : a < b
  · rw [if_pos h, if_pos (Rat.neg_lt_neg h)]
  · rw [if_neg h, if_neg fun e => h (Rat.neg_lt_neg_iff.1 e)]
    by_cases h2 : a = b
    · rw [if_pos h2, if_pos (by rw [h2])]
    · rw [if_neg h2, if_neg fun e => h2 (by rw [← Rat.neg_neg a, ← e, Rat.neg_neg])]
set_option maxRecDepth 100000 in
theorem qcmp_any (a b : Rat) (w : World) (ha : Sz 10000 a) (hb : Sz 10000 b) : Calls Tryz.prog 49 #[rv (fr a), rv (fr b)] w fun e w' => e = .returned (.int .i64 (cmpQ a b)) ∧ Below w.heap.size w w' := by
  have l1 := ha.1
  have l2 := ha.2
  have l3 := hb.1
  have l4 := hb.2
  have hC := fun (m n : Nat) W => (cmpC (cS m) (cS n) _ W rfl).mono fun e w' ⟨h1, h2⟩ => (show e = Ending.returned (.int .i64 (cmpN m n)) ∧ Below W.heap.size W w' from ⟨by rw [h1, nB_cS, nB_cS], by rw [h2]; exact Below.refl _ _⟩)
  by_cases na : a.num < 0 <;> by_cases nb : b.num < 0
  · unfold rv fr
    rw [decide_eq_true na, decide_eq_true nb, ← cmpQ_neg, ← cmpN_mulQ (-b) (-a) (by rw [Rat.neg_num]; omega) (by rw [Rat.neg_num]; omega)]
    simp only [Rat.neg_num, Rat.neg_den, Int.natAbs_neg]
    exact qcmp_neg _ _ _ _ (cS (b.num.natAbs * a.den)) (cS (a.num.natAbs * b.den)) _ w (fun W => qprod_any _ _ W (by omega) (by omega)) (fun W => qprod_any _ _ W (by omega) (by omega)) (fun W => hC _ _ W)
  · unfold rv fr
    rw [decide_eq_true na, decide_eq_false nb]
    have e : cmpQ a b = -1 := by
      unfold cmpQ
      rw [if_pos]
      rw [Rat.lt_iff]
      exact Int.lt_of_lt_of_le (Int.mul_neg_of_neg_of_pos na (Int.ofNat_lt.2 b.den_pos)) (Int.mul_nonneg (by omega) (Int.natCast_nonneg _))
    rw [e]
    exact qcmp_less _ _ _ _ w
  · unfold rv fr
    rw [decide_eq_false na, decide_eq_true nb]
    have hlt : b < a := by
      rw [Rat.lt_iff]
      exact Int.lt_of_lt_of_le (Int.mul_neg_of_neg_of_pos nb (Int.ofNat_lt.2 a.den_pos)) (Int.mul_nonneg (by omega) (Int.natCast_nonneg _))
    have e : cmpQ a b = 1 := by
      unfold cmpQ
      rw [if_neg (Rat.not_lt.2 (Rat.le_of_lt hlt))]
      rw [if_neg (Rat.ne_of_gt hlt)]
    rw [e]
    exact qcmp_more _ _ _ _ w
  · unfold rv fr
    rw [decide_eq_false na, decide_eq_false nb, ← cmpN_mulQ a b (by omega) (by omega)]
    exact qcmp_pos _ _ _ _ (cS (a.num.natAbs * b.den)) (cS (b.num.natAbs * a.den)) _ w (fun W => qprod_any _ _ W (by omega) (by omega)) (fun W => qprod_any _ _ W (by omega) (by omega)) (fun W => hC _ _ W)
end Go.Proofs.YtpmlihhofmblpaaGreatDoor
