/- groups: the digits of a number to the base 10^19. -/
import Derived.Test.YtkjnfobaoaaopaaGreatDoorN30
import Derived.Deep.LoopGhost
import Derived.Lib.OwnBridge
namespace Go.Proofs.YtkjnfobaoaaopaaGreatDoor
open Go.RowKit Hm Wm Wn

/-- The base of the groups, and the groups of a number, the lowest one first. -/
def GB : Nat := 10000000000000000000
def gN (n : Nat) : List Nat := if _h : n < GB then [n] else n % GB :: gN (n / GB)
termination_by n
decreasing_by
  unfold GB at *
  exact Nat.div_lt_self (by omega) (by decide)
theorem gN_small {n : Nat} (h : n < GB) : gN n = [n] := by rw [gN, dif_pos h]
theorem gN_big {n : Nat} (h : ¬ n < GB) : gN n = n % GB :: gN (n / GB) := by rw [gN, dif_neg h]
theorem gN_len : ∀ (k n : Nat), n < GB ^ (k + 1) → (gN n).length ≤ k + 1
  | 0, n, h => by rw [gN_small (by simpa using h)]; simp
  | k + 1, n, h => by
    by_cases hn : n < GB
    · rw [gN_small hn]; simp
    · rw [gN_big hn, List.length_cons]
      have := gN_len k (n / GB) (Nat.div_lt_of_lt_mul (by rw [Nat.pow_succ] at h; rw [Nat.mul_comm]; exact h))
      omega
theorem gN_few {n Z : Nat} (h : n < B ^ Z) : (gN n).length ≤ 2 * Z + 1 := by
  refine gN_len (2 * Z) n (Nat.lt_of_lt_of_le h ?_)
  have h1 : B ^ Z ≤ (GB ^ 2) ^ Z := Nat.pow_le_pow_left (by decide) _
  rw [← Nat.pow_mul] at h1
  exact Nat.le_trans h1 (Nat.pow_le_pow_right (by decide) (by omega))
/-- An own row of words. -/
def OwnW (w : World) (base : Nat) (v : Value) (l : List Nat) : Prop := w.ownsRow base 53 1 v l.length (ws l)
theorem OwnW.nil (w : World) (base : Nat) : OwnW w base (.slice none 0 0) [] := World.ownsRow_nil _ _ _ _
theorem OwnW.kept {w w' : World} {base : Nat} {v : Value} {l : List Nat} (h : OwnW w base v l) (hb : Below w.heap.size w w') : OwnW w' base v l := own_below h hb
theorem wl_under : Tryz.prog.underlying 49 = some (.slice 53) := Tryz.underlying49
theorem rdW_other {w w' : World} {r : Option Nat} {A : Option Addr} {l : List Nat} (h : RdW w A l) (ho : ∀ k, k < w.heap.size → some k ≠ r → w'.heap[k]? = w.heap[k]?) (hA : ∀ a, A = some a → some a.block ≠ r) : RdW w' A l := by
  intro hne
  obtain ⟨b, off, rfl, hc⟩ := h hne
  refine ⟨b, off, rfl, fun k u hu => ?_⟩
  have h1 := hc k u hu
  have hlt : b < w.heap.size := by
    rcases Nat.lt_or_ge b w.heap.size with h' | h'
    · exact h'
    · unfold World.cell? at h1; rw [Array.getElem?_eq_none h'] at h1; simp at h1
  have hb := ho b hlt (hA _ rfl)
  unfold World.cell? at h1 ⊢
  rw [hb]
  exact h1
theorem wpList_pushW {w : World} {ops : Array Oper} {rest : List Oper} {o : Oper} {a : Act} {Q : Exit → Act → World → Prop} (hgd : o.guard = none) (s x : Operand)
    (ho : o.op = .call { callee := .builtin .append, args := #[s, x], argTypes := #[49, 49] })
    (base : Nat) (v : Value) (l : List Nat) (hs : a.eval s = v) (hown : OwnW w base v l) (d : Nat) (hb : base ≤ w.heap.size) (hl : l.length ≤ 1000000)
    (hx : a.eval x = .slice (some ⟨w.heap.size, 0, none⟩) 1 1)
    (h : ∀ v' w', OwnW w' base v' (l ++ [d]) → Below base w w' → (∀ A X, RdW w A X → (∀ ad, A = some ad → some ad.block ≠ v.ownBlock) → RdW w' A X) → wpList Tryz.prog ops Q rest (a.put o.dst v') w') :
    wpList Tryz.prog ops Q (o :: rest) a (w.alloc (.cells #[.int .u64 (d : Int)] 53)) := by
  obtain ⟨i0, hi, hz0, hz1, hz2⟩ := info_parts wd_info
  refine wpList_append_own _ hgd s x 49 ho base 53 i0 (.int .u64 0) 1 8 wl_under hi hz0 hz1 hz2 rfl (by decide) v l.length (ws l) hs (World.ownsRow.alloc hown _)
    ⟨w.heap.size, 0, none⟩ 1 1 [.int .u64 (d : Int)] hx rfl (cell_one_new _ _ _) ?_ ?_ ?_ ?_ ?_
  · intro u hu; simp at hu; subst hu; rfl
  · unfold maxLen; omega
  · omega
  · simp; omega
  · intro v' w' h1 h2 _
    refine h v' w' ?_ ?_ ?_
    · unfold OwnW
      rw [List.length_append, ws_app]
      exact h1
    · exact (((Below.refl base w).alloc hb _).grown h2 (by simp; omega) (fun k hk => (World.ownsRow.lt hown k hk).1))
    · intro A X hr hA
      have hr2 : RdW (w.alloc (.cells #[.int .u64 (d : Int)] 53)) A X := hr.next ((Below.refl _ _).alloc (Nat.le_refl _) _)
      exact rdW_other hr2 (fun k hk hne => h2.block k hk hne) hA
theorem run_geqG (x : Nat) (b : Bool) (h : decide (GB ≤ x) = b) (w : World) : (binOp .geq 53 (.int .u64 x) (.int .u64 10000000000000000000)).run Tryz.prog w = .ok (.bool b) w := by
  subst h
  unfold GB
  simp [binOp, go_sem]
  omega
theorem num_GB : digW GB = [GB] := digW_one (by decide) (by decide)
def GpR (w : World) (N g : Nat) (xv gv : Value) (wr : World) : Prop :=
  ∃ (A : Option Addr) (c : Nat) (L : List Nat), xv = .slice A (digW g).length c ∧ Hid (RdW wr A (digW g)) ∧ Hid ((digW g).length ≤ c) ∧ Hid (gN N = L ++ gN g) ∧ Hid (OwnW wr w.heap.size gv L) ∧ Hid (Below w.heap.size w wr) ∧ Hid (g ≤ N)
set_option maxRecDepth 100000 in
set_option maxHeartbeats 400000 in
theorem groups_any (Z : Nat) (hZ : Z ≤ 100000) (A : Option Addr) (c N : Nat) (w : World) (hN : N < B ^ Z) (hr : RdW w A (digW N)) (hc : (digW N).length ≤ c) :
    Calls Tryz.prog 49 #[.slice A (digW N).length c] w fun e w' => ∃ A2 c2, e = .returned (.slice A2 (gN N).reverse.length c2) ∧ RdW w' A2 (gN N).reverse ∧ Below w.heap.size w w' := by
  have HGL := Lib.hid (gN_few hN)
  have HZ := Lib.hid hZ
  have HN := Lib.hid hN
  have HR := Lib.hid (And.intro hr hc)
  obtain ⟨n0, hn0⟩ : ∃ n, (digW N).length = n := ⟨_, rfl⟩
  have HN0 := Lib.hid hn0
  clear hZ hN hr hc
  rw [hn0]
  clear hn0
  go_enter Tryz.func49, Tryz.ntmps49
  go_wp2
  go_loopg [0, 3] N (fun g xv gv wr => GpR w N g xv gv wr)
  case atStart => exact ⟨A, c, [], by rw [HN0.out], Lib.hid HR.out.1, Lib.hid HR.out.2, Lib.hid rfl, Lib.hid (OwnW.nil _ _), Lib.hid (Below.refl _ _), Lib.hid (Nat.le_refl _)⟩
  case round =>
    clear HR
    obtain ⟨A, c, L, rfl, HR, HC, HG, HO, HW, HL⟩ := hrel
    have hl1 : (digW gk).length ≤ 100000 := Nat.le_trans (digW_len (Nat.lt_of_le_of_lt HL.out HN.out)) HZ.out
    have hLl : L.length ≤ 200001 := by
      have h1 := congrArg List.length HG.out
      rw [List.length_append] at h1
      have h2 := HGL.out
      have h3 := HZ.out
      omega
    obtain ⟨n1, hn1⟩ : ∃ n, (digW gk).length = n := ⟨_, rfl⟩
    have hd0 : (digW gk).getD 0 0 = gk % B := by rw [digW_getD, Nat.pow_zero, Nat.div_one]
    have HDG := Lib.hid (fun W h => digit_any A c (digW gk) 0 W h)
    obtain ⟨x0, hx0⟩ : ∃ x, gk % B = x := ⟨_, rfl⟩
    rw [hd0, hx0, hn1] at HDG
    rw [hn1]
    by_cases hbig : GB ≤ gk
    · have hn10 : 1 ≤ n1 := by rw [← hn1]; exact (digW_ge (by unfold GB at hbig; omega)).1
      have HDV := Lib.hid (fun ga W (hA : RdW W A (digW gk)) (hG : RdW W (some ⟨ga, 0, none⟩) [GB]) => divMod_longF A c (digW gk) (some ⟨ga, 0, none⟩) 1 [GB] GB W hA hG (dig_digW gk) (by intro d hd; rw [List.mem_singleton.1 hd]; decide) (by decide) rfl (by decide) (by decide) (by rw [hn1]; exact hn10) hl1)
      rw [num_digW, num_one, hn1] at HDV
      obtain ⟨q, hq⟩ : ∃ q, gk / GB = q := ⟨_, rfl⟩
      obtain ⟨d, hd⟩ : ∃ d, gk % GB = d := ⟨_, rfl⟩
      rw [hq, hd] at HDV
      have HQ := Lib.hid (show q < gk by rw [← hq]; unfold GB at hbig ⊢; omega)
      have hdB : d < B := by
        rw [← hd]
        have h1 : GB < B := by decide
        have h2 := Nat.mod_lt gk (show 0 < GB by decide)
        omega
      have HDD := Lib.hid (show (digW d).getD 0 0 = d by rw [digW_getD, Nat.pow_zero, Nat.div_one]; exact Nat.mod_eq_of_lt hdB)
      have HG2 := Lib.hid (show gN N = (L ++ [d]) ++ gN q by rw [HG.out, gN_big (by omega), hq, hd]; simp)
      have hG0 : RdW (wr.alloc (.cells #[.int .u64 10000000000000000000] 53)) (some ⟨wr.heap.size, 0, none⟩) [GB] := rdW_blk (Blk.new wr 53 (ws [GB]))
      have hal : Below wr.heap.size wr (wr.alloc (.cells #[.int .u64 10000000000000000000] 53)) := (Below.refl _ _).alloc (Nat.le_refl _) _
      have HG0 := Lib.hid hG0
      have HAL := Lib.hid hal
      have HGE := Lib.hid (fun W (h : ¬ 1 < n1) => run_geqG x0 true (by
        have h2 := digW_lt gk
        have h3 : B ^ (digW gk).length ≤ B ^ 1 := Nat.pow_le_pow_right B_pos (by omega)
        rw [Nat.pow_one] at h3
        rw [← hx0, Nat.mod_eq_of_lt (by omega)]
        exact decide_eq_true hbig) W)
      clear hG0 hal hd hdB hq hbig hn10 hd0 hx0 hl1 hn1
      by_cases h1 : 1 < n1
      · have c1 : decide ((1 : Int) < (n1 : Int)) = true := decide_eq_true (by omega)
        have c1' : decide (1 < n1) = true := decide_eq_true h1
        clear HDG HGE
        go_wp2_with fail
        refine (HDV.out wr.heap.size _ (HR.out.next HAL.out) HG0.out).mono ?_
        rintro e w2 ⟨v1, v2, rfl, ⟨A1, cc1, rfl, r1, k1⟩, ⟨A2, cc2, rfl, r2, -⟩, hb2, hfr⟩
        have HO2 := Lib.hid ((HO.out.kept HAL.out).kept hb2)
        have HW2 := Lib.hid ((HW.out.trans (HAL.out.mono HW.out.size)).trans (hb2.mono (Nat.le_trans HW.out.size HAL.out.size)))
        have HOF := Lib.hid (show ∀ ad, A1 = some ad → some ad.block ≠ Value.ownBlock _ from fun ad ha e => by
          subst ha
          have h1 := hfr ad _ _ rfl
          have h2 := (World.ownsRow.lt HO.out _ e.symm).2
          have h3 := HAL.out.size
          omega)
        have HR1 := Lib.hid r1
        have HC1 := Lib.hid k1
        have hdg := digit_any A2 cc2 (digW d) 0 w2 r2
        rw [HDD.out] at hdg
        have HD2 := Lib.hid hdg
        clear hb2 hfr r1 r2 k1 hdg HDV
        go_wp2_with fail
        refine HD2.out.mono ?_
        rintro e w3 ⟨rfl, hw⟩
        obtain rfl : w2 = w3 := hw.symm
        clear hw
        go_wp2_with (refine wpList_dst 23 rfl ?_; refine wpList_pushW rfl (.tmp 19) (.tmp 22) rfl w.heap.size _ L rfl HO2.out d HW2.out.size (by omega) rfl ?_; intro v' w4 ho hbl hkp; have HO3 := Lib.hid ho; have HB3 := Lib.hid (HW2.out.trans hbl); have HR3 := Lib.hid (hkp A1 _ HR1.out HOF.out); clear ho hbl hkp)
        go_roundg q
        case measure => exact HQ.out
        case rel => exact ⟨A1, cc1, L ++ [d], rfl, HR3, HC1, HG2, HO3, HB3, Lib.hid (Nat.le_trans (Nat.le_of_lt HQ.out) HL.out)⟩
      · have c1 : decide ((1 : Int) < (n1 : Int)) = false := decide_eq_false (by omega)
        have c1' : decide (1 < n1) = false := decide_eq_false h1
        replace HGE := Lib.hid (fun W => HGE.out W h1)
        go_wp2_with fail
        refine (HDG.out wr HR.out).mono ?_
        rintro e w2 ⟨rfl, hw⟩
        obtain rfl : wr = w2 := hw.symm
        clear hw
        go_wp2_with (first | (refine wpList_dst 11 rfl ?_; refine wpList_runG 11 rfl rfl _ (exec_bin .geq 53 _ (.tmp 10) (.const (.int .u64 10000000000000000000)) rfl _ _ _ rfl rfl rfl (HGE.out _)) ?_))
        refine (HDV.out wr.heap.size _ (HR.out.next HAL.out) HG0.out).mono ?_
        rintro e w2 ⟨v1, v2, rfl, ⟨A1, cc1, rfl, r1, k1⟩, ⟨A2, cc2, rfl, r2, -⟩, hb2, hfr⟩
        have HO2 := Lib.hid ((HO.out.kept HAL.out).kept hb2)
        have HW2 := Lib.hid ((HW.out.trans (HAL.out.mono HW.out.size)).trans (hb2.mono (Nat.le_trans HW.out.size HAL.out.size)))
        have HOF := Lib.hid (show ∀ ad, A1 = some ad → some ad.block ≠ Value.ownBlock _ from fun ad ha e => by
          subst ha
          have h1 := hfr ad _ _ rfl
          have h2 := (World.ownsRow.lt HO.out _ e.symm).2
          have h3 := HAL.out.size
          omega)
        have HR1 := Lib.hid r1
        have HC1 := Lib.hid k1
        have hdg := digit_any A2 cc2 (digW d) 0 w2 r2
        rw [HDD.out] at hdg
        have HD2 := Lib.hid hdg
        clear hb2 hfr r1 r2 k1 hdg HDV
        go_wp2_with fail
        refine HD2.out.mono ?_
        rintro e w3 ⟨rfl, hw⟩
        obtain rfl : w2 = w3 := hw.symm
        clear hw
        go_wp2_with (refine wpList_dst 23 rfl ?_; refine wpList_pushW rfl (.tmp 19) (.tmp 22) rfl w.heap.size _ L rfl HO2.out d HW2.out.size (by omega) rfl ?_; intro v' w4 ho hbl hkp; have HO3 := Lib.hid ho; have HB3 := Lib.hid (HW2.out.trans hbl); have HR3 := Lib.hid (hkp A1 _ HR1.out HOF.out); clear ho hbl hkp)
        go_roundg q
        case measure => exact HQ.out
        case rel => exact ⟨A1, cc1, L ++ [d], rfl, HR3, HC1, HG2, HO3, HB3, Lib.hid (Nat.le_trans (Nat.le_of_lt HQ.out) HL.out)⟩
    · have hlt : gk < GB := Nat.lt_of_not_le hbig
      have hBB : GB < B := by decide
      have hle : n1 ≤ 1 := by rw [← hn1]; exact digW_len (by rw [Nat.pow_one]; omega)
      have hxe : x0 = gk := by rw [← hx0]; exact Nat.mod_eq_of_lt (by omega)
      have c1 : decide ((1 : Int) < (n1 : Int)) = false := decide_eq_false (by omega)
      have c1' : decide (1 < n1) = false := decide_eq_false (by omega)
      have HGE := Lib.hid (fun W => run_geqG gk false (decide_eq_false (by omega)) W)
      have HG2 := Lib.hid (show gN N = L ++ [gk] by rw [HG.out, gN_small hlt])
      rw [hxe] at HDG
      clear hlt hBB hle hxe hx0 hd0 hl1 hn1 hbig HC HL
      go_wp2_with fail
      refine (HDG.out wr HR.out).mono ?_
      rintro e w2 ⟨rfl, hw⟩
      obtain rfl : wr = w2 := hw.symm
      clear hw
      go_wp2_with (first | (refine wpList_dst 11 rfl ?_; refine wpList_runG 11 rfl rfl _ (exec_bin .geq 53 _ (.tmp 10) (.const (.int .u64 10000000000000000000)) rfl _ _ _ rfl rfl rfl (HGE.out _)) ?_))
      refine (HDG.out wr HR.out).mono ?_
      rintro e w2 ⟨rfl, hw⟩
      obtain rfl : wr = w2 := hw.symm
      clear hw
      go_wp2_with (refine wpList_dst 28 rfl ?_; refine wpList_pushW rfl (.tmp 24) (.tmp 27) rfl w.heap.size _ L rfl HO.out gk HW.out.size (by omega) rfl ?_; intro v' w3 ho hbl _; have HO3 := Lib.hid ho; have HB3 := Lib.hid (HW.out.trans hbl); clear ho hbl; refine Hid.out ?_)
      refine Lib.hid ?_
      have hne : v' ≠ .slice none 0 0 := fun e => by
        subst e
        rcases HO3.out.2 with ⟨_, h⟩ | ⟨g, cap, cur, h, _⟩
        · simp at h
        · cases h
      obtain ⟨g, cap, rfl, hbg, hgl, -, -, hzl, hH⟩ := Lib.holds_of_ownsRow (enc := wu) HO3.out hne
      have hrv := Tryz.slices_Reverse wu (fun _ => rfl) g 0 cap (L ++ [gk]) w3 hH (by rw [List.length_append]; simp; omega)
      have HRV := Lib.hid hrv
      have HBG := Lib.hid hbg
      obtain ⟨m, hm⟩ : ∃ m, (L ++ [gk]).length = m := ⟨_, rfl⟩
      have HOO := Lib.hid (show w3.ownsRow w.heap.size 53 1 (.slice (some ⟨g, 0, none⟩) m cap) m (ws (L ++ [gk])) from by have := HO3.out; unfold OwnW at this; rwa [hm] at this)
      have HRL := Lib.hid (show (L ++ [gk]).reverse.length = m by rw [List.length_reverse]; exact hm)
      rw [hm] at HRV ⊢
      clear hne hH hrv hbg hgl hzl hm HO3
      go_wp2_with fail
      refine HRV.out.mono ?_
      rintro e w4 ⟨rfl, k, rfl⟩
      have hown := Lib.ownsRow_putRow (q := k) (ys := (L ++ [gk]).reverse) HOO.out HRL.out (Nat.le_refl m)
      rw [List.take_of_length_le (by rw [HRL.out]; exact Nat.le_refl _)] at hown
      have HRD := Lib.hid (show RdW (Go.Sort.putRow wu (Go.Sort.ahead w3 k) g 0 (L ++ [gk]).reverse.toArray) (some ⟨g, 0, none⟩) (L ++ [gk]).reverse from Rd.of_row hown)
      have HBE := Lib.hid (show Below w.heap.size w (Go.Sort.putRow wu (Go.Sort.ahead w3 k) g 0 (L ++ [gk]).reverse.toArray) from Lib.below_putRow HB3.out HBG.out)
      clear hown
      generalize Go.Sort.putRow wu (Go.Sort.ahead w3 k) g 0 (L ++ [gk]).reverse.toArray = w5 at HRD HBE ⊢
      go_wp2_with fail
      go_ret
      exact ⟨_, _, by rw [HG2.out, HRL.out]; rfl, by rw [HG2.out]; exact HRD.out, HBE.out⟩
end Go.Proofs.YtkjnfobaoaaopaaGreatDoor
