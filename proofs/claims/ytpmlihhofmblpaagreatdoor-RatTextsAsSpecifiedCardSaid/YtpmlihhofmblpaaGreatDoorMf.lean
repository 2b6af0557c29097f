/- Decimal digits, in groups. -/
import Derived.Test.YtpmlihhofmblpaaGreatDoorMe
namespace Go.Proofs.YtpmlihhofmblpaaGreatDoor
open Go.RowKit Go.Lib Hm Wm Wn

/-- The digits of a number, of a fixed width. -/
def fx : Nat → Nat → List UInt8
  | 0, _ => []
  | k + 1, g => fx k (g / 10) ++ [UInt8.ofNat (48 + g % 10)]
theorem dec_big {u : Nat} (h : ¬ u < 10) : decDigits u = decDigits (u / 10) ++ [UInt8.ofNat (48 + u % 10)] := by rw [decDigits, dif_neg h]
theorem dec_fx (a : Nat) (ha : 0 < a) : ∀ (k g : Nat), g < 10 ^ k → decDigits (a * 10 ^ k + g) = decDigits a ++ fx k g
  | 0, g, h => by
    have : g = 0 := by simpa using h
    subst this
    simp [fx]
  | k + 1, g, h => by
    have e : a * 10 ^ (k + 1) = 10 * (a * 10 ^ k) := by rw [Nat.pow_succ, ← Nat.mul_assoc, Nat.mul_comm]
    have hp : 0 < a * 10 ^ k := Nat.mul_pos ha (Nat.pow_pos (by decide))
    rw [Nat.pow_succ] at h
    rw [dec_big (by omega), show (a * 10 ^ (k + 1) + g) / 10 = a * 10 ^ k + g / 10 by omega, show (a * 10 ^ (k + 1) + g) % 10 = g % 10 by omega, dec_fx a ha k (g / 10) (by omega), fx, List.append_assoc]
theorem fx_zero : ∀ k, fx k 0 = List.replicate k 48
  | 0 => rfl
  | k + 1 => by
    rw [fx, Nat.zero_div, fx_zero k, List.replicate_succ']
    rfl
theorem ddg_len : ∀ (k u : Nat), u < 10 ^ (k + 1) → (decDigits u).length ≤ k + 1
  | 0, u, h => by rw [decDigits_one (by simpa using h)]; simp
  | k + 1, u, h => by
    by_cases hu : u < 10
    · rw [decDigits_one hu]; simp
    · rw [dec_big hu, List.length_append]
      have := ddg_len k (u / 10) (by rw [Nat.pow_succ] at h; omega)
      simp
      omega
theorem fx_pad : ∀ (k g : Nat), g < 10 ^ (k + 1) → fx (k + 1) g = List.replicate (k + 1 - (decDigits g).length) 48 ++ decDigits g
  | 0, g, h => by
    have hg : g < 10 := by simpa using h
    rw [decDigits_one hg, fx, fx, Nat.mod_eq_of_lt hg]
    rfl
  | k + 1, g, h => by
    by_cases hg : g < 10
    · rw [decDigits_one hg, fx, Nat.div_eq_of_lt hg, fx_zero, Nat.mod_eq_of_lt hg]
      rfl
    · rw [dec_big hg, fx, fx_pad k (g / 10) (by rw [Nat.pow_succ] at h; omega), List.length_append, List.append_assoc]
      have := ddg_len k (g / 10) (by rw [Nat.pow_succ] at h; omega)
      congr 2
      simp
/-- The text of groups, the highest one first. -/
def pad (g : Nat) : List UInt8 := List.replicate (19 - (decDigits g).length) 48 ++ decDigits g
def txt : List Nat → List UInt8
  | [] => []
  | g :: r => decDigits g ++ (r.map pad).flatten
theorem txt_snoc {l : List Nat} (h : l ≠ []) (g : Nat) : txt (l ++ [g]) = txt l ++ pad g := by
  cases l with
  | nil => exact absurd rfl h
  | cons a r => simp [txt]
theorem gN_lt : ∀ (n : Nat), ∀ g ∈ gN n, g < GB := by
  intro n
  induction n using Nat.strongRecOn with
  | ind n ih =>
    intro g hg
    by_cases h : n < GB
    · rw [gN_small h] at hg; rw [List.mem_singleton.1 hg]; exact h
    · rw [gN_big h] at hg
      rcases List.mem_cons.1 hg with rfl | hg
      · exact Nat.mod_lt _ (by decide)
      · exact ih (n / GB) (Nat.div_lt_self (by unfold GB at h; omega) (by decide)) g hg
theorem gN_ne (n : Nat) : gN n ≠ [] := by
  by_cases h : n < GB
  · rw [gN_small h]; simp
  · rw [gN_big h]; simp
theorem GB_pow : GB = 10 ^ 19 := by decide
theorem txt_dec : ∀ (n : Nat), txt (gN n).reverse = decDigits n := by
  intro n
  induction n using Nat.strongRecOn with
  | ind n ih =>
    by_cases h : n < GB
    · rw [gN_small h]; simp [txt]
    · rw [gN_big h, List.reverse_cons, txt_snoc (by simp [gN_ne]), ih (n / GB) (Nat.div_lt_self (by unfold GB at h; omega) (by decide))]
      have hg : n % GB < 10 ^ (18 + 1) := by rw [← GB_pow]; exact Nat.mod_lt _ (by decide)
      have h1 := dec_fx (n / GB) (Nat.div_pos (Nat.le_of_not_lt h) (by decide)) 19 (n % GB) hg
      rw [← GB_pow, Nat.mul_comm, Nat.div_add_mod] at h1
      rw [h1, fx_pad 18 _ hg]
      rfl
theorem repeat_zero (c : Nat) : repeatL [48] c = List.replicate c 48 := by
  induction c with
  | zero => rfl
  | succ c ih => rw [repeatL, ih]; rfl
end Go.Proofs.YtpmlihhofmblpaaGreatDoor

/- Text. -/
namespace Go.Proofs.YtpmlihhofmblpaaGreatDoor
open Go.RowKit Go.Lib Hm Wm Wn

theorem isB_next {T e : TypeId} {B b : Nat} {bs : List Value} {w w' : World} (h : IsBuilder T e B b bs w) (hb : Below w.heap.size w w') : IsBuilder T e B b bs w' := by
  have key : ∀ p, BuilderAt T e B b p bs w → BuilderAt T e B b p bs w' := by
    rintro p ⟨h1, v, h2, h3, h4⟩
    have hlt : b < w.heap.size := (Array.getElem?_eq_some_iff.1 h2).1
    exact ⟨h1, v, (hb.block b hlt).trans h2, own_below h3 hb, h4⟩
  rcases h with h | h
  · exact .inl (key _ h)
  · exact .inr (key _ h)
theorem run_back19 (m : Nat) (h : m ≤ 19) (w : World) : (binOp .sub 3 (.int .i64 19) (.int .i64 m)).run Tryz.prog w = .ok (.int .i64 ((19 - m : Nat) : Int)) w := by
  simp [binOp, go_sem]
  simp [IntKind.wrap, IntKind.bits, IntKind.signed]; omega
theorem gB_few (s : ByteArray) : nB s < B ^ (s.size + 1) := Nat.lt_of_lt_of_le (nB_lt s) (Nat.le_trans (Nat.pow_le_pow_left (by decide) _) (Nat.pow_le_pow_right B_pos (Nat.le_succ _)))
theorem flat_len : ∀ (l : List Nat), (∀ g ∈ l, g < GB) → (l.map pad).flatten.length ≤ 19 * l.length
  | [], _ => by simp
  | g :: r, h => by
    have hd := ddg_len 18 g (by rw [← GB_pow]; exact h g (by simp))
    have h2 := flat_len r fun x hx => h x (by simp [hx])
    rw [List.map_cons, List.flatten_cons, List.length_append, List.length_cons]
    simp only [pad, List.length_append, List.length_replicate]
    omega
theorem txt_len (l : List Nat) (h : ∀ g ∈ l, g < GB) : (txt l).length ≤ 19 * l.length := by
  cases l with
  | nil => simp [txt]
  | cons g r =>
    have hd := ddg_len 18 g (by rw [← GB_pow]; exact h g (by simp))
    have h2 := flat_len r fun x hx => h x (by simp [hx])
    rw [txt, List.length_append, List.length_cons]
    omega
def TeR (w2 : World) (G : List Nat) (n : Nat) (iv : Value) (wr : World) : Prop :=
  ∃ k : Nat, iv = .int .i64 k ∧ k ≤ n ∧ Hid (IsBuilder 52 5 w2.heap.size w2.heap.size (bc (txt (G.take k))) wr) ∧ Hid (Below w2.heap.size w2 wr)
set_option maxRecDepth 100000 in
set_option maxHeartbeats 400000 in
theorem textS_any (s : ByteArray) (w : World) (hs : s.size ≤ 40000) (hT : Pow w) : Calls Tryz.prog 29 #[.string s] w fun e w' => e = .returned (.string (sb (decDigits (nB s)))) ∧ Below w.heap.size w w' := by
  have HRD := Lib.hid (readN s w (by omega))
  have HGR := Lib.hid (fun A c W h h' => groups_any (s.size + 1) (by omega) A c (nB s) W (gB_few s) h h')
  have HTX := Lib.hid (txt_dec (nB s))
  have HLT := Lib.hid (fun g (h : g ∈ (gN (nB s)).reverse) => gN_lt (nB s) g (List.mem_reverse.1 h))
  have hgl := gN_few (gB_few s)
  have HGL := Lib.hid (show (gN (nB s)).reverse.length ≤ 100000 by rw [List.length_reverse]; omega)
  have HPW := Lib.hid hT
  obtain ⟨G, hG⟩ : ∃ G, (gN (nB s)).reverse = G := ⟨_, rfl⟩
  rw [hG] at HGR HTX HLT HGL
  obtain ⟨n, hn⟩ : ∃ n, G.length = n := ⟨_, rfl⟩
  rw [hn] at HGR HGL
  have HN := Lib.hid hn
  clear hgl hT hG hn hs
  go_enter Tryz.func29, Tryz.ntmps29
  go_wp2_with fail
  refine HRD.out.mono ?_
  rintro e w1 ⟨v1, rfl, ⟨A1, c1, rfl, h1, k1⟩, hb1⟩
  have HR1 := Lib.hid (And.intro h1 k1)
  have HB1 := Lib.hid hb1
  clear h1 k1 hb1 HRD
  go_wp2_with fail
  refine (HGR.out A1 c1 w1 HR1.out.1 HR1.out.2).mono ?_
  rintro e w2 ⟨A2, c2, rfl, h2, hb2⟩
  have HR2 := Lib.hid h2
  have HB2 := Lib.hid (HB1.out.trans (hb2.mono HB1.out.size))
  clear h2 hb2 HGR HR1
  replace HPW := Lib.hid (HPW.out.next HB2.out)
  go_wp2_with fail
  go_loopw [13] (TeR w2 G n) (fun iv _ => n - (RowKit.intOf iv).toNat)
  case atStart => exact ⟨0, rfl, Nat.zero_le _, Lib.hid (fresh_isBuilder _ _ w2), Lib.hid ((Below.refl _ _).alloc (Nat.le_refl _) _)⟩
  case round =>
    obtain ⟨k, rfl, hkn, HBD, HBW⟩ := hrel
    by_cases hlt : k < n
    · have c1 : decide ((k : Int) < (n : Int)) = true := decide_eq_true (by omega)
      have c1' : decide (k < n) = true := decide_eq_true hlt
      obtain ⟨g, hg⟩ : ∃ g, G[k]? = some g := ⟨_, List.getElem?_eq_getElem (by have := HN.out; omega)⟩
      have hgm := HLT.out g (List.mem_of_getElem? hg)
      have htk : G.take (k + 1) = G.take k ++ [g] := by rw [List.take_add_one, hg]; rfl
      have hgB : g < B := Nat.lt_trans hgm (by decide)
      have hdl : (decDigits g).length ≤ 19 := ddg_len 18 g (by rw [← GB_pow]; exact hgm)
      have htl : (txt (G.take k)).length ≤ 19 * k := by
        have h1 := txt_len (G.take k) (fun x hx => HLT.out x (List.mem_of_mem_take hx))
        have h2 : (G.take k).length ≤ k := by rw [List.length_take]; omega
        omega
      obtain ⟨b, off, rfl, -⟩ := HR2.out.cell (k := k) (by have := HN.out; omega)
      have hcell := rd_at (HR2.out.next HBW.out) hg
      obtain ⟨t, ht⟩ : ∃ t, sb (decDigits g) = t := ⟨_, rfl⟩
      have HFM : Hid (Calls Tryz.prog 57 #[.int .u64 g, .int .i64 10] wr fun e w' => e = .returned (.string (sb (decDigits g))) ∧ Below wr.heap.size wr w') := Lib.hid (fmt_any g wr hgB (HPW.out.next HBW.out))
      rw [ht] at HFM
      have htsz : t.size = (decDigits g).length := by rw [← ht]; exact sb_size _
      have htc : strCells t = bc (decDigits g) := by rw [← ht]; unfold strCells bc; rw [sb_list]
      obtain ⟨m, hm⟩ : ∃ m, (decDigits g).length = m := ⟨_, rfl⟩
      have hpad : pad g = List.replicate (19 - m) 48 ++ decDigits g := by unfold pad; rw [hm]
      rw [hm] at htsz hdl
      obtain ⟨T, hT⟩ : ∃ T, txt (G.take k) = T := ⟨_, rfl⟩
      rw [hT] at HBD htl
      obtain ⟨D, hD⟩ : ∃ D, decDigits g = D := ⟨_, rfl⟩
      rw [hD] at htc hpad hm
      have HNX := Lib.hid (show txt (G.take (k + 1)) = if 0 < k then T ++ List.replicate (19 - m) 48 ++ D else D by
        rw [htk]
        by_cases h0 : 0 < k
        · rw [if_pos h0, txt_snoc (by intro e; have h1 := congrArg List.length e; rw [List.length_take, List.length_nil] at h1; have := HN.out; omega), hT, hpad, List.append_assoc]
        · rw [if_neg h0, show k = 0 by omega, List.take_zero]; simp [txt, hD])
      have HTC := Lib.hid htc
      have hTz : ¬ 0 < k → T = [] := fun h0 => by rw [← hT, show k = 0 by omega, List.take_zero]; rfl
      have hnl := HGL.out
      have HBL := Lib.hid (show (bc T).length ≤ 19 * k by rw [bc_len]; exact htl)
      clear hg hgm htk hgB htl ht htc hpad hm hT hD HTX HLT
      go_wp2_with fail
      refine HFM.out.mono ?_
      rintro e w3 ⟨rfl, hb3⟩
      have HW3 := Lib.hid (HBW.out.trans (hb3.mono HBW.out.size))
      have HBD3 := Lib.hid (isB_next HBD.out hb3)
      clear hb3 HFM
      by_cases h0 : 0 < k
      · have c2 : decide ((0 : Int) < (k : Int)) = true := decide_eq_true (by omega)
        have c2' : decide (0 < k) = true := decide_eq_true h0
        have HR19 := Lib.hid (fun W => run_back19 m hdl W)
        have hrp := Tryz.strings_Repeat ⟨#[48]⟩ (19 - m) w3 (by omega) (by show 1 * (19 - m) ≤ _; omega)
        rw [show (⟨#[48]⟩ : ByteArray).data.toList = [48] from rfl, repeat_zero, show ((19 - m : Nat) : Int) = 19 - (m : Int) by omega] at hrp
        obtain ⟨z, hz⟩ : ∃ z, sb (List.replicate (19 - m) 48) = z := ⟨_, rfl⟩
        have HRP : Hid (Calls Tryz.prog 58 #[.string ⟨#[48]⟩, .int .i64 (19 - (m : Int))] w3 fun e w' => e = .returned (.string (sb (List.replicate (19 - m) 48))) ∧ Below w3.heap.size w3 w') := Lib.hid hrp
        rw [hz] at HRP
        have HZC := Lib.hid (show strCells z = bc (List.replicate (19 - m) 48) by rw [← hz]; unfold strCells bc; rw [sb_list])
        have hzs : z.size = 19 - m := by rw [← hz, sb_size, List.length_replicate]
        clear hrp hz
        go_wp2_with (first | (refine wpList_dst 24 rfl ?_; refine wpList_run 24 rfl rfl _ (exec_bin .sub 3 _ (.const (.int .i64 19)) (.tmp 23) rfl _ _ _ rfl (by show Value.int .i64 (t.size : Int) = _; rw [htsz]) rfl (HR19.out _)) ?_))
        refine HRP.out.mono ?_
        rintro e w4 ⟨rfl, hb4⟩
        have HW4 := Lib.hid (HW3.out.trans (hb4.mono HW3.out.size))
        have HBD4 := Lib.hid (isB_next HBD3.out hb4)
        clear hb4 HRP
        go_wp2_with fail
        refine (write_any w2.heap.size w2.heap.size (bc T) z w4 HBD4.out HW4.out.size (by have := HBL.out; omega)).mono ?_
        rintro e w5 ⟨rfl, hi5, hb5⟩
        have HW5 := Lib.hid (HW4.out.trans hb5)
        have HBD5 := Lib.hid hi5
        clear hi5 hb5
        go_wp2_with fail
        refine (write_any w2.heap.size w2.heap.size (bc T ++ strCells z) t w5 HBD5.out HW5.out.size (by rw [List.length_append, strCells_length]; have := HBL.out; omega)).mono ?_
        rintro e w6 ⟨rfl, hi6, hb6⟩
        have HW6 := Lib.hid (HW5.out.trans hb6)
        have HBD6 := Lib.hid (show IsBuilder 52 5 w2.heap.size w2.heap.size (bc (txt (G.take (k + 1)))) w6 by
          rw [HNX.out, if_pos h0, bc_app, bc_app, ← HZC.out, ← HTC.out]; exact hi6)
        clear hi6 hb6
        go_wp2_with (first | (refine wpList_dst 29 rfl ?_; refine wpList_run 29 rfl rfl _ (exec_bin .add 3 _ (.tmp 13) (.const (.int .i64 1)) rfl _ _ _ rfl rfl rfl (run_incI k (by omega) _)) ?_))
        go_roundw
        case rel => exact ⟨k + 1, rfl, by omega, HBD6, HW6⟩
        case measure => simp [RowKit.intOf]; omega
      · have c2 : decide ((0 : Int) < (k : Int)) = false := decide_eq_false (by omega)
        have c2' : decide (0 < k) = false := decide_eq_false h0
        obtain rfl := hTz h0
        go_wp2_with fail
        refine (write_any w2.heap.size w2.heap.size (bc []) t w3 HBD3.out HW3.out.size (by have := HBL.out; omega)).mono ?_
        rintro e w6 ⟨rfl, hi6, hb6⟩
        have HW6 := Lib.hid (HW3.out.trans hb6)
        have HBD6 := Lib.hid (show IsBuilder 52 5 w2.heap.size w2.heap.size (bc (txt (G.take (k + 1)))) w6 by
          rw [HNX.out, if_neg h0, ← HTC.out]; exact hi6)
        clear hi6 hb6
        go_wp2_with (first | (refine wpList_dst 29 rfl ?_; refine wpList_run 29 rfl rfl _ (exec_bin .add 3 _ (.tmp 13) (.const (.int .i64 1)) rfl _ _ _ rfl rfl rfl (run_incI k (by omega) _)) ?_))
        go_roundw
        case rel => exact ⟨k + 1, rfl, by omega, HBD6, HW6⟩
        case measure => simp [RowKit.intOf]; omega
    · obtain rfl : k = n := by omega
      have c1 : decide ((k : Int) < (k : Int)) = false := decide_eq_false (by omega)
      have c1' : decide (k < k) = false := decide_eq_false (by omega)
      have hst := Tryz.Builder_String_any w2.heap.size w2.heap.size (txt (G.take k)) wr HBD.out HBW.out.size
      rw [List.take_of_length_le (by have := HN.out; omega), HTX.out] at hst
      have HST := Lib.hid hst
      have HBE := Lib.hid (HB2.out.trans (HBW.out.mono HB2.out.size))
      clear hst
      go_wp2_with fail
      refine HST.out.mono ?_
      rintro e w3 ⟨rfl, hb3⟩
      have HB3 := Lib.hid (HBE.out.trans (hb3.mono (Nat.le_trans HB2.out.size (Nat.le_refl _))))
      clear hb3
      go_wp2
      go_ret
      exact ⟨rfl, HB3.out⟩
end Go.Proofs.YtpmlihhofmblpaaGreatDoor

/- Sanity of the nat laws. -/
namespace Go.Proofs.YtpmlihhofmblpaaGreatDoor
open Go.RowKit Hm Wm Wn

theorem cS_of {s : ByteArray} (h : CanB s.data.toList) : cS (nB s) = s := by
  unfold cS nB
  rw [canS_num h]
  cases s
  simp [sb]
theorem cS_lit {n : Nat} {t : ByteArray} (h1 : nB t = n) (h2 : CanB t.data.toList) : cS n = t := by rw [← h1]; exact cS_of h2
theorem c300 : cS 300 = ⟨#[1, 44]⟩ := cS_lit (by decide) (by unfold CanB; decide)
theorem c255 : cS 255 = ⟨#[255]⟩ := cS_lit (by decide) (by unfold CanB; decide)
theorem c0 : cS 0 = ⟨#[]⟩ := cS_lit (by decide) (by unfold CanB; decide)
theorem c1 : cS 1 = ⟨#[1]⟩ := cS_lit (by decide) (by unfold CanB; decide)
theorem c5 : cS 5 = ⟨#[5]⟩ := cS_lit (by decide) (by unfold CanB; decide)
theorem c12 : cS 12 = ⟨#[12]⟩ := cS_lit (by decide) (by unfold CanB; decide)
theorem c256 : cS 256 = ⟨#[1, 0]⟩ := cS_lit (by decide) (by unfold CanB; decide)
theorem c65536 : cS 65536 = ⟨#[1, 0, 0]⟩ := cS_lit (by decide) (by unfold CanB; decide)
theorem c90000 : cS 90000 = ⟨#[1, 95, 144]⟩ := cS_lit (by decide) (by unfold CanB; decide)
theorem d65536 : Lib.decDigits 65536 = [54, 53, 53, 51, 54] := by
  rw [show Lib.decDigits 65536 = Lib.decDigits 6553 ++ [54] from dec_big (by decide), show Lib.decDigits 6553 = Lib.decDigits 655 ++ [51] from dec_big (by decide), show Lib.decDigits 655 = Lib.decDigits 65 ++ [53] from dec_big (by decide), show Lib.decDigits 65 = Lib.decDigits 6 ++ [53] from dec_big (by decide), Lib.decDigits_one (by decide)]
  rfl
theorem s_int (w : World) : Calls Tryz.prog 53 #[.int .i64 300] w fun e w' => e = .returned (.tuple #[.string ⟨#[1, 44]⟩, .int .i64 0]) ∧ Below w.heap.size w w' := by
  have h := int_any 300 w (by decide)
  rw [c300] at h
  exact h
theorem s_value (w : World) : Calls Tryz.prog 81 #[.string ⟨#[1, 44]⟩] w fun e w' => e = .returned (.tuple #[.int .i64 300, .int .i64 0]) ∧ Below w.heap.size w w' := by
  have h := value_any ⟨#[1, 44]⟩ w (by decide) (by decide)
  rw [show nB ⟨#[1, 44]⟩ = 300 by decide] at h
  exact h
theorem s_sub (w : World) : Calls Tryz.prog 127 #[.string ⟨#[1, 0]⟩, .string ⟨#[1]⟩] w fun e w' => e = .returned (.tuple #[.string ⟨#[255]⟩, .int .i64 0]) ∧ Below w.heap.size w w' := by
  have h := sub_any ⟨#[1, 0]⟩ ⟨#[1]⟩ w (by decide) (by decide) (by decide)
  rw [show nB ⟨#[1, 0]⟩ - nB ⟨#[1]⟩ = 255 by decide, c255] at h
  exact h
theorem s_low (w : World) : Calls Tryz.prog 127 #[.string ⟨#[1]⟩, .string ⟨#[2]⟩] w fun e w' => e = .returned (.tuple #[.string ⟨#[]⟩, .int .i64 3]) ∧ w' = w := by
  have h := sub_low ⟨#[1]⟩ ⟨#[2]⟩ w (by decide)
  rw [c0] at h
  exact h
theorem s_div (w : World) : Calls Tryz.prog 79 #[.string ⟨#[1, 95, 145]⟩, .string ⟨#[1, 44]⟩] w fun e w' => e = .returned (.tuple #[.string ⟨#[1, 44]⟩, .string ⟨#[1]⟩, .int .i64 0]) ∧ Below w.heap.size w w' := by
  have h := divModS_any ⟨#[1, 95, 145]⟩ ⟨#[1, 44]⟩ w (by decide) (by decide) (by decide)
  rw [show nB ⟨#[1, 95, 145]⟩ / nB ⟨#[1, 44]⟩ = 300 by decide, show nB ⟨#[1, 95, 145]⟩ % nB ⟨#[1, 44]⟩ = 1 by decide, c300, c1] at h
  exact h
theorem s_div0 (w : World) : Calls Tryz.prog 79 #[.string ⟨#[1]⟩, .string ⟨#[]⟩] w fun e w' => e = .returned (.tuple #[.string ⟨#[]⟩, .string ⟨#[]⟩, .int .i64 1]) ∧ Below w.heap.size w w' := by
  have h := divMod_zero ⟨#[1]⟩ ⟨#[]⟩ w (by decide) (by decide)
  rw [c0] at h
  exact h
theorem s_parse (w : World) : Calls Tryz.prog 36 #[.string ⟨#[54, 53, 53, 51, 54]⟩] w fun e w' => e = .returned (.tuple #[.string ⟨#[1, 0, 0]⟩, .int .i64 0]) ∧ Below w.heap.size w w' := by
  have h := parse_yes [54, 53, 53, 51, 54] w (by decide) (by decide)
  rw [show decN [54, 53, 53, 51, 54] = 65536 by decide, c65536] at h
  exact h
theorem s_no (w : World) : Calls Tryz.prog 36 #[.string ⟨#[48, 48, 55]⟩] w fun e w' => e = .returned (.tuple #[.string ⟨#[]⟩, .int .i64 27]) ∧ w' = w := by
  have h := parse_no [48, 48, 55] w (by decide) (by decide)
  rw [c0] at h
  exact h
theorem s_add (w : World) : Calls Tryz.prog 80 #[.string ⟨#[255]⟩, .string ⟨#[1]⟩] w fun e w' => e = .returned (.string ⟨#[1, 0]⟩) ∧ Below w.heap.size w w' := by
  have h := add_any ⟨#[255]⟩ ⟨#[1]⟩ w (by decide) (by decide)
  rw [show nB ⟨#[255]⟩ + nB ⟨#[1]⟩ = 256 by decide, c256] at h
  exact h
theorem s_mul (w : World) : Calls Tryz.prog 100 #[.string ⟨#[1, 44]⟩, .string ⟨#[1, 44]⟩] w fun e w' => e = .returned (.string ⟨#[1, 95, 144]⟩) ∧ Below w.heap.size w w' := by
  have h := mul_any ⟨#[1, 44]⟩ ⟨#[1, 44]⟩ w (by decide) (by decide)
  rw [show nB ⟨#[1, 44]⟩ * nB ⟨#[1, 44]⟩ = 90000 by decide, c90000] at h
  exact h
theorem s_gcd (w : World) : Calls Tryz.prog 83 #[.string ⟨#[84]⟩, .string ⟨#[36]⟩] w fun e w' => e = .returned (.string ⟨#[12]⟩) ∧ Below w.heap.size w w' := by
  have h := gcd_any ⟨#[84]⟩ ⟨#[36]⟩ w (by decide) (by decide)
  rw [show Nat.gcd (nB ⟨#[84]⟩) (nB ⟨#[36]⟩) = 12 by rfl, c12] at h
  exact h
theorem s_gcd0 (w : World) : Calls Tryz.prog 83 #[.string ⟨#[]⟩, .string ⟨#[5]⟩] w fun e w' => e = .returned (.string ⟨#[5]⟩) ∧ Below w.heap.size w w' := by
  have h := gcd_any ⟨#[]⟩ ⟨#[5]⟩ w (by decide) (by decide)
  rw [show Nat.gcd (nB ⟨#[]⟩) (nB ⟨#[5]⟩) = 5 by rfl, c5] at h
  exact h
theorem s_text (w : World) (hT : Pow w) : Calls Tryz.prog 29 #[.string ⟨#[1, 0, 0]⟩] w fun e w' => e = .returned (.string ⟨#[54, 53, 53, 51, 54]⟩) ∧ Below w.heap.size w w' := by
  have h := textS_any ⟨#[1, 0, 0]⟩ w (by decide) hT
  rw [show nB ⟨#[1, 0, 0]⟩ = 65536 by decide, d65536] at h
  exact h
theorem s_valid (w : World) : Calls Tryz.prog 51 #[.string ⟨#[0, 1]⟩] w fun e w' => e = .returned (.bool false) ∧ w' = w := by
  have h := valid_any ⟨#[0, 1]⟩ w
  rw [show validB ⟨#[0, 1]⟩ = false by decide] at h
  exact h
theorem s_clean (w : World) : Calls Tryz.prog 85 #[.string ⟨#[0, 1]⟩] w fun e w' => e = .returned (.string ⟨#[1]⟩) ∧ w' = w := by
  have h := clean_any ⟨#[0, 1]⟩ w
  rw [show sb (canS (numB (⟨#[0, 1]⟩ : ByteArray).data.toList)) = ⟨#[1]⟩ from c1] at h
  exact h
theorem s_cmp (w : World) : Calls Tryz.prog 82 #[.string ⟨#[2]⟩, .string ⟨#[1, 0]⟩] w fun e w' => e = .returned (.int .i64 (-1)) ∧ w' = w := by
  have h := cmp_any ⟨#[2]⟩ ⟨#[1, 0]⟩ w
  rw [show cmpN (nB ⟨#[2]⟩) (nB ⟨#[1, 0]⟩) = -1 by decide] at h
  exact h
end Go.Proofs.YtpmlihhofmblpaaGreatDoor

/- The calls of the nat laws, with named results. -/
namespace Go.Proofs.YtpmlihhofmblpaaGreatDoor
open Go.RowKit Hm Wm Wn

theorem cS_len {n k : Nat} (h : n < 256 ^ k) : (cS n).size ≤ k := by rw [cS_size]; exact canS_len_le h
theorem cS_sum {x y : ByteArray} {k : Nat} (hx : x.size ≤ k) (hy : y.size ≤ k) : (cS (nB x + nB y)).size ≤ k + 1 := by
  have h1 : nB x < 256 ^ k := Nat.lt_of_lt_of_le (nB_lt x) (Nat.pow_le_pow_right (by decide) hx)
  have h2 : nB y < 256 ^ k := Nat.lt_of_lt_of_le (nB_lt y) (Nat.pow_le_pow_right (by decide) hy)
  refine cS_len ?_
  rw [Nat.pow_succ]
  omega
theorem cS_prod {x y : ByteArray} {j k : Nat} (hx : x.size ≤ j) (hy : y.size ≤ k) : (cS (nB x * nB y)).size ≤ j + k := by
  have h1 : nB x < 256 ^ j := Nat.lt_of_lt_of_le (nB_lt x) (Nat.pow_le_pow_right (by decide) hx)
  have h2 : nB y < 256 ^ k := Nat.lt_of_lt_of_le (nB_lt y) (Nat.pow_le_pow_right (by decide) hy)
  refine cS_len ?_
  rw [Nat.pow_add]
  exact Nat.mul_lt_mul_of_lt_of_le h1 (Nat.le_of_lt h2) (Nat.pow_pos (by decide))
theorem cS_less {n : Nat} {x : ByteArray} {k : Nat} (h : n ≤ nB x) (hx : x.size ≤ k) : (cS n).size ≤ k :=
  cS_len (Nat.lt_of_le_of_lt h (Nat.lt_of_lt_of_le (nB_lt x) (Nat.pow_le_pow_right (by decide) hx)))
theorem addC (x y z : ByteArray) (w : World) (hx : x.size ≤ 40000) (hy : y.size ≤ 40000) (h : cS (nB x + nB y) = z) : Calls Tryz.prog 80 #[.string x, .string y] w fun e w' => e = .returned (.string z) ∧ Below w.heap.size w w' := by
  subst h; exact add_any x y w hx hy
theorem mulC (x y z : ByteArray) (w : World) (hx : x.size ≤ 40000) (hy : y.size ≤ 40000) (h : cS (nB x * nB y) = z) : Calls Tryz.prog 100 #[.string x, .string y] w fun e w' => e = .returned (.string z) ∧ Below w.heap.size w w' := by
  subst h; exact mul_any x y w hx hy
theorem cleanC (x z : ByteArray) (w : World) (h : cS (nB x) = z) : Calls Tryz.prog 85 #[.string x] w fun e w' => e = .returned (.string z) ∧ w' = w := by
  subst h; exact clean_any x w
theorem cmpC (x y : ByteArray) (k : Int) (w : World) (h : cmpN (nB x) (nB y) = k) : Calls Tryz.prog 82 #[.string x, .string y] w fun e w' => e = .returned (.int .i64 k) ∧ w' = w := by
  subst h; exact cmp_any x y w
theorem subC (x y z : ByteArray) (w : World) (hx : x.size ≤ 40000) (hy : y.size ≤ 40000) (hle : nB y ≤ nB x) (h : cS (nB x - nB y) = z) : Calls Tryz.prog 127 #[.string x, .string y] w fun e w' => e = .returned (.tuple #[.string z, .int .i64 0]) ∧ Below w.heap.size w w' := by
  subst h; exact sub_any x y w hx hy hle
theorem validC (n : Nat) (x : ByteArray) (w : World) (h : cS n = x) : Calls Tryz.prog 51 #[.string x] w fun e w' => e = .returned (.bool true) ∧ w' = w := by
  have h1 := valid_any x w
  rw [show validB x = true by rw [← h]; exact validB_cS n] at h1
  exact h1
theorem divC (x y q r : ByteArray) (w : World) (hx : x.size ≤ 40000) (hy : y.size ≤ 40000) (h0 : nB y ≠ 0) (hq : cS (nB x / nB y) = q) (hr : cS (nB x % nB y) = r) : Calls Tryz.prog 79 #[.string x, .string y] w fun e w' => e = .returned (.tuple #[.string q, .string r, .int .i64 0]) ∧ Below w.heap.size w w' := by
  subst hq; subst hr; exact divModS_any x y w hx hy h0
theorem gcdC (x y g : ByteArray) (w : World) (hx : x.size ≤ 40000) (hy : y.size ≤ 40000) (h : cS (Nat.gcd (nB x) (nB y)) = g) : Calls Tryz.prog 83 #[.string x, .string y] w fun e w' => e = .returned (.string g) ∧ Below w.heap.size w w' := by
  subst h; exact gcd_any x y w hx hy
theorem run_eqS (x y : ByteArray) (b : Bool) (h : decide (x = y) = b) (w : World) : (binOp .eql 9 (.string x) (.string y)).run Tryz.prog w = .ok (.bool b) w := by
  subst h
  have h1 := run_eql_str w x.data.toList y.data.toList
  rw [show sb x.data.toList = x by cases x; simp [sb], show sb y.data.toList = y by cases y; simp [sb]] at h1
  rw [h1]
  congr 2
  refine decide_eq_decide.2 ⟨fun h => ?_, fun h => by rw [h]⟩
  cases x
  cases y
  simpa using h
theorem cmpN_swap (a b : Nat) : -cmpN b a = cmpN a b := by unfold cmpN; split <;> split <;> omega
theorem cmpN_bounds (a b : Nat) : -1 ≤ cmpN a b ∧ cmpN a b ≤ 1 := by unfold cmpN; split <;> (try split) <;> omega
theorem cmpN_add (a b c : Nat) : cmpN (a + c) (b + c) = cmpN a b := by
  unfold cmpN
  congr 1
  · exact propext (by omega)
  · congr 1
    exact propext (by omega)
theorem cmpN_mul (a b : Nat) {c : Nat} (hc : 0 < c) : cmpN (a * c) (b * c) = cmpN a b := by
  unfold cmpN
  congr 1
  · exact propext (Nat.mul_lt_mul_right hc)
  · congr 1
    exact propext (Nat.mul_lt_mul_right hc)
theorem exec_negI {oi : Oper} {a : Act} {w : World} (x : Operand) (ho : oi.op = .unOp .neg 3 x) (k' k : Int) (hb : -1 ≤ k ∧ k ≤ 1) (hk : -k' = k) (hx : a.eval x = .int .i64 k') : (execOp a.eval oi).run Tryz.prog w = .ok (.value (.int .i64 k)) w := by
  have hw : IntKind.i64.wrap (-k') = k := by rw [hk]; simp [IntKind.wrap, IntKind.bits, IntKind.signed]; omega
  unfold execOp
  simp only [ho, hx]
  simp [go_sem, hw]
end Go.Proofs.YtpmlihhofmblpaaGreatDoor
