/- Text. -/
import Derived.Test.YtkjnfobaoaaopaaGreatDoorN33
namespace Go.Proofs.YtkjnfobaoaaopaaGreatDoor
open Go.RowKit Go.Lib Hm Wm Wn

theorem isB_next {T e : TypeId} {B b : Nat} {bs : List Value} {w w' : World} (h : IsBuilder T e B b bs w) (hb : Below w.heap.size w w') : IsBuilder T e B b bs w' := by
  have key : ∀ p, BuilderAt T e B b p bs w → BuilderAt T e B b p bs w' := by
    rintro p ⟨h1, v, h2, h3, h4⟩
    have hlt : b < w.heap.size := (Array.getElem?_eq_some_iff.1 h2).1
    exact ⟨h1, v, (hb.block b hlt).trans h2, own_below h3 hb, h4⟩
  rcases h with h | h
  · exact .inl (key _ h)
  · exact .inr (key _ h)
theorem run_back19 (m : Nat) (h : m ≤ 19) (w : World) : (binOp .sub 3 (.int .i64 19) (.int .i64 m)).run Tryz.prog w = .ok (.int .i64 ((19 - m : Nat) : Int)) w := by
  simp [binOp, go_sem]
  simp [IntKind.wrap, IntKind.bits, IntKind.signed]; omega
theorem gB_few (s : ByteArray) : nB s < B ^ (s.size + 1) := Nat.lt_of_lt_of_le (nB_lt s) (Nat.le_trans (Nat.pow_le_pow_left (by decide) _) (Nat.pow_le_pow_right B_pos (Nat.le_succ _)))
theorem flat_len : ∀ (l : List Nat), (∀ g ∈ l, g < GB) → (l.map pad).flatten.length ≤ 19 * l.length
  | [], _ => by simp
  | g :: r, h => by
    have hd := ddg_len 18 g (by rw [← GB_pow]; exact h g (by simp))
    have h2 := flat_len r fun x hx => h x (by simp [hx])
    rw [List.map_cons, List.flatten_cons, List.length_append, List.length_cons]
    simp only [pad, List.length_append, List.length_replicate]
    omega
theorem txt_len (l : List Nat) (h : ∀ g ∈ l, g < GB) : (txt l).length ≤ 19 * l.length := by
  cases l with
  | nil => simp [txt]
  | cons g r =>
    have hd := ddg_len 18 g (by rw [← GB_pow]; exact h g (by simp))
    have h2 := flat_len r fun x hx => h x (by simp [hx])
    rw [txt, List.length_append, List.length_cons]
    omega
def TeR (w2 : World) (G : List Nat) (n : Nat) (iv : Value) (wr : World) : Prop :=
  ∃ k : Nat, iv = .int .i64 k ∧ k ≤ n ∧ Hid (IsBuilder 78 5 w2.heap.size w2.heap.size (bc (txt (G.take k))) wr) ∧ Hid (Below w2.heap.size w2 wr)
set_option maxRecDepth 100000 in
set_option maxHeartbeats 400000 in
theorem textS_any (s : ByteArray) (w : World) (hs : s.size ≤ 40000) (hT : Pow w) : Calls Tryz.prog 28 #[.string s] w fun e w' => e = .returned (.string (sb (decDigits (nB s)))) ∧ Below w.heap.size w w' := by
  have HRD := Lib.hid (readN s w (by omega))
  have HGR := Lib.hid (fun A c W h h' => groups_any (s.size + 1) (by omega) A c (nB s) W (gB_few s) h h')
  have HTX := Lib.hid (txt_dec (nB s))
  have HLT := Lib.hid (fun g (h : g ∈ (gN (nB s)).reverse) => gN_lt (nB s) g (List.mem_reverse.1 h))
  have hgl := gN_few (gB_few s)
  have HGL := Lib.hid (show (gN (nB s)).reverse.length ≤ 100000 by rw [List.length_reverse]; omega)
  have HPW := Lib.hid hT
  obtain ⟨G, hG⟩ : ∃ G, (gN (nB s)).reverse = G := ⟨_, rfl⟩
  rw [hG] at HGR HTX HLT HGL
  obtain ⟨n, hn⟩ : ∃ n, G.length = n := ⟨_, rfl⟩
  rw [hn] at HGR HGL
  have HN := Lib.hid hn
  clear hgl hT hG hn hs
  go_enter Tryz.func28, Tryz.ntmps28
  go_wp2_with fail
  refine HRD.out.mono ?_
  rintro e w1 ⟨v1, rfl, ⟨A1, c1, rfl, h1, k1⟩, hb1⟩
  have HR1 := Lib.hid (And.intro h1 k1)
  have HB1 := Lib.hid hb1
  clear h1 k1 hb1 HRD
  go_wp2_with fail
  refine (HGR.out A1 c1 w1 HR1.out.1 HR1.out.2).mono ?_
  rintro e w2 ⟨A2, c2, rfl, h2, hb2⟩
  have HR2 := Lib.hid h2
  have HB2 := Lib.hid (HB1.out.trans (hb2.mono HB1.out.size))
  clear h2 hb2 HGR HR1
  replace HPW := Lib.hid (HPW.out.next HB2.out)
  go_wp2_with fail
  go_loopw [13] (TeR w2 G n) (fun iv _ => n - (RowKit.intOf iv).toNat)
  case atStart => exact ⟨0, rfl, Nat.zero_le _, Lib.hid (fresh_isBuilder _ _ w2), Lib.hid ((Below.refl _ _).alloc (Nat.le_refl _) _)⟩
  case round =>
    obtain ⟨k, rfl, hkn, HBD, HBW⟩ := hrel
    by_cases hlt : k < n
    · have c1 : decide ((k : Int) < (n : Int)) = true := decide_eq_true (by omega)
      have c1' : decide (k < n) = true := decide_eq_true hlt
      obtain ⟨g, hg⟩ : ∃ g, G[k]? = some g := ⟨_, List.getElem?_eq_getElem (by have := HN.out; omega)⟩
      have hgm := HLT.out g (List.mem_of_getElem? hg)
      have htk : G.take (k + 1) = G.take k ++ [g] := by rw [List.take_add_one, hg]; rfl
      have hgB : g < B := Nat.lt_trans hgm (by decide)
      have hdl : (decDigits g).length ≤ 19 := ddg_len 18 g (by rw [← GB_pow]; exact hgm)
      have htl : (txt (G.take k)).length ≤ 19 * k := by
        have h1 := txt_len (G.take k) (fun x hx => HLT.out x (List.mem_of_mem_take hx))
        have h2 : (G.take k).length ≤ k := by rw [List.length_take]; omega
        omega
      obtain ⟨b, off, rfl, -⟩ := HR2.out.cell (k := k) (by have := HN.out; omega)
      have hcell := rd_at (HR2.out.next HBW.out) hg
      obtain ⟨t, ht⟩ : ∃ t, sb (decDigits g) = t := ⟨_, rfl⟩
      have HFM : Hid (Calls Tryz.prog 50 #[.int .u64 g, .int .i64 10] wr fun e w' => e = .returned (.string (sb (decDigits g))) ∧ Below wr.heap.size wr w') := Lib.hid (fmt_any g wr hgB (HPW.out.next HBW.out))
      rw [ht] at HFM
      have htsz : t.size = (decDigits g).length := by rw [← ht]; exact sb_size _
      have htc : strCells t = bc (decDigits g) := by rw [← ht]; unfold strCells bc; rw [sb_list]
      obtain ⟨m, hm⟩ : ∃ m, (decDigits g).length = m := ⟨_, rfl⟩
      have hpad : pad g = List.replicate (19 - m) 48 ++ decDigits g := by unfold pad; rw [hm]
      rw [hm] at htsz hdl
      obtain ⟨T, hT⟩ : ∃ T, txt (G.take k) = T := ⟨_, rfl⟩
      rw [hT] at HBD htl
      obtain ⟨D, hD⟩ : ∃ D, decDigits g = D := ⟨_, rfl⟩
      rw [hD] at htc hpad hm
      have HNX := Lib.hid (show txt (G.take (k + 1)) = if 0 < k then T ++ List.replicate (19 - m) 48 ++ D else D by
        rw [htk]
        by_cases h0 : 0 < k
        · rw [if_pos h0, txt_snoc (by intro e; have h1 := congrArg List.length e; rw [List.length_take, List.length_nil] at h1; have := HN.out; omega), hT, hpad, List.append_assoc]
        · rw [if_neg h0, show k = 0 by omega, List.take_zero]; simp [txt, hD])
      have HTC := Lib.hid htc
      have hTz : ¬ 0 < k → T = [] := fun h0 => by rw [← hT, show k = 0 by omega, List.take_zero]; rfl
      have hnl := HGL.out
      have HBL := Lib.hid (show (bc T).length ≤ 19 * k by rw [bc_len]; exact htl)
      clear hg hgm htk hgB htl ht htc hpad hm hT hD HTX HLT
      go_wp2_with fail
      refine HFM.out.mono ?_
      rintro e w3 ⟨rfl, hb3⟩
      have HW3 := Lib.hid (HBW.out.trans (hb3.mono HBW.out.size))
      have HBD3 := Lib.hid (isB_next HBD.out hb3)
      clear hb3 HFM
      by_cases h0 : 0 < k
      · have c2 : decide ((0 : Int) < (k : Int)) = true := decide_eq_true (by omega)
        have c2' : decide (0 < k) = true := decide_eq_true h0
        have HR19 := Lib.hid (fun W => run_back19 m hdl W)
        have hrp := Tryz.strings_Repeat ⟨#[48]⟩ (19 - m) w3 (by omega) (by show 1 * (19 - m) ≤ _; omega)
        rw [show (⟨#[48]⟩ : ByteArray).data.toList = [48] from rfl, repeat_zero, show ((19 - m : Nat) : Int) = 19 - (m : Int) by omega] at hrp
        obtain ⟨z, hz⟩ : ∃ z, sb (List.replicate (19 - m) 48) = z := ⟨_, rfl⟩
        have HRP : Hid (Calls Tryz.prog 52 #[.string ⟨#[48]⟩, .int .i64 (19 - (m : Int))] w3 fun e w' => e = .returned (.string (sb (List.replicate (19 - m) 48))) ∧ Below w3.heap.size w3 w') := Lib.hid hrp
        rw [hz] at HRP
        have HZC := Lib.hid (show strCells z = bc (List.replicate (19 - m) 48) by rw [← hz]; unfold strCells bc; rw [sb_list])
        have hzs : z.size = 19 - m := by rw [← hz, sb_size, List.length_replicate]
        clear hrp hz
        go_wp2_with (first | (refine wpList_dst 24 rfl ?_; refine wpList_run 24 rfl rfl _ (exec_bin .sub 3 _ (.const (.int .i64 19)) (.tmp 23) rfl _ _ _ rfl (by show Value.int .i64 (t.size : Int) = _; rw [htsz]) rfl (HR19.out _)) ?_))
        refine HRP.out.mono ?_
        rintro e w4 ⟨rfl, hb4⟩
        have HW4 := Lib.hid (HW3.out.trans (hb4.mono HW3.out.size))
        have HBD4 := Lib.hid (isB_next HBD3.out hb4)
        clear hb4 HRP
        go_wp2_with fail
        refine (write_any w2.heap.size w2.heap.size (bc T) z w4 HBD4.out HW4.out.size (by have := HBL.out; omega)).mono ?_
        rintro e w5 ⟨rfl, hi5, hb5⟩
        have HW5 := Lib.hid (HW4.out.trans hb5)
        have HBD5 := Lib.hid hi5
        clear hi5 hb5
        go_wp2_with fail
        refine (write_any w2.heap.size w2.heap.size (bc T ++ strCells z) t w5 HBD5.out HW5.out.size (by rw [List.length_append, strCells_length]; have := HBL.out; omega)).mono ?_
        rintro e w6 ⟨rfl, hi6, hb6⟩
        have HW6 := Lib.hid (HW5.out.trans hb6)
        have HBD6 := Lib.hid (show IsBuilder 78 5 w2.heap.size w2.heap.size (bc (txt (G.take (k + 1)))) w6 by
          rw [HNX.out, if_pos h0, bc_app, bc_app, ← HZC.out, ← HTC.out]; exact hi6)
        clear hi6 hb6
        go_wp2_with (first | (refine wpList_dst 29 rfl ?_; refine wpList_run 29 rfl rfl _ (exec_bin .add 3 _ (.tmp 13) (.const (.int .i64 1)) rfl _ _ _ rfl rfl rfl (run_incI k (by omega) _)) ?_))
        go_roundw
        case rel => exact ⟨k + 1, rfl, by omega, HBD6, HW6⟩
        case measure => simp [RowKit.intOf]; omega
      · have c2 : decide ((0 : Int) < (k : Int)) = false := decide_eq_false (by omega)
        have c2' : decide (0 < k) = false := decide_eq_false h0
        obtain rfl := hTz h0
        go_wp2_with fail
        refine (write_any w2.heap.size w2.heap.size (bc []) t w3 HBD3.out HW3.out.size (by have := HBL.out; omega)).mono ?_
        rintro e w6 ⟨rfl, hi6, hb6⟩
        have HW6 := Lib.hid (HW3.out.trans hb6)
        have HBD6 := Lib.hid (show IsBuilder 78 5 w2.heap.size w2.heap.size (bc (txt (G.take (k + 1)))) w6 by
          rw [HNX.out, if_neg h0, ← HTC.out]; exact hi6)
        clear hi6 hb6
        go_wp2_with (first | (refine wpList_dst 29 rfl ?_; refine wpList_run 29 rfl rfl _ (exec_bin .add 3 _ (.tmp 13) (.const (.int .i64 1)) rfl _ _ _ rfl rfl rfl (run_incI k (by omega) _)) ?_))
        go_roundw
        case rel => exact ⟨k + 1, rfl, by omega, HBD6, HW6⟩
        case measure => simp [RowKit.intOf]; omega
    · obtain rfl : k = n := by omega
      have c1 : decide ((k : Int) < (k : Int)) = false := decide_eq_false (by omega)
      have c1' : decide (k < k) = false := decide_eq_false (by omega)
      have hst := Tryz.Builder_String_any w2.heap.size w2.heap.size (txt (G.take k)) wr HBD.out HBW.out.size
      rw [List.take_of_length_le (by have := HN.out; omega), HTX.out] at hst
      have HST := Lib.hid hst
      have HBE := Lib.hid (HB2.out.trans (HBW.out.mono HB2.out.size))
      clear hst
      go_wp2_with fail
      refine HST.out.mono ?_
      rintro e w3 ⟨rfl, hb3⟩
      have HB3 := Lib.hid (HBE.out.trans (hb3.mono (Nat.le_trans HB2.out.size (Nat.le_refl _))))
      clear hb3
      go_wp2
      go_ret
      exact ⟨rfl, HB3.out⟩
end Go.Proofs.YtkjnfobaoaaopaaGreatDoor
