/- The reference's words of a block. -/
import Derived.Test.YtoendbdpkkjjkaaDoorHRWords
namespace Go.Proofs.YtoendbdpkkjjkaaDoor
open Go.RowKit Hm Wm

theorem be4_wrapped (a b c d : UInt8) : bits .or .u32 (bits .or .u32 (bits .or .u32 (IntKind.u32.wrap (IntKind.u32.wrap (a.toNat : Int) * 16777216)) (IntKind.u32.wrap (IntKind.u32.wrap (b.toNat : Int) * 65536))) (IntKind.u32.wrap (IntKind.u32.wrap (c.toNat : Int) * 256))) (IntKind.u32.wrap (d.toNat : Int)) = ((be4 a b c d).toNat : Int) := by
  have ha := a.toNat_lt
  have hb := b.toNat_lt
  have hc := c.toNat_lt
  have hd := d.toNat_lt
  rw [← be4_eq]
  simp only [wrap_u32]
  congr 1
  · congr 1
    · congr 1 <;> omega
    · omega
  · omega
theorem word_eq (l : List UInt8) (k : Nat) (hl : l.length = 64) (hk : k < 16) : ∃ a b c d : UInt8, l[4 * k]? = some a ∧ l[4 * k + 1]? = some b ∧ l[4 * k + 2]? = some c ∧ l[4 * k + 3]? = some d ∧ be4 a b c d = word l k := by
  refine ⟨l[4 * k]'(by omega), l[4 * k + 1]'(by omega), l[4 * k + 2]'(by omega), l[4 * k + 3]'(by omega), List.getElem?_eq_getElem _, List.getElem?_eq_getElem _, List.getElem?_eq_getElem _, List.getElem?_eq_getElem _, ?_⟩
  have g : ∀ i (h : i < l.length), l.getD i 0 = l[i] := fun i h => by rw [List.getD_eq_getElem?_getD, List.getElem?_eq_getElem h]; rfl
  unfold word
  rw [g _ (by omega), g _ (by omega), g _ (by omega), g _ (by omega)]

set_option maxRecDepth 100000 in
set_option maxHeartbeats 4000000 in
theorem words_any (A : Option Addr) (c : Nat) (l : List UInt8) (w : World) (hl : l.length = 64) (hr : Rd w A (bc l)) :
    Calls Tryd.prog 37 #[.slice A 64 c] w fun e w' => e = .returned (.agg (wc (sch l 64)).toArray) ∧ Below w.heap.size w w' := by
  have HL := Lib.hid hl
  obtain ⟨bb, off, rfl, hcells⟩ := hr (by intro e; have := bc_len l; rw [e, hl] at this; cases this)
  have HC := Lib.hid hcells
  have HBB := Lib.hid (show bb < w.heap.size from World.block_lt_of_cell? w _ (hcells 0 _ (bc_at (by omega))))
  have hb0 := Blk.new w 66 (zw 64)
  have HB1 := Lib.hid (hb0.alloc (.cells (zw 64).toArray 66))
  have hb2 := Blk.new (w.alloc (.cells (zw 64).toArray 66)) 66 (zw 64)
  rw [size_alloc] at hb2
  have HB2 := Lib.hid hb2
  have HBW := Lib.hid (((Below.refl w.heap.size w).alloc (Nat.le_refl _) (.cells (zw 64).toArray 66)).alloc (by simp) (.cells (zw 64).toArray 66))
  clear hl hr hcells hb0 hb2
  go_enter Tryd.func37, Tryd.ntmps37
  go_wp2_with (first | (refine wpList_alloc_zero rfl 66 rfl (zw 64) w64_zero ?_))
  go_loopw [4] (fun i wr => ∃ k : Nat, i = .int .i64 k ∧ k ≤ 16 ∧ Hid (Blk wr w.heap.size 66 (zw 64)) ∧ Hid (Blk wr (w.heap.size + 1) 66 (wc (sch l k) ++ zw (64 - k))) ∧ Hid (Below w.heap.size w wr))
    (fun i _ => 16 - (intOf i).toNat)
  case atStart => exact ⟨0, rfl, by omega, HB1.out, HB2.out, HBW.out⟩
  case round =>
    obtain ⟨k, rfl, hk, H1, H2, HB⟩ := hrel
    clear HB1 HB2 HBW
    by_cases hlt : k < 16
    · obtain ⟨a, b, c1, d, ha, hb, hc, hd, hwd⟩ := word_eq l k HL.out hlt
      have HWD := Lib.hid hwd
      have cell : ∀ (i : Nat) (x : UInt8), l[i]? = some x → wr.cell? ⟨bb, off + i, none⟩ = some (.int .u8 x.toNat) := fun i x hx => by
        rw [HB.out.cell (p := ⟨bb, off + i, none⟩) HBB.out]
        exact HC.out i _ (by simp [bc, hx])
      obtain ⟨i0, e0⟩ : ∃ i0 : Nat, 4 * k = i0 := ⟨_, rfl⟩
      obtain ⟨i1, e1⟩ : ∃ i1 : Nat, 4 * k + 1 = i1 := ⟨_, rfl⟩
      obtain ⟨i2, e2⟩ : ∃ i2 : Nat, 4 * k + 2 = i2 := ⟨_, rfl⟩
      obtain ⟨i3, e3⟩ : ∃ i3 : Nat, 4 * k + 3 = i3 := ⟨_, rfl⟩
      rw [e0] at ha
      rw [e1] at hb
      rw [e2] at hc
      rw [e3] at hd
      have c0 := cell _ a ha
      have c1' := cell _ b hb
      have c2 := cell _ c1 hc
      have c3 := cell _ d hd
      have w0 : IntKind.i64.wrap (4 * (k : Int)) = (i0 : Int) := by rw [show 4 * (k : Int) = (i0 : Int) from by omega]; exact IntWalk.i64_in _ (by omega)
      have w1 : IntKind.i64.wrap ((i0 : Int) + 1) = (i1 : Int) := by rw [show (i0 : Int) + 1 = (i1 : Int) from by omega]; exact IntWalk.i64_in _ (by omega)
      have w2 : IntKind.i64.wrap ((i0 : Int) + 2) = (i2 : Int) := by rw [show (i0 : Int) + 2 = (i2 : Int) from by omega]; exact IntWalk.i64_in _ (by omega)
      have w3 : IntKind.i64.wrap ((i0 : Int) + 3) = (i3 : Int) := by rw [show (i0 : Int) + 3 = (i3 : Int) from by omega]; exact IntWalk.i64_in _ (by omega)
      have b0 : (i0 : Int) < 64 := by omega
      have b1 : (i1 : Int) < 64 := by omega
      have b2 : (i2 : Int) < 64 := by omega
      have b3 : (i3 : Int) < 64 := by omega
      have bk : (k : Int) < 16 := by omega
      have bk2 : (k : Int) < 64 := by omega
      clear hwd ha hb hc hd cell e0 e1 e2 e3
      go_wp2_with fail
      refine wp_still_tail 35 (by kernel_rfl) (by kernel_rfl) ?_
      have d0 : wr.drew.cell? ⟨bb, off + i0, none⟩ = some (.int .u8 a.toNat) := c0
      have d1 : wr.drew.cell? ⟨bb, off + i1, none⟩ = some (.int .u8 b.toNat) := c1'
      have d2 : wr.drew.cell? ⟨bb, off + i2, none⟩ = some (.int .u8 c1.toNat) := c2
      have d3 : wr.drew.cell? ⟨bb, off + i3, none⟩ = some (.int .u8 d.toNat) := c3
      have K1 : Hid (Blk wr.drew w.heap.size 66 (zw 64)) := H1.out.drew
      have K2 : Hid (Blk wr.drew (w.heap.size + 1) 66 (wc (sch l k) ++ zw (64 - k))) := H2.out.drew
      have KB : Hid (Below w.heap.size w wr.drew) := HB.out.drew
      generalize wr.drew = w8 at d0 d1 d2 d3 K1 K2 KB ⊢
      clear c0 c1' c2 c3 H1 H2 HB
      simp only [List.take_succ_cons, List.take_zero, List.drop_succ_cons, List.drop_zero]
      repeat still_step
      refine wpStill_nil ?_
      rw [be4_wrapped, HWD.out]
      have hc : w8.cell? ⟨w.heap.size + 1, k, none⟩ = some (.int .u32 0) := by
        rw [K2.out.cell k, List.getElem?_append_right (by rw [wc_len, sch_len]; exact Nat.le_refl _), wc_len, sch_len, Nat.sub_self]
        obtain ⟨e, he⟩ : ∃ e, 64 - k = e + 1 := ⟨63 - k, by omega⟩
        rw [he]; rfl
      have hf : w8.frozen? ⟨w.heap.size + 1, k, none⟩ = false := K2.out.frozen k
      have hs2 : w.heap.size + 1 < w8.heap.size := K2.out.lt
      clear d0 d1 d2 d3 w0 w1 w2 w3 b0 b1 b2 b3
      go_wp2
      go_roundw
      case rel =>
        refine ⟨k + 1, by go_num, by omega, ?_, ?_, ?_⟩
        · exact K1.out.far (p := ⟨w.heap.size + 1, k, none⟩) (by show w.heap.size ≠ w.heap.size + 1; omega) _
        · have := K2.out.set_ k (.int .u32 (word l k).toNat)
          rw [sch_fill l k (word l k) (by rw [if_pos hlt]) (by omega)] at this
          exact this
        · exact KB.out.setCell (p := ⟨w.heap.size + 1, k, none⟩) (by show w.heap.size ≤ w.heap.size + 1; omega) _
      case measure => simp [intOf]; omega
    · have G2 := H2.out
      rw [show k = 16 from by omega] at G2
      have H2' := Lib.hid G2
      clear G2 H2
      go_wp2_with fail
      go_loopw [5] (fun i wr => ∃ t : Nat, i = .int .i64 t ∧ 16 ≤ t ∧ t ≤ 64 ∧ Hid (Blk wr w.heap.size 66 (zw 64)) ∧ Hid (Blk wr (w.heap.size + 1) 66 (wc (sch l t) ++ zw (64 - t))) ∧ Hid (Below w.heap.size w wr))
        (fun i _ => 64 - (intOf i).toNat)
      case atStart => exact ⟨16, rfl, by omega, by omega, H1.out, H2'.out, HB.out⟩
      case round =>
        clear H1 H2' HB
        obtain ⟨t, rfl, ht, ht2, H1, H2, HB⟩ := hrel
        by_cases hlt : t < 64
        · obtain ⟨i15, h15⟩ : ∃ i : Nat, t = i + 15 := ⟨t - 15, by omega⟩
          obtain ⟨i2, h2⟩ : ∃ i : Nat, t = i + 2 := ⟨t - 2, by omega⟩
          obtain ⟨i16, h16⟩ : ∃ i : Nat, t = i + 16 := ⟨t - 16, by omega⟩
          obtain ⟨i7, h7⟩ : ∃ i : Nat, t = i + 7 := ⟨t - 7, by omega⟩
          have hcell : ∀ i, i < t → ∃ x : UInt32, (sch l t).getD i 0 = x ∧ wr.cell? ⟨w.heap.size + 1, i, none⟩ = some (.int .u32 x.toNat) := by
            intro i hi
            have hls := sch_len l t
            refine ⟨_, rfl, ?_⟩
            rw [H2.out.cell i, List.getElem?_append_left (by rw [wc_len, sch_len]; exact hi), wc_at (by rw [sch_len]; exact hi)]
            simp [hls, hi]
          obtain ⟨x15, e15, c15⟩ := hcell i15 (by omega)
          obtain ⟨x2, e2, c2⟩ := hcell i2 (by omega)
          obtain ⟨x16, e16, c16⟩ := hcell i16 (by omega)
          obtain ⟨x7, e7, c7⟩ := hcell i7 (by omega)
          have HN : Hid (nextW (sch l t) t = x16 + (rotr x15 7 ^^^ rotr x15 18 ^^^ UInt32.ofNat (x15.toNat / 2 ^ 3)) + x7 + (rotr x2 17 ^^^ rotr x2 19 ^^^ UInt32.ofNat (x2.toNat / 2 ^ 10))) := by
            show nextW _ _ = _
            unfold nextW
            rw [show t - 16 = i16 from by omega, show t - 15 = i15 from by omega, show t - 7 = i7 from by omega, show t - 2 = i2 from by omega, e15, e2, e16, e7]
          have w15 : IntKind.i64.wrap ((t : Int) - 15) = (i15 : Int) := by rw [show (t : Int) - 15 = (i15 : Int) from by omega]; exact IntWalk.i64_in _ (by omega)
          have w2 : IntKind.i64.wrap ((t : Int) - 2) = (i2 : Int) := by rw [show (t : Int) - 2 = (i2 : Int) from by omega]; exact IntWalk.i64_in _ (by omega)
          have w16 : IntKind.i64.wrap ((t : Int) - 16) = (i16 : Int) := by rw [show (t : Int) - 16 = (i16 : Int) from by omega]; exact IntWalk.i64_in _ (by omega)
          have w7 : IntKind.i64.wrap ((t : Int) - 7) = (i7 : Int) := by rw [show (t : Int) - 7 = (i7 : Int) from by omega]; exact IntWalk.i64_in _ (by omega)
          have b15 : (i15 : Int) < 64 := by omega
          have b2 : (i2 : Int) < 64 := by omega
          have b16 : (i16 : Int) < 64 := by omega
          have b7 : (i7 : Int) < 64 := by omega
          have HH := Lib.hid (And.intro h15 (And.intro h2 (And.intro h16 h7)))
          clear hcell h15 h2 h16 h7 e15 e2 e16 e7
          go_wp2_with fail
          go_quiet ((go_at_call 38; exact Calls.quiet_of (rrot_z _ _ _ (by omega) (by omega))))
          go_wp2_with fail
          refine wp_forget1 _ ?_
          intro w9 hw9
          have c2' : w9.cell? ⟨w.heap.size + 1, i2, none⟩ = some (.int .u32 x2.toNat) := by rw [hw9]; exact c2
          have c16' : w9.cell? ⟨w.heap.size + 1, i16, none⟩ = some (.int .u32 x16.toNat) := by rw [hw9]; exact c16
          have c7' : w9.cell? ⟨w.heap.size + 1, i7, none⟩ = some (.int .u32 x7.toNat) := by rw [hw9]; exact c7
          have J1 : Hid (Blk w9 w.heap.size 66 (zw 64)) := by rw [hw9]; exact H1.out
          have J2 : Hid (Blk w9 (w.heap.size + 1) 66 (wc (sch l t) ++ zw (64 - t))) := by rw [hw9]; exact H2.out
          have JB : Hid (Below w.heap.size w w9) := by rw [hw9]; exact drewN_below HB.out _
          clear hw9 c15 c2 c16 c7 H1 H2 HB
          go_quiet ((go_at_call 38; exact Calls.quiet_of (rrot_z _ _ _ (by omega) (by omega))))
          go_wp2_with fail
          refine wp_forget1 _ ?_
          intro wx hwx
          refine wp_still_tail 15 (by kernel_rfl) (by kernel_rfl) ?_
          have d16 : wx.drew.cell? ⟨w.heap.size + 1, i16, none⟩ = some (.int .u32 x16.toNat) := by rw [hwx]; exact c16'
          have d7 : wx.drew.cell? ⟨w.heap.size + 1, i7, none⟩ = some (.int .u32 x7.toNat) := by rw [hwx]; exact c7'
          have K1 : Hid (Blk wx.drew w.heap.size 66 (zw 64)) := by rw [hwx]; exact J1.out
          have K2 : Hid (Blk wx.drew (w.heap.size + 1) 66 (wc (sch l t) ++ zw (64 - t))) := by rw [hwx]; exact J2.out
          have KB : Hid (Below w.heap.size w wx.drew) := by rw [hwx]; exact (drewN_below JB.out _).drew
          generalize wx.drew = w8 at d16 d7 K1 K2 KB ⊢
          have bt : (t : Int) < 64 := by omega
          clear hwx wx c2' c16' c7' J1 J2 JB
          simp only [List.take_succ_cons, List.take_zero, List.drop_succ_cons, List.drop_zero]
          repeat still_step
          refine wpStill_nil ?_
          have hc : w8.cell? ⟨w.heap.size + 1, t, none⟩ = some (.int .u32 0) := by
            rw [K2.out.cell t, List.getElem?_append_right (by rw [wc_len, sch_len]; exact Nat.le_refl _), wc_len, sch_len, Nat.sub_self]
            obtain ⟨e, he⟩ : ∃ e, 64 - t = e + 1 := ⟨63 - t, by omega⟩
            rw [he]; rfl
          have hf : w8.frozen? ⟨w.heap.size + 1, t, none⟩ = false := K2.out.frozen t
          have hs2 : w.heap.size + 1 < w8.heap.size := K2.out.lt
          clear d16 d7
          go_wp2
          go_roundw
          case rel =>
            have hv := K2.out.set_ t (.int .u32 (nextW (sch l t) t).toNat)
            rw [sch_fill l t _ (by rw [if_neg (by omega)]) hlt] at hv
            refine ⟨t + 1, by go_num, by omega, by omega, ?_, ?_, ?_⟩
            · exact K1.out.far (p := ⟨w.heap.size + 1, t, none⟩) (by show w.heap.size ≠ w.heap.size + 1; omega) _
            · rw [HN.out] at hv
              show Blk _ _ _ _
              simp only [xor_u32, shr3_u32, shr10_u32, add4m_u32]
              exact hv
            · exact KB.out.setCell (p := ⟨w.heap.size + 1, t, none⟩) (by show w.heap.size ≤ w.heap.size + 1; omega) _
          case measure => simp [intOf]; omega
        · obtain rfl : t = 64 := by omega
          have h2 := H2.out
          rw [show zw (64 - 64) = [] from rfl, List.append_nil] at h2
          have HS := Lib.hid h2
          clear h2 H2
          go_wp2_with (first | (refine wpList_load_all rfl _ (.tmp 3) rfl (w.heap.size + 1) _ (wc (sch l 64)) _ rfl HS.out w64_under rfl (by rw [w64_size, wc_len, sch_len]) ?_) | (refine wpList_store_all rfl _ (.tmp 2) (.tmp 100) rfl w.heap.size _ (zw 64) (wc (sch l 64)) rfl rfl H1.out (by rw [wc_len, zw_len, sch_len]) (by rw [w64_size, wc_len, sch_len]) (wc_one _) ?_; intro w3 HB3 ho3))
          exact bodyPost_ret (results_blk rfl _ _ w.heap.size _ (wc (sch l 64)) _ rfl HB3.out w64_under rfl (by rw [w64_size, wc_len, sch_len])) rfl ⟨rfl, HB.out.trans (ho3.below (Nat.le_refl _))⟩
end Go.Proofs.YtoendbdpkkjjkaaDoor
