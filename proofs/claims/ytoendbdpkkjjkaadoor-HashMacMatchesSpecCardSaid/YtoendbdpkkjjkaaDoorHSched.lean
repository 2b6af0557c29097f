/- Contract of schedule. -/
import Derived.Test.YtoendbdpkkjjkaaDoorHState
import Derived.StillTailTactics
namespace Go.Proofs.YtoendbdpkkjjkaaDoor
open Go.RowKit Hm

theorem sch_fill (l : List UInt8) (k : Nat) (x : UInt32) (hx : x = if k < 16 then word l k else nextW (sch l k) k) (hk : k < 64) : (wc (sch l k) ++ zw (64 - k)).set k (.int .u32 x.toNat) = wc (sch l (k + 1)) ++ zw (64 - (k + 1)) := by
  subst hx
  obtain ⟨d, hd⟩ : ∃ d, 64 - k = d + 1 := ⟨63 - k, by omega⟩
  have e : 64 - (k + 1) = d := by omega
  have hl : (wc (sch l k)).length = k := by rw [wc_len, sch_len]
  rw [hd, e, List.set_append_right _ _ (by omega), hl, Nat.sub_self]
  simp only [sch, wc, zw, List.map_append, List.replicate_succ, List.map_cons, List.map_nil, List.set_cons_zero, List.append_assoc, List.singleton_append]

theorem word_cells (l : List UInt8) (k : Nat) (hl : l.length = 64) (hk : k < 16) : ∃ a b c d, ((bc l).drop (4 * k)).take 4 = bc [a, b, c, d] ∧ be4 a b c d = word l k := by
  refine ⟨l.getD (4 * k) 0, l.getD (4 * k + 1) 0, l.getD (4 * k + 2) 0, l.getD (4 * k + 3) 0, ?_, rfl⟩
  rw [← bc_drop, ← bc_take]
  congr 1
  apply List.ext_getElem?
  intro j
  rw [List.getElem?_take]
  rcases j with _ | _ | _ | _ | j
  · simp [List.getElem?_drop]; rw [List.getElem?_eq_getElem (by omega)]; simp
  · simp [List.getElem?_drop]; rw [List.getElem?_eq_getElem (by omega)]; simp
  · simp [List.getElem?_drop]; rw [List.getElem?_eq_getElem (by omega)]; simp
  · simp [List.getElem?_drop]; rw [List.getElem?_eq_getElem (by omega)]; simp
  · simp; omega

theorem word_at (a b c d : UInt8) (w : World) :
    Calls Tryd.prog 67 #[.agg (bc [a, b, c, d]).toArray] w fun e w' => e = .returned (.int .u32 (be4 a b c d).toNat) ∧ Below w.heap.size w w' := word_any a b c d w

theorem shr3_u32 (x : UInt32) : (x.toNat : Int) / 8 = ((UInt32.ofNat (x.toNat / 2 ^ 3)).toNat : Int) := shr_u32 x 3
theorem shr10_u32 (x : UInt32) : (x.toNat : Int) / 1024 = ((UInt32.ofNat (x.toNat / 2 ^ 10)).toNat : Int) := shr_u32 x 10
theorem add4m_u32 (a b c d : UInt32) : ((a.toNat : Int) + (b.toNat : Int) + (c.toNat : Int) + (d.toNat : Int)) % 4294967296 = ((a + b + c + d).toNat : Int) := by
  rw [UInt32.toNat_add, UInt32.toNat_add, UInt32.toNat_add]; omega
theorem wp_forget {P : Program} {c : Code} {Q : Exit → Act → World → Prop} {a : Act} {w : World} (n m : Nat) (h : ∀ w9 : World, w9 = (w.drewN n).drewN m → Code.wp P c Q a w9) : Code.wp P c Q a ((w.drewN n).drewN m) := h _ rfl
/-- A region whose last operations are forced: those before them, then the tail, in the world behind the draw. -/
theorem wp_still_tail {P : Program} {id : Nat} {l : List Oper} {Q : Exit → Act → World → Prop} {a : Act} {w : World} (n : Nat) (hm : P.follows .mixedOrders = true) (hB : Region.lexTailB .any l.toArray n = true)
    (h : wpStill P l.toArray w.drew (fun a' => wpList P l.toArray Q (l.drop n) a' w.drew) (l.take n) a) : (Code.region id l.toArray true).wp P Q a w := wp_region_still_tail n hm hB h
/-- A callee that leaves the world, behind earlier draws. -/
theorem quiet_more {P : Program} {f : FuncId} {args : Array Value} {w : World} {a n : Nat} {v : Value} (h : Calls P f args (w.drewN (a + n)) fun e w' => e = .returned v ∧ w' = w.drewN (a + n)) :
    Calls P f args (w.drewN (a + n)) fun e w'' => e = .returned v ∧ ∃ m, w'' = w.drewN (a + m) := h.mono fun _ _ ⟨h1, h2⟩ => ⟨h1, n, h2⟩
theorem rotr_q (x : UInt32) (n : Nat) (w : World) (h0 : 0 < n) (h1 : n < 32) :
    Calls Tryd.prog 63 #[.int .u32 x.toNat, .int .i64 n] w fun e w' => e = .returned (.int .u32 (rotr x n).toNat) ∧ w' = w :=
  (rotr_any x n w h0 h1).mono fun _ _ ⟨h, e⟩ => ⟨h, e.symm⟩

/-- .. at whatever number: ONE contract, for a contract that does not fit is tried at length. -/
theorem rot_z (x : UInt32) (z : Int) (w : World) (h0 : 0 < z) (h1 : z < 32) : Calls Tryd.prog 63 #[.int .u32 x.toNat, .int .i64 z] w fun e w' => e = .returned (.int .u32 (rotr x z.toNat).toNat) ∧ w' = w := by
  have h := rotr_q x z.toNat w (by omega) (by omega)
  rwa [show ((z.toNat : Nat) : Int) = z from by omega] at h

set_option maxRecDepth 100000 in
set_option maxHeartbeats 4000000 in
theorem schedule_any (l : List UInt8) (w : World) (hl : l.length = 64) :
    Calls Tryd.prog 62 #[.agg (bc l).toArray] w fun e w' => e = .returned (.agg (wc (sch l 64)).toArray) ∧ Below w.heap.size w w' := by
  have HL := Lib.hid hl
  have HB0 := Lib.hid (((Blk.new w 33 (bc l)).alloc (.cells (zw 64).toArray 66)).alloc (.cells (zw 64).toArray 66))
  have HB1 := Lib.hid ((Blk.new (w.alloc (.cells (bc l).toArray 33)) 66 (zw 64)).alloc (.cells (zw 64).toArray 66))
  have HB2 := Lib.hid (Blk.new ((w.alloc (.cells (bc l).toArray 33)).alloc (.cells (zw 64).toArray 66)) 66 (zw 64))
  clear hl
  go_enter Tryd.func62, Tryd.ntmps62
  go_wp2_with (first | (refine wpList_alloc_zero rfl 66 rfl (zw 64) w64_zero ?_))
  go_loopw [8] (fun i wr => ∃ k : Nat, i = .int .i64 k ∧ k ≤ 16 ∧ Hid (Blk wr w.heap.size 33 (bc l)) ∧ Hid (Blk wr (w.heap.size + 1) 66 (zw 64)) ∧ Hid (Blk wr (w.heap.size + 1 + 1) 66 (wc (sch l k) ++ zw (64 - k))) ∧ Below w.heap.size w wr)
    (fun i _ => 16 - (intOf i).toNat)
  case atStart =>
    refine ⟨0, rfl, by omega, HB0.out, (by have h := HB1.out; rw [size_alloc] at h; exact h : Blk _ _ _ _), (by have h := HB2.out; rw [size_alloc, size_alloc] at h; exact h : Blk _ _ _ _), (((Below.refl _ _).alloc (Nat.le_refl _) _).alloc (by simp) _).alloc (by simp; omega) _⟩
  case round =>
    obtain ⟨k, rfl, hk, H0, H1, H2, hbel⟩ := hrel
    clear HB0 HB1 HB2
    by_cases hlt : k < 16
    · obtain ⟨a, b, c, d, hcs, hwd⟩ := word_cells l k HL.out hlt
      have HCS := Lib.hid hcs
      have HWD := Lib.hid hwd
      clear hcs hwd
      have harr := fun (W : World) => run_arrayAt 103 4 5 a4_under W (some ⟨w.heap.size, 4 * k, none⟩) (64 - 4 * k) (64 - 4 * k) (by omega)
      have hsl := fun (W : World) => run_slice_from 33 64 blk_under W w.heap.size 0 .i64 (4 * (k : Int)) (4 * k) (by omega) (by omega)
      rw [Nat.zero_add] at hsl
      have hrg := H0.out.range (4 * k) 4
      rw [HCS.out] at hrg
      have HRG := Lib.hid hrg
      clear hrg
      go_wp2_with (first | (refine wpList_load_mid rfl _ (.tmp 15) rfl w.heap.size (4 * k) rfl (bc [a, b, c, d]) _ HRG.out a4_under rfl (by rw [a4_size]; rfl) ?_))
      refine (word_at a b c d _).mono ?_
      rintro e w2 ⟨rfl, hb2⟩
      rw [HWD.out]
      have G0 := Lib.hid (H0.out.next hb2)
      have G1 := Lib.hid (H1.out.next hb2)
      have G2 := Lib.hid (H2.out.next hb2)
      have hc : w2.cell? ⟨w.heap.size + 1 + 1, k, none⟩ = some (.int .u32 0) := by
        rw [G2.out.cell k, List.getElem?_append_right (by rw [wc_len, sch_len]; exact Nat.le_refl _), wc_len, sch_len, Nat.sub_self]
        obtain ⟨e, he⟩ : ∃ e, 64 - k = e + 1 := ⟨63 - k, by omega⟩
        rw [he]; rfl
      have hf : w2.frozen? ⟨w.heap.size + 1 + 1, k, none⟩ = false := G2.out.frozen k
      have hs2 : w.heap.size + 1 + 1 < w2.heap.size := G2.out.lt
      go_wp2
      go_roundw
      case rel =>
        refine ⟨k + 1, by go_num, by omega, ?_, ?_, ?_, ?_⟩
        · exact G0.out.far (p := ⟨w.heap.size + 1 + 1, k, none⟩) (by show w.heap.size ≠ w.heap.size + 1 + 1; omega) _
        · exact G1.out.far (p := ⟨w.heap.size + 1 + 1, k, none⟩) (by show w.heap.size + 1 ≠ w.heap.size + 1 + 1; omega) _
        · have := G2.out.set_ k (.int .u32 (word l k).toNat)
          rw [sch_fill l k (word l k) (by rw [if_pos hlt]) (by omega)] at this
          exact this
        · exact (hbel.trans (hb2.mono hbel.size)).setCell (p := ⟨w.heap.size + 1 + 1, k, none⟩) (by show w.heap.size ≤ w.heap.size + 1 + 1; omega) _
      case measure => simp [intOf]; omega
    · have G2 := H2.out
      rw [show k = 16 from by omega] at G2
      have H2' := Lib.hid G2
      clear G2 H2
      go_wp2
      go_loopw [5] (fun i wr => ∃ t : Nat, i = .int .i64 t ∧ 16 ≤ t ∧ t ≤ 64 ∧ Hid (Blk wr w.heap.size 33 (bc l)) ∧ Hid (Blk wr (w.heap.size + 1) 66 (zw 64)) ∧ Hid (Blk wr (w.heap.size + 1 + 1) 66 (wc (sch l t) ++ zw (64 - t))) ∧ Below w.heap.size w wr)
        (fun i _ => 64 - (intOf i).toNat)
      case atStart => exact ⟨16, rfl, by omega, by omega, H0.out, H1.out, H2'.out, hbel⟩
      case round =>
        clear H0 H1 H2' hbel
        obtain ⟨t, rfl, ht, ht2, H0, H1, H2, hbel⟩ := hrel
        by_cases hlt : t < 64
        · obtain ⟨i15, h15⟩ : ∃ i : Nat, t = i + 15 := ⟨t - 15, by omega⟩
          obtain ⟨i2, h2⟩ : ∃ i : Nat, t = i + 2 := ⟨t - 2, by omega⟩
          obtain ⟨i16, h16⟩ : ∃ i : Nat, t = i + 16 := ⟨t - 16, by omega⟩
          obtain ⟨i7, h7⟩ : ∃ i : Nat, t = i + 7 := ⟨t - 7, by omega⟩
          have hcell : ∀ i, i < t → ∃ x : UInt32, (sch l t).getD i 0 = x ∧ wr.cell? ⟨w.heap.size + 1 + 1, i, none⟩ = some (.int .u32 x.toNat) := by
            intro i hi
            have hls := sch_len l t
            refine ⟨_, rfl, ?_⟩
            rw [H2.out.cell i, List.getElem?_append_left (by rw [wc_len, sch_len]; exact hi), wc_at (by rw [sch_len]; exact hi)]
            simp [hls, hi]
          obtain ⟨x15, e15, c15⟩ := hcell i15 (by omega)
          obtain ⟨x2, e2, c2⟩ := hcell i2 (by omega)
          obtain ⟨x16, e16, c16⟩ := hcell i16 (by omega)
          obtain ⟨x7, e7, c7⟩ := hcell i7 (by omega)
          have HN : Hid (nextW (sch l t) t = x16 + (rotr x15 7 ^^^ rotr x15 18 ^^^ UInt32.ofNat (x15.toNat / 2 ^ 3)) + x7 + (rotr x2 17 ^^^ rotr x2 19 ^^^ UInt32.ofNat (x2.toNat / 2 ^ 10))) := by
            show nextW _ _ = _
            unfold nextW
            rw [show t - 16 = i16 from by omega, show t - 15 = i15 from by omega, show t - 7 = i7 from by omega, show t - 2 = i2 from by omega, e15, e2, e16, e7]
          have w15 : IntKind.i64.wrap ((t : Int) - 15) = (i15 : Int) := by rw [show (t : Int) - 15 = (i15 : Int) from by omega]; exact IntWalk.i64_in _ (by omega)
          have w2 : IntKind.i64.wrap ((t : Int) - 2) = (i2 : Int) := by rw [show (t : Int) - 2 = (i2 : Int) from by omega]; exact IntWalk.i64_in _ (by omega)
          have w16 : IntKind.i64.wrap ((t : Int) - 16) = (i16 : Int) := by rw [show (t : Int) - 16 = (i16 : Int) from by omega]; exact IntWalk.i64_in _ (by omega)
          have w7 : IntKind.i64.wrap ((t : Int) - 7) = (i7 : Int) := by rw [show (t : Int) - 7 = (i7 : Int) from by omega]; exact IntWalk.i64_in _ (by omega)
          have b15 : (i15 : Int) < 64 := by omega
          have b2 : (i2 : Int) < 64 := by omega
          have b16 : (i16 : Int) < 64 := by omega
          have b7 : (i7 : Int) < 64 := by omega
          have HH := Lib.hid (And.intro h15 (And.intro h2 (And.intro h16 h7)))
          clear hcell h15 h2 h16 h7 e15 e2 e16 e7
          go_wp2_with fail
          go_quiet ((go_at_call 63; exact Calls.quiet_of_same (rot_z _ _ _ (by omega) (by omega))))
          go_wp2_with fail
          go_quiet ((go_at_call 63; exact quiet_more (rot_z _ _ _ (by omega) (by omega))))
          go_wp2_with fail
          refine wp_forget _ _ ?_
          intro w9 hw9
          refine wp_still_tail 15 (by kernel_rfl) (by kernel_rfl) ?_
          have d16 : w9.drew.cell? ⟨w.heap.size + 1 + 1, i16, none⟩ = some (.int .u32 x16.toNat) := by rw [hw9]; exact c16
          have d7 : w9.drew.cell? ⟨w.heap.size + 1 + 1, i7, none⟩ = some (.int .u32 x7.toNat) := by rw [hw9]; exact c7
          have K0 : Hid (Blk w9.drew w.heap.size 33 (bc l)) := by rw [hw9]; exact H0.out
          have K1 : Hid (Blk w9.drew (w.heap.size + 1) 66 (zw 64)) := by rw [hw9]; exact H1.out
          have K2 : Hid (Blk w9.drew (w.heap.size + 1 + 1) 66 (wc (sch l t) ++ zw (64 - t))) := by rw [hw9]; exact H2.out
          have KB : Hid (Below w.heap.size w w9.drew) := by rw [hw9]; exact (drewN_below (drewN_below hbel _) _).drew
          generalize w9.drew = w8 at d16 d7 K0 K1 K2 KB ⊢
          have bt : (t : Int) < 64 := by omega
          clear hw9 w9 c15 c2 c16 c7 H0 H1 H2 hbel
          simp only [List.take_succ_cons, List.take_zero, List.drop_succ_cons, List.drop_zero]
          repeat still_step
          refine wpStill_nil ?_
          have hc : w8.cell? ⟨w.heap.size + 1 + 1, t, none⟩ = some (.int .u32 0) := by
            rw [K2.out.cell t, List.getElem?_append_right (by rw [wc_len, sch_len]; exact Nat.le_refl _), wc_len, sch_len, Nat.sub_self]
            obtain ⟨e, he⟩ : ∃ e, 64 - t = e + 1 := ⟨63 - t, by omega⟩
            rw [he]; rfl
          have hf : w8.frozen? ⟨w.heap.size + 1 + 1, t, none⟩ = false := K2.out.frozen t
          have hs2 : w.heap.size + 1 + 1 < w8.heap.size := K2.out.lt
          clear d16 d7
          go_wp2
          go_roundw
          case rel =>
            have hv := K2.out.set_ t (.int .u32 (nextW (sch l t) t).toNat)
            rw [sch_fill l t _ (by rw [if_neg (by omega)]) hlt] at hv
            refine ⟨t + 1, by go_num, by omega, by omega, ?_, ?_, ?_, ?_⟩
            · exact K0.out.far (p := ⟨w.heap.size + 1 + 1, t, none⟩) (by show w.heap.size ≠ w.heap.size + 1 + 1; omega) _
            · exact K1.out.far (p := ⟨w.heap.size + 1 + 1, t, none⟩) (by show w.heap.size + 1 ≠ w.heap.size + 1 + 1; omega) _
            · rw [HN.out] at hv
              show Blk _ _ _ _
              simp only [xor_u32, shr3_u32, shr10_u32, add4m_u32]
              exact hv
            · exact KB.out.setCell (p := ⟨w.heap.size + 1 + 1, t, none⟩) (by show w.heap.size ≤ w.heap.size + 1 + 1; omega) _
          case measure => simp [intOf]; omega
        · obtain rfl : t = 64 := by omega
          have h2 := H2.out
          rw [show zw (64 - 64) = [] from rfl, List.append_nil] at h2
          have HS := Lib.hid h2
          clear h2 H2
          go_wp2_with (first | (refine wpList_load_all rfl _ (.tmp 3) rfl (w.heap.size + 1 + 1) _ (wc (sch l 64)) _ rfl HS.out w64_under rfl (by rw [w64_size, wc_len, sch_len]) ?_) | (refine wpList_store_all rfl _ (.tmp 2) (.tmp 73) rfl (w.heap.size + 1) _ (zw 64) (wc (sch l 64)) rfl rfl H1.out (by rw [wc_len, zw_len, sch_len]) (by rw [w64_size, wc_len, sch_len]) (wc_one _) ?_; intro w3 HB3 ho3))
          exact bodyPost_ret (results_blk rfl _ _ (w.heap.size + 1) _ (wc (sch l 64)) _ rfl HB3.out w64_under rfl (by rw [w64_size, wc_len, sch_len])) rfl ⟨rfl, hbel.trans (ho3.below (by omega))⟩
end Go.Proofs.YtoendbdpkkjjkaaDoor
