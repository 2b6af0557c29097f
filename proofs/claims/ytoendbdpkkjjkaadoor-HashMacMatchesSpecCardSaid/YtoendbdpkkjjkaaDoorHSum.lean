/- Contracts of a stream's Sum and of Sum. -/
import Derived.Test.YtoendbdpkkjjkaaDoorHReg
namespace Go.Proofs.YtoendbdpkkjjkaaDoor
open Go.RowKit Hm

theorem Sm.sum_ {cs : List Value} {m : List UInt8} (h : Sm cs (m ++ pad m.length)) : ∃ v : H8, cs.toArray.extract 0 8 = (wc v.toL).toArray ∧ v.bytes = Hm.sum m ∧ ∃ r n, cs = smc v r n := by
  obtain ⟨v, r, hs, rfl⟩ := h
  refine ⟨v, ?_, hs.sum, r, _, rfl⟩
  simp [smc, wc_len, H8.toL_len]

theorem run_field_v (v : H8) (r : List UInt8) (n : Nat) (W : World) : (Instr.field 36 (.agg (smc v r n).toArray) 0).run Tryd.prog W = .ok (.agg (wc v.toL).toArray) W := by
  have hu := Tryd.underlying36
  have hag : ∀ W, (isAgg 31).run Tryd.prog W = .ok true W := fun W => by kernel_rfl
  have hsz : ∀ W, (sizeOf 31).run Tryd.prog W = .ok 8 W := fun W => by kernel_rfl
  have e : (smc v r n).toArray.extract 0 8 = (wc v.toL).toArray := by simp [smc, wc_len, H8.toL_len]
  generalize (smc v r n).toArray = X at e ⊢
  simp only [Instr.field, Sem.run_bind, run_underlying hu, Result.andThen_ok, asAgg]
  simp [part, hag, hsz, e]
theorem run_fieldAt_sm (W : World) (b : Nat) : (Instr.fieldAt 36 (.pointer (some ⟨b, 0, none⟩)) 2).run Tryd.prog W = .ok (.pointer (some ⟨b, 72, none⟩)) W := by kernel_rfl
theorem run_load_u64 (W : World) (p : Addr) (v : Value) (h : W.cell? p = some v) : (Instr.loadAt 34 (.pointer (some p))).run Tryd.prog W = .ok v W := by
  have hag : ∀ W, (isAgg 34).run Tryd.prog W = .ok false W := fun W => by kernel_rfl
  simp [Instr.loadAt, Instr.sureAddr, loadVar, hag, run_load, h]
theorem own_out {w : World} {base : Nat} {v : Value} {l : List UInt8} (h : OwnB w base v l) : ∃ A c, v = .slice A l.length c ∧ Rd w A (bc l) ∧ l.length ≤ c := by
  obtain ⟨A, c, rfl, _, hc⟩ := h.form
  exact ⟨A, c, rfl, h.rd, hc⟩
/-- What stays while the Sum of a stream is taken: its cells. -/
def SumS (w : World) (cs : List Value) (W : World) : Prop := Blk W w.heap.size 36 cs ∧ Below w.heap.size w W ∧ Glob W
theorem SumS.next {w W W' : World} {cs : List Value} (h : SumS w cs W) (hb : Below W.heap.size W W') : SumS w cs W' :=
  ⟨h.1.next hb, h.2.1.trans (hb.mono h.2.1.size), h.2.2.next hb⟩
theorem Glob.drew {W : World} (h : Glob W) : Glob W.drew := ⟨h.ini, h.tab⟩
theorem SumS.drew {w W : World} {cs : List Value} (h : SumS w cs W) : SumS w cs W.drew := ⟨h.1, h.2.1.drew, h.2.2.drew⟩
theorem SumS.only {w W W' : World} {cs : List Value} {g : Nat} (h : SumS w cs W) (ho : Only g W W') (h2 : 2 < w.heap.size) (hg : w.heap.size < g) : SumS w cs W' :=
  ⟨ho.blk h.1 (by omega), h.2.1.trans (ho.below (by omega)), h.2.2.only ho (by omega)⟩

set_option maxRecDepth 100000 in
set_option maxHeartbeats 2000000 in
theorem streamSum_any (cs : List Value) (m : List UInt8) (w : World) (h : Sm cs m) (hg : Glob w) (hlen : m.length ≤ 1000000000000) :
    Calls Tryd.prog 19 #[.agg cs.toArray] w fun e w' => e = .returned (.agg (bc (Hm.sum m)).toArray) ∧ Below w.heap.size w w' := by
  have hg2 := hg.two
  have HS := Lib.hid h
  have hb0 := (Blk.new w 36 cs).alloc (.cells (zb 32).toArray 24)
  have hb1 := Blk.new (w.alloc (.cells cs.toArray 36)) 24 (zb 32)
  rw [size_alloc] at hb1
  have hb := ((Below.refl w.heap.size w).alloc (Nat.le_refl _) (.cells cs.toArray 36)).alloc (by simp) (.cells (zb 32).toArray 24)
  have HB0 := Lib.hid hb0
  have HB1 := Lib.hid hb1
  have HG := Lib.hid (hg.next hb)
  have HBW := Lib.hid hb
  have HL := Lib.hid hlen
  clear h hg hb hlen hb0 hb1
  go_enter Tryd.func19, Tryd.ntmps19
  go_wp2_with (first | (refine wpList_alloc_zero rfl 24 rfl (zb 32) a32_zero ?_))
  go_frame
  generalize (w.alloc (.cells cs.toArray 36)).alloc (.cells (zb 32).toArray 24) = w1 at HB0 HB1 HG HBW ⊢
  have hl : ∀ W : World, SumS w cs W → (Instr.loadAt 36 (.pointer (some ⟨w.heap.size, 0, none⟩))).run Tryd.prog W = .ok (.agg cs.toArray) W := fun W hW => run_loadAt_mid W w.heap.size 0 _ cs _ (by have := hW.1.range 0 cs.length; simpa using this) Tryd.underlying36 rfl HS.out.size_
  have hl2 : ∀ W : World, SumS w cs W → W.cell? ⟨w.heap.size, 72, none⟩ = some (.int .u64 m.length) := fun W hW => (hW.1.cell 72).trans HS.out.at_
  have hS : SumS w cs w1 := ⟨HB0.out, HBW.out, HG.out⟩
  have hK := HB1.out.drew
  rw [size_alloc]
  clear HB0 HB1 HG HBW
  refine wp_region_held_drew (S := SumS w cs) (by kernel_rfl) hS.drew (fun hS => ?_)
  generalize w1.drew = w2 at hS hK ⊢
  refine reg_take (i := 0) (some 3) rfl rfl rfl (by kernel_rfl) (by kernel_rfl) (by kernel_rfl) (.agg cs.toArray) (fun _ _ _ h => h) (fun W hW => exec_load 36 (.tmp 1) rfl _ _ rfl (hl W hW)) hS ?_
  go_frame
  refine reg_take (i := 1) (some 4) rfl rfl rfl (by kernel_rfl) (by kernel_rfl) (by kernel_rfl) (.pointer (some ⟨w.heap.size, 72, none⟩)) (fun _ _ _ h => h) (fun W _ => exec_fieldAddr 36 (.tmp 1) 2 rfl _ _ rfl (run_fieldAt_sm W w.heap.size)) hS ?_
  go_frame
  refine reg_take (i := 2) (some 5) rfl rfl rfl (by kernel_rfl) (by kernel_rfl) (by kernel_rfl) (.int .u64 m.length) (fun _ _ _ h => h) (fun W hW => exec_load 34 (.tmp 4) rfl _ _ rfl (run_load_u64 W _ _ (hl2 W hW))) hS ?_
  go_frame
  refine reg_call (i := 3) (some 6) rfl rfl rfl (by kernel_rfl) rfl Tryd.func40 (by kernel_rfl) (by kernel_rfl) #[.int .u64 m.length] rfl (padding_any m.length w2 (by have := HL.out; omega)) ?_
  rintro e w3 ⟨v3, rfl, ho3, hb3⟩
  have hS3 := hS.next hb3
  obtain ⟨A3, c3, rfl, hr3, hc3⟩ := own_out ho3
  refine ⟨_, rfl, hS3, ?_⟩
  go_frame
  refine reg_call (i := 4) (some 7) rfl rfl rfl (by kernel_rfl) rfl Tryd.func35 (by kernel_rfl) (by kernel_rfl) #[.agg cs.toArray, .slice A3 (pad m.length).length c3] rfl (addB cs m A3 c3 (pad m.length) w3 HS.out hS3.2.2 hr3 hc3 (by have := HL.out; rw [pad_len]; omega)) ?_
  rintro e w4 ⟨cs4, hs4, rfl, hb4⟩
  have hS4 := hS3.next hb4
  obtain ⟨v4, r4, hst4, rfl⟩ := hs4
  refine ⟨_, rfl, hS4, ?_⟩
  go_frame
  refine reg_value (i := 5) (some 8) rfl rfl rfl (by kernel_rfl) (.agg (wc v4.toL).toArray) (exec_field 36 (.tmp 7) 0 rfl _ _ rfl (run_field_v v4 r4 _ w4)) hS4 ?_
  go_frame
  refine reg_call (i := 6) (some 9) rfl rfl rfl (by kernel_rfl) rfl Tryd.func41 (by kernel_rfl) (by kernel_rfl) #[.agg (wc v4.toL).toArray] rfl (bytes_any_st v4 w4) ?_
  rintro e w5 ⟨rfl, hb5⟩
  have hS5 := hS4.next hb5
  refine ⟨_, rfl, hS5, ?_⟩
  go_frame
  rw [hst4.sum]
  have hK5 := ((hK.next hb3).next hb4).next hb5
  refine reg_store_all (i := 7) rfl rfl rfl (by kernel_rfl) 24 (.tmp 2) (.tmp 9) rfl (w.heap.size + 1) _ (zb 32) (bc (Hm.sum m)) rfl rfl hK5 (by rw [bc_len, zb_len, sum_len]) (by rw [a32_size, bc_len, sum_len]) (bc_one _) ?_
  intro w6 hb6 ho6
  have hS6 := hS5.only ho6 hg2 (by omega)
  refine ⟨hS6, wpAnyH_done (by kernel_rfl) ?_ _⟩
  have HB6 := Lib.hid hb6
  have HS6 := Lib.hid hS6
  clear hS hS3 hS4 hS5 hS6 hK hK5 hb3 hb4 hb5 hb6 ho6 ho3 hr3 hl hl2 hst4
  go_frame
  go_wp2
  exact bodyPost_ret (results_blk rfl _ _ (w.heap.size + 1) _ (bc (Hm.sum m)) _ rfl HB6.out a32_under rfl (by rw [a32_size, bc_len, sum_len])) rfl ⟨rfl, HS6.out.2.1⟩

set_option maxRecDepth 100000 in
set_option maxHeartbeats 400000 in
theorem sum_any (A : Option Addr) (c : Nat) (t : List UInt8) (w : World) (hg : Glob w) (hr : Rd w A (bc t)) (hc : t.length ≤ c) (hlen : t.length ≤ 1000000000) :
    Calls Tryd.prog 13 #[.slice A t.length c] w fun e w' => e = .returned (.agg (bc (Hm.sum t)).toArray) ∧ Below w.heap.size w w' := by
  have hb := (Below.refl w.heap.size w).alloc (Nat.le_refl _) (.cells (zb 32).toArray 24)
  have HB := Lib.hid (Blk.new w 24 (zb 32))
  have HG := Lib.hid (hg.next hb)
  have HR := Lib.hid (hr.below hb)
  have HBW := Lib.hid hb
  have HC := Lib.hid hc
  have HL := Lib.hid hlen
  clear hb hg hr hc hlen
  go_enter Tryd.func13, Tryd.ntmps13
  go_wp2_with (first | (refine wpList_alloc_zero rfl 24 rfl (zb 32) a32_zero ?_))
  refine (begin_any _ HG.out).mono ?_
  rintro e w2 ⟨cs2, hs2, rfl, hb2⟩
  have HS2 := Lib.hid hs2
  have G2 := Lib.hid (HG.out.next hb2)
  have R2 := Lib.hid (HR.out.below hb2)
  have K2 := Lib.hid (HB.out.next hb2)
  have B2 := Lib.hid (HBW.out.trans (hb2.mono HBW.out.size))
  clear hs2 hb2
  go_wp2_with fail
  refine (addB cs2 [] A c t w2 HS2.out G2.out R2.out HC.out (by have := HL.out; simp; omega)).mono ?_
  rintro e w3 ⟨cs3, hs3, rfl, hb3⟩
  have HS3 := Lib.hid hs3
  have G3 := Lib.hid (G2.out.next hb3)
  have K3 := Lib.hid (K2.out.next hb3)
  have B3 := Lib.hid (B2.out.trans (hb3.mono B2.out.size))
  clear hs3 hb3
  go_wp2_with fail
  refine (streamSum_any cs3 ([] ++ t) w3 HS3.out G3.out (by have := HL.out; simp; omega)).mono ?_
  rintro e w4 ⟨rfl, hb4⟩
  rw [List.nil_append]
  have K4 := Lib.hid (K3.out.next hb4)
  have B4 := Lib.hid (B3.out.trans (hb4.mono B3.out.size))
  clear hb4
  go_wp2_with (refine wpList_store_all rfl _ (.tmp 2) (.tmp 6) rfl w.heap.size _ (zb 32) (bc (Hm.sum t)) rfl rfl K4.out (by rw [bc_len, zb_len, sum_len]) (by rw [a32_size, bc_len, sum_len]) (bc_one _) ?_; intro w5 HB5 ho5)
  exact bodyPost_ret (results_blk rfl _ _ w.heap.size _ (bc (Hm.sum t)) _ rfl HB5.out a32_under rfl (by rw [a32_size, bc_len, sum_len])) rfl ⟨rfl, B4.out.trans (ho5.below (Nat.le_refl _))⟩
end Go.Proofs.YtoendbdpkkjjkaaDoor
