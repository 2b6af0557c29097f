/- Contract of the hash value's bytes. -/
import Derived.Test.YtoendbdpkkjjkaaDoorHMem
namespace Go.Proofs.YtoendbdpkkjjkaaDoor
open Go.RowKit Hm

theorem u32_info : (Tryd.prog.info? 29).map (fun i => (i.zero, i.size, i.bytes)) = some (some (.int .u32 0), 1, 4) := by kernel_rfl
theorem run_index_st (cs : List Value) (k : Nat) (u : Value) (w : World) (hl : cs.length = 8) (hk : cs[k]? = some u) : (Instr.index 31 (.agg cs.toArray) (.int .i64 k)).run Tryd.prog w = .ok u w := by
  have hlt : k < 8 := by
    rcases Nat.lt_or_ge k cs.length with h | h
    · omega
    · rw [List.getElem?_eq_none h] at hk; cases hk
  obtain ⟨i0, hi, hz0, hz1, hz2⟩ := info_parts u32_info
  have h0 : (0 : Int) ≤ (k : Int) ∧ (k : Int) < ((8 : Nat) : Int) := by omega
  have hag : ∀ W, (isAgg 29).run Tryd.prog W = .ok false W := fun W => by kernel_rfl
  simp [Instr.index, asIntOf, run_underlying st_under, h0, part, sizeOf, typeInfo, hi, hz1, hag, hk, hlt]

theorem bytes_step (s : H8) (k : Nat) (x : UInt32) (h : s.toL[k]? = some x) : (s.toL.take k).flatMap w4 ++ numB x.toNat 4 = (s.toL.take (k + 1)).flatMap w4 := by
  obtain ⟨h1, h2⟩ := List.getElem?_eq_some_iff.1 h
  rw [List.take_succ_eq_append_getElem h1, List.flatMap_append, numB4, h2]; simp

theorem size_alloc (w : World) (o : Obj) : (w.alloc o).heap.size = w.heap.size + 1 := by simp
/-- An own row of bytes that is not empty: where it lies. -/
theorem OwnB.at_ {w : World} {base : Nat} {v : Value} {l : List UInt8} (h : OwnB w base v l) (hne : l ≠ []) : ∃ b c, v = .slice (some ⟨b, 0, none⟩) l.length c ∧ base ≤ b ∧ l.length ≤ c ∧ w.rangeAt b 0 (bc l) := by
  have hx : bc l ≠ [] := by intro e; apply hne; have := bc_len l; rw [e] at this; exact List.eq_nil_of_length_eq_zero this.symm
  rcases h.2 with ⟨rfl, h0⟩ | ⟨g, cap, cur, rfl, hb, hg, hle, hm, hs, ht⟩
  · exact absurd (List.eq_nil_of_length_eq_zero h0) hne
  · refine ⟨g, cap, rfl, hb, hle, fun k u hu => ?_⟩
    obtain ⟨b, off, hA, hc⟩ := Rd.of_row h hx
    injection hA with hA
    injection hA with h1 h2
    subst h1; subst h2
    exact hc k u hu

theorem own_empty (w : World) (c : Nat) (C : Array Value) (hC : C.size = c) (hc : c ≤ 1000000) : OwnB (w.alloc (.cells C 5)) w.heap.size (.slice (some ⟨w.heap.size, 0, none⟩) 0 c) [] :=
  ⟨rfl, .inr ⟨w.heap.size, c, C, rfl, Nat.le_refl _, heap_alloc_new w _, Nat.zero_le _, by unfold maxLen; omega, by omega, rfl⟩⟩

theorem OwnB.range_ {w : World} {base : Nat} {A : Option Addr} {c : Nat} {l : List UInt8} (h : OwnB w base (.slice A l.length c) l) (hne : l ≠ []) : ∃ b off, A = some ⟨b, off, none⟩ ∧ w.rangeAt b off (bc l) := by
  have hx : bc l ≠ [] := by intro e; apply hne; have := bc_len l; rw [e] at this; exact List.eq_nil_of_length_eq_zero this.symm
  obtain ⟨b, off, hA, hc⟩ := h.rd hx
  exact ⟨b, off, hA, hc⟩

set_option maxRecDepth 100000 in
set_option maxHeartbeats 400000 in
theorem bytes_any_st (s : H8) (w : World) :
    Calls Tryd.prog 41 #[.agg (wc s.toL).toArray] w fun e w' => e = .returned (.agg (bc s.bytes).toArray) ∧ Below w.heap.size w w' := by
  obtain ⟨cs, hcs⟩ : ∃ cs, wc s.toL = cs := ⟨_, rfl⟩
  have hl8 : cs.length = 8 := by rw [← hcs, wc_len]; rfl
  have HCS := Lib.hid hcs
  have HL := Lib.hid hl8
  rw [hcs]
  obtain ⟨i0, hi, hz0, hz1, hz2⟩ := info_parts u8_info
  obtain ⟨C, hC⟩ : ∃ C, madeCells #[.int .u8 0] 32 = C := ⟨_, rfl⟩
  have hCs : C.size = 32 := by rw [← hC]; exact size_madeCells _ _
  have hmk := fun W : World => run_make (P := Tryd.prog) W 22 5 i0 _ Tryd.underlying22 hi hz0 .i64 .i64 0 32 (by omega) (by omega) (by rw [hz2]; omega) (by omega)
  simp only [hz1, Int.toNat_zero, Nat.mul_one, show (Value.int IntKind.u8 0).cells = #[.int .u8 0] from rfl, show ((32 : Int)).toNat = 32 from rfl, hC] at hmk
  have hix := fun (k : Nat) (u : Value) (W : World) (h : cs[k]? = some u) => run_index_st cs k u W hl8 h
  have HIX := Lib.hid hix
  have HO := Lib.hid (own_empty ((w.alloc (.cells cs.toArray 31)).alloc (.cells (zb 32).toArray 24)) 32 C hCs (by omega))
  have HB := Lib.hid (((Blk.new w 31 cs).alloc (.cells (zb 32).toArray 24)).alloc (.cells C 5))
  have HR := Lib.hid ((Blk.new (w.alloc (.cells cs.toArray 31)) 24 (zb 32)).alloc (.cells C 5))
  clear hcs hl8 hix hi hz0 hz1 hz2 hC hCs
  go_enter Tryd.func41, Tryd.ntmps41
  go_wp2_with (first | (refine wpList_alloc_zero rfl 24 rfl (zb 32) a32_zero ?_) | (refine wpList_load_all rfl _ (.tmp 1) rfl w.heap.size _ cs _ rfl HB.out st_under rfl (by rw [st_size, HL.out]) ?_))
  go_loopw [3, 8] (fun v i wr => ∃ k : Nat, i = .int .i64 k ∧ k ≤ 8 ∧ Hid (OwnB wr (w.heap.size + 1 + 1) v ((s.toL.take k).flatMap w4)) ∧ w.heap.size + 1 + 1 ≤ wr.heap.size ∧ Hid (Blk wr (w.heap.size + 1) 24 (zb 32)) ∧ Below w.heap.size w wr)
    (fun _ i _ => 8 - (intOf i).toNat)
  case atStart => exact ⟨0, rfl, by omega, (by have h := HO.out; simp at h; simpa using h : OwnB _ _ _ _), by simp, (by have h := HR.out; rw [size_alloc] at h; exact h : Blk _ _ _ _), (((Below.refl _ _).alloc (Nat.le_refl _) _).alloc (by simp) _).alloc (by simp; omega) _⟩
  case round =>
    obtain ⟨k, rfl, hk, HOK, hbr, HRK, hbel⟩ := hrel
    clear HO HR HB hmk
    by_cases hlt : k < 8
    · obtain ⟨x, hx⟩ : ∃ x, s.toL[k]? = some x := ⟨s.toL[k]'(by rw [H8.toL_len]; exact hlt), List.getElem?_eq_getElem _⟩
      have hcx : cs[k]? = some (.int .u32 x.toNat) := by
        rw [← HCS.out]
        simp [wc, hx]
      have HX := Lib.hid hx
      have hi1 := fun W : World => HIX.out k _ W hcx
      have hxl := u32_lt x
      have hll : ((s.toL.take k).flatMap w4).length ≤ 1099511627776 := by
        have h1 : ∀ l : List UInt32, (l.flatMap w4).length = l.length * 4 := by
          intro l
          induction l with
          | nil => rfl
          | cons a r ih => rw [List.flatMap_cons, List.length_append, ih]; simp [w4]; omega
        rw [h1, List.length_take]; omega
      have HLL := Lib.hid hll
      clear hx hcx hll
      go_wp2_with fail
      refine (appendNumber_any (w.heap.size + 1 + 1) _ _ x.toNat 4 _ (by omega) (by omega) HOK.out hbr HLL.out).mono ?_
      rintro e w2 ⟨v2, rfl, ho2, hb2⟩
      rw [bytes_step s k x HX.out] at ho2
      have HO2 := Lib.hid ho2
      clear ho2 hi1
      go_wp2
      go_roundw
      case rel => exact ⟨k + 1, by go_num, by omega, HO2.out, Nat.le_trans hbr hb2.size, HRK.out.below hb2 (by omega), hbel.trans (hb2.mono (by omega))⟩
      case measure => simp [intOf]; omega
    · obtain rfl : k = 8 := by omega
      have hof := HOK.out
      rw [show (s.toL.take 8).flatMap w4 = s.bytes from by rw [List.take_of_length_le (by rw [H8.toL_len]; omega)]; rfl] at hof
      obtain ⟨b, c, rfl, hbb, hcc, hrg⟩ := hof.at_ (by intro e; have := s.bytes_len; rw [e] at this; cases this)
      rw [s.bytes_len] at *
      have harr := fun (W : World) => run_arrayAt 24 32 5 a32_under W (some ⟨b, 0, none⟩) 32 c (Nat.le_refl _)
      have HRG := Lib.hid hrg
      clear hrg hof HOK
      go_wp2_with (first | (refine wpList_load_mid rfl _ (.tmp 17) rfl b 0 rfl (bc s.bytes) _ HRG.out a32_under rfl (by rw [a32_size, bc_len, s.bytes_len]) ?_) | (refine wpList_store_all rfl _ (.tmp 2) (.tmp 18) rfl (w.heap.size + 1) _ (zb 32) (bc s.bytes) rfl rfl HRK.out (by rw [bc_len, zb_len, s.bytes_len]) (by rw [a32_size, bc_len, s.bytes_len]) (bc_one _) ?_; intro w3 HB3 ho3))
      exact bodyPost_ret (results_blk rfl _ _ (w.heap.size + 1) _ (bc s.bytes) _ rfl HB3.out a32_under rfl (by rw [a32_size, bc_len, s.bytes_len])) rfl ⟨rfl, hbel.trans (ho3.below (by omega))⟩
end Go.Proofs.YtoendbdpkkjjkaaDoor
