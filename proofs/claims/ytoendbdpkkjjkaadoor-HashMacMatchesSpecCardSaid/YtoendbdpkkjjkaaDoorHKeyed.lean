/- Contracts of keyedBy, of keyed's sum, and of Hmac. -/
import Derived.Test.YtoendbdpkkjjkaaDoorHKey
namespace Go.Proofs.YtoendbdpkkjjkaaDoor
open Go.RowKit Hm

/-- Cells laid over an array, one by one. -/
theorem fold_set (X : List Value) : ∀ (cells : List Value) (off j : Nat), off + j + X.length ≤ cells.length →
    ((X.zipIdx j).foldl (fun (cs : Array Value) (p : Value × Nat) => cs.setIfInBounds (off + p.2) p.1) cells.toArray) = (splice cells (off + j) X).toArray := by
  induction X with
  | nil => intro cells off j _; simp [splice]
  | cons x r ih =>
    intro cells off j h
    simp only [List.zipIdx_cons, List.foldl_cons, List.setIfInBounds_toArray]
    simp only [List.length_cons] at h
    rw [ih (cells.set (off + j) x) off (j + 1) (by simp; omega)]
    congr 1
    have := list_seg_step cells (off + j) x r (by omega)
    unfold splice
    rw [← Nat.add_assoc, List.length_cons] at *
    simpa [List.append_assoc, Nat.add_assoc] using this

theorem fill_kd (A B : List Value) (hA : A.length = 73) (hB : B.length = 73) (place : Nat → Option (Nat × Nat)) (h0 : place 0 = some (0, 73)) (h1 : place 1 = some (73, 73)) :
    Instr.fill place (zs ++ zs).toArray [(0, .agg A.toArray), (1, .agg B.toArray)] = some (A ++ B).toArray := by
  have hz := zs_len
  have f0 : A.toArray.zipIdx.foldl (fun (cs : Array Value) (p : Value × Nat) => cs.setIfInBounds (0 + p.2) p.1) (zs ++ zs).toArray = (A ++ zs).toArray := by
    have := fold_set A (zs ++ zs) 0 0 (by simp; omega)
    rw [← Array.foldl_toList, Array.toList_zipIdx]
    refine this.trans ?_
    congr 1
    unfold splice
    simp only [Nat.zero_add, List.take_zero, List.nil_append]
    rw [List.drop_append_of_le_length (by omega), List.drop_eq_nil_of_le (by omega), List.nil_append]
  have f1 : B.toArray.zipIdx.foldl (fun (cs : Array Value) (p : Value × Nat) => cs.setIfInBounds (73 + p.2) p.1) (A ++ zs).toArray = (A ++ B).toArray := by
    have := fold_set B (A ++ zs) 73 0 (by simp; omega)
    rw [← Array.foldl_toList, Array.toList_zipIdx]
    refine this.trans ?_
    congr 1
    unfold splice
    simp only [Nat.add_zero]
    rw [List.take_append_of_le_length (by omega), List.take_of_length_le (by omega), List.drop_eq_nil_of_le (by simp; omega), List.append_nil]
  have c0 : ∀ r, Instr.fill place (zs ++ zs).toArray ((0, .agg A.toArray) :: r) = Instr.fill place (A ++ zs).toArray r := fun r => by
    rw [← f0]
    conv => lhs; unfold Instr.fill
    rw [h0]
    simp [Value.cells, hA, hz]
  have c1 : ∀ r, Instr.fill place (A ++ zs).toArray ((1, .agg B.toArray) :: r) = Instr.fill place (A ++ B).toArray r := fun r => by
    rw [← f1]
    conv => lhs; unfold Instr.fill
    rw [h1]
    simp [Value.cells, hA, hB, hz]
  rw [c0, c1]
  rfl
theorem run_build_kd (A B : List Value) (hA : A.length = 73) (hB : B.length = 73) (w : World) : (Instr.build 76 #[(0, .agg A.toArray), (1, .agg B.toArray)]).run Tryd.prog w = .ok (.agg (A ++ B).toArray) w := by
  have hu := Tryd.underlying76
  have hz : ∀ W, (zeroValue 76).run Tryd.prog W = .ok (.agg (zs ++ zs).toArray) W := fun W => by kernel_rfl
  have hs : ∀ W, (sizeOf 36).run Tryd.prog W = .ok 73 W := fun W => by kernel_rfl
  simp only [Instr.build, Sem.run_bind, hz, run_underlying hu, Result.andThen_ok, Value.cells]
  simp [hs]
  rw [fill_kd A B hA hB _ rfl rfl]
  rfl

theorem exec_build2 {oi : Oper} {a : Act} {w : World} (ty : TypeId) (m n : Nat) (x y : Operand) (ho : oi.op = .build ty #[(m, x), (n, y)]) (p q v : Value) (hx : a.eval x = p) (hy : a.eval y = q) (hl : (Instr.build ty #[(m, p), (n, q)]).run Tryd.prog w = .ok v w) : (execOp a.eval oi).run Tryd.prog w = .ok (.value v) w := by
  subst hx
  subst hy
  simp [execOp, ho, hl]
/-- A variable that stays while a region runs. -/
def HeldS (w : World) (g : Nat) (t : TypeId) (cs : List Value) (W : World) : Prop := Blk W g t cs ∧ Below w.heap.size w W ∧ Glob W
section
variable {w W W' : World} {g k : Nat} {t : TypeId} {cs : List Value}
theorem HeldS.next (h : HeldS w g t cs W) (hb : Below W.heap.size W W') : HeldS w g t cs W' := ⟨h.1.next hb, h.2.1.trans (hb.mono h.2.1.size), h.2.2.next hb⟩
theorem HeldS.drew (h : HeldS w g t cs W) : HeldS w g t cs W.drew := ⟨h.1, h.2.1.drew, h.2.2.drew⟩
theorem HeldS.only (h : HeldS w g t cs W) (ho : Only k W W') (h2 : 2 < w.heap.size) (hk : w.heap.size ≤ k) (hg : g ≠ k) : HeldS w g t cs W' := ⟨ho.blk h.1 hg, h.2.1.trans (ho.below hk), h.2.2.only ho (by omega)⟩
end

set_option maxRecDepth 100000 in
set_option maxHeartbeats 1000000 in
theorem keyedBy_any (s : ByteArray) (w : World) (hg : Glob w) (hs : s.size ≤ 1000000) :
    Calls Tryd.prog 46 #[.string s] w fun e w' => ∃ ci co, Sm ci (xored (keyBlock s.data.toList) 0x36) ∧ Sm co (xored (keyBlock s.data.toList) 0x5c) ∧ e = .returned (.agg (ci ++ co).toArray) ∧ Below w.heap.size w w' := by
  have hg2 := hg.two
  have hb := (Below.refl w.heap.size w).alloc (Nat.le_refl _) (.cells (zs ++ zs).toArray 76)
  have HB := Lib.hid (Blk.new w 76 (zs ++ zs))
  have HG := Lib.hid (hg.next hb)
  have HBW := Lib.hid hb
  have HSZ := Lib.hid hs
  clear hb hg hs
  obtain ⟨KB, hKB⟩ : ∃ KB, keyBlock s.data.toList = KB := ⟨_, rfl⟩
  have hKL : KB.length = 64 := by rw [← hKB, keyBlock_len]
  have HK := Lib.hid hKB
  have HKL := Lib.hid hKL
  rw [hKB]
  clear hKB hKL
  go_enter Tryd.func46, Tryd.ntmps46
  go_wp2_with (first | (refine wpList_alloc_zero rfl 76 rfl (zs ++ zs) kd_zero ?_))
  refine (keyBlock_any s _ HG.out HSZ.out).mono ?_
  rintro e w2 ⟨rfl, hb2⟩
  rw [HK.out]
  have G2 := Lib.hid ((HG.out.next hb2).next ((Below.refl w2.heap.size w2).alloc (Nat.le_refl _) (.cells (zb 64).toArray 33)))
  have K2 := Lib.hid ((HB.out.next hb2).alloc (.cells (zb 64).toArray 33))
  have B2 := Lib.hid ((HBW.out.trans (hb2.mono HBW.out.size)).alloc (by have := HBW.out.size; have := hb2.size; omega) (.cells (zb 64).toArray 33))
  have N2 := Lib.hid (Blk.new w2 33 (zb 64))
  have hs2 : w.heap.size < w2.heap.size := (HB.out.next hb2).lt
  clear hb2 HB HG HBW
  go_wp2_with (first | (refine wpList_alloc_zero rfl 33 rfl (zb 64) blk_zero ?_) | (refine wpList_store_all rfl _ (.tmp 3) (.tmp 5) rfl w2.heap.size _ (zb 64) (bc KB) rfl rfl N2.out (by rw [bc_len, zb_len, HKL.out]) (by rw [blk_size, bc_len, HKL.out]) (bc_one _) ?_; intro w3 HB3 ho3))
  have hS : HeldS w w2.heap.size 33 (bc KB) w3.drew := ⟨HB3.out.drew, (B2.out.trans (ho3.below (by omega))).drew, (G2.out.only ho3 (by omega)).drew⟩
  have hK := (ho3.blk K2.out (by omega)).drew
  refine wp_region_held_drew (S := HeldS w w2.heap.size 33 (bc KB)) (by kernel_rfl) hS (fun hS => ?_)
  have hl : ∀ W : World, HeldS w w2.heap.size 33 (bc KB) W → (Instr.loadAt 33 (.pointer (some ⟨w2.heap.size, 0, none⟩))).run Tryd.prog W = .ok (.agg (bc KB).toArray) W := fun W hW => run_loadAt_mid W w2.heap.size 0 _ (bc KB) _ (by have := hW.1.range 0 (bc KB).length; simpa using this) blk_under rfl (by rw [blk_size, bc_len, HKL.out])
  generalize w3.drew = w4 at hS hK ⊢
  refine reg_take (i := 0) (some 6) rfl rfl rfl (by kernel_rfl) (by kernel_rfl) (by kernel_rfl) (.agg (bc KB).toArray) (fun _ _ _ h => h) (fun W hW => exec_load 33 (.tmp 3) rfl _ _ rfl (hl W hW)) hS ?_
  go_frame
  refine reg_take (i := 2) (some 8) rfl rfl rfl (by kernel_rfl) (by kernel_rfl) (by kernel_rfl) (.agg (bc KB).toArray) (fun _ _ _ h => h) (fun W hW => exec_load 33 (.tmp 3) rfl _ _ rfl (hl W hW)) hS ?_
  go_frame
  have c1 := beginWith_any KB 0x36 w4 HKL.out hS.2.2
  rw [show (((0x36 : UInt8).toNat : Nat) : Int) = 54 from rfl] at c1
  refine reg_call (i := 1) (some 7) rfl rfl rfl (by kernel_rfl) rfl Tryd.func59 (by kernel_rfl) (by kernel_rfl) #[.agg (bc KB).toArray, .int .u8 54] rfl c1 ?_
  rintro e w5 ⟨ci, hci, rfl, hb5⟩
  have hS5 := hS.next hb5
  refine ⟨_, rfl, hS5, ?_⟩
  go_frame
  have c2 := beginWith_any KB 0x5c w5 HKL.out hS5.2.2
  rw [show (((0x5c : UInt8).toNat : Nat) : Int) = 92 from rfl] at c2
  refine reg_call (i := 3) (some 9) rfl rfl rfl (by kernel_rfl) rfl Tryd.func59 (by kernel_rfl) (by kernel_rfl) #[.agg (bc KB).toArray, .int .u8 92] rfl c2 ?_
  rintro e w6 ⟨co, hco, rfl, hb6⟩
  have hS6 := hS5.next hb6
  refine ⟨_, rfl, hS6, ?_⟩
  go_frame
  refine reg_value (i := 4) (some 10) rfl rfl rfl (by kernel_rfl) (.agg (ci ++ co).toArray) (exec_build2 76 0 1 (.tmp 7) (.tmp 9) rfl _ _ _ rfl rfl (run_build_kd ci co hci.len hco.len w6)) hS6 ?_
  go_frame
  have hK6 := (hK.next hb5).next hb6
  have hlen : (ci ++ co).length = 146 := by rw [List.length_append, hci.len, hco.len]
  refine reg_store_all (i := 5) rfl rfl rfl (by kernel_rfl) 76 (.tmp 2) (.tmp 10) rfl w.heap.size _ (zs ++ zs) (ci ++ co) rfl rfl hK6 (by rw [hlen, List.length_append, zs_len]) (by rw [kd_size, hlen]) (fun u hu => (List.mem_append.1 hu).elim (hci.one u) (hco.one u)) ?_
  intro w7 hb7 ho7
  have hS7 := hS6.only ho7 hg2 (Nat.le_refl _) (by omega)
  refine ⟨hS7, wpAnyH_done (by kernel_rfl) ?_ _⟩
  have F := Lib.hid hb7
  have FB := Lib.hid hS7.2.1
  have FI := Lib.hid hci
  have FO := Lib.hid hco
  have FL := Lib.hid hlen
  clear hS hS5 hS6 hS7 hK hK6 hb5 hb6 hb7 ho7 hl c1 c2 hci hco hlen ho3 HB3
  go_frame
  go_wp2
  exact bodyPost_ret (results_blk rfl _ _ w.heap.size _ (ci ++ co) _ rfl F.out Tryd.underlying76 rfl (by rw [kd_size, FL.out])) rfl ⟨ci, co, FI.out, FO.out, rfl, FB.out⟩
end Go.Proofs.YtoendbdpkkjjkaaDoor
