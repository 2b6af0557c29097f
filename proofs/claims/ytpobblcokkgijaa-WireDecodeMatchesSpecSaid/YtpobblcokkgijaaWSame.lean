/- Contracts of the reference's Same, SameInts, SameTexts and SameDigests, where both are the same. -/
import Derived.Test.YtpobblcokkgijaaWListD
import Derived.Deep.QuietTactic
import Derived.BigQuiet
import Derived.Lib.Strings
import Derived.Laws.StructEq
namespace Go.Proofs.Ytpobblcokkgijaa
open Go.RowKit Wm

theorem below_drewN {B : Nat} {a w : World} (h : Below B a w) (n : Nat) : Below B a (w.drewN n) := ⟨h.os, h.tape, h.output, h.size, h.block⟩
theorem below_drew (w : World) (n : Nat) : Below w.heap.size w (w.drewN n) := below_drewN (Below.refl _ _) n

set_option maxRecDepth 100000 in
set_option maxHeartbeats 400000 in
theorem same_any (A B : Option Addr) (c c' : Nat) (l r : List UInt8) (w : World) (hl : Rd w A (bc l)) (hr : Rd w B (bc r)) :
    Calls Try.prog 13 #[.slice A l.length c, .slice B r.length c'] w fun e w' => e = .returned (.bool (l == r)) ∧ w = w' := by
  have h1 := fun cp => run_str hl cp
  have h2 := fun cp => run_str hr cp
  clear hl hr
  go_enter Try.func13, Try.ntmps13
  go_wp2
  go_ret
  refine ⟨?_, rfl⟩
  show Ending.returned (.bool ((st l).toList == (st r).toList)) = _
  rw [Go.Lib.toList_data, Go.Lib.toList_data, st_list, st_list]

set_option maxRecDepth 100000 in
set_option maxHeartbeats 400000 in
theorem sameInts_any (A B : Option Addr) (c c' : Nat) (zs : List Int) (w : World) (hl : Rd w A (zs.map (Value.int .i64))) (hr : Rd w B (zs.map (Value.int .i64))) (hz : zs.length ≤ 1099511627776) :
    Calls Try.prog 30 #[.slice A zs.length c, .slice B zs.length c'] w fun e w' => e = .returned (.bool true) ∧ ∃ n, w' = w.drewN n := by
  have HL := Lib.hid hl
  have HR := Lib.hid hr
  clear hl hr
  go_enter Try.func30, Try.ntmps30
  go_wp2
  go_loopw [5] (fun i wr => ∃ k : Nat, i = .int .i64 k ∧ k ≤ zs.length ∧ ∃ q, wr = w.drewN q) (fun i _ => zs.length - (intOf i).toNat)
  case atStart => exact ⟨0, rfl, by omega, 0, rfl⟩
  case round =>
    obtain ⟨k, rfl, hk, q, rfl⟩ := hrel
    by_cases hlt : k < zs.length
    · obtain ⟨b1, o1, hA, h1⟩ := HL.out.at_ (k := k) (u := .int .i64 zs[k]) (by simp [hlt])
      obtain ⟨b2, o2, hB, h2⟩ := HR.out.at_ (k := k) (u := .int .i64 zs[k]) (by simp [hlt])
      subst hA hB
      generalize zs[k] = z at h1 h2
      go_wp2
      go_quiet (fail)
      go_wp2
      go_roundw
      case rel => exact ⟨k + 1, by go_num, by omega, _, rfl⟩
      case measure => simp [intOf]; omega
    · go_wp2
      go_ret
      exact ⟨rfl, q, rfl⟩

set_option maxRecDepth 100000 in
set_option maxHeartbeats 400000 in
theorem sameTexts_any (A B : Option Addr) (c c' : Nat) (zs : List ByteArray) (w : World) (hl : Rd w A (zs.map Value.string)) (hr : Rd w B (zs.map Value.string)) (hz : zs.length ≤ 1099511627776) :
    Calls Try.prog 33 #[.slice A zs.length c, .slice B zs.length c'] w fun e w' => e = .returned (.bool true) ∧ ∃ n, w' = w.drewN n := by
  have HL := Lib.hid hl
  have HR := Lib.hid hr
  clear hl hr
  go_enter Try.func33, Try.ntmps33
  go_wp2
  go_loopw [5] (fun i wr => ∃ k : Nat, i = .int .i64 k ∧ k ≤ zs.length ∧ ∃ q, wr = w.drewN q) (fun i _ => zs.length - (intOf i).toNat)
  case atStart => exact ⟨0, rfl, by omega, 0, rfl⟩
  case round =>
    obtain ⟨k, rfl, hk, q, rfl⟩ := hrel
    by_cases hlt : k < zs.length
    · obtain ⟨b1, o1, hA, h1⟩ := HL.out.at_ (k := k) (u := .string zs[k]) (by simp [hlt])
      obtain ⟨b2, o2, hB, h2⟩ := HR.out.at_ (k := k) (u := .string zs[k]) (by simp [hlt])
      subst hA hB
      generalize zs[k] = z at h1 h2
      go_wp2
      go_quiet (fail)
      go_wp2
      go_roundw
      case rel => exact ⟨k + 1, by go_num, by omega, _, rfl⟩
      case measure => simp [intOf]; omega
    · go_wp2
      go_ret
      exact ⟨rfl, q, rfl⟩

theorem run_part_u8 (w : World) (l : List UInt8) (i : Nat) (h : i < l.length) : (part 5 (bc l).toArray i).run Try.prog w = .ok (.int .u8 l[i].toNat) w := by
  have ha : (isAgg 5).run Try.prog w = .ok false w := by kernel_rfl
  have hx : (bc l).toArray[i]? = some (.int .u8 l[i].toNat) := by rw [List.getElem?_toArray]; exact bc_at h
  simp [part, ha, hx]
theorem run_eq_u8 (w : World) (d : Nat) (a : Int) : (Op.equalIn (d + 1) 5 (.int .u8 a) (.int .u8 a)).run Try.prog w = .ok true w := by
  rw [run_equalIn_int w d 5 .u8 .u8 a a Try.underlying5]; simp
set_option maxRecDepth 100000 in
theorem run_equalIn_dig (w : World) (d : Nat) (l : List UInt8) (hl : l.length = 16) :
    (Op.equalIn (d + 2) 57 (.agg (bc l).toArray) (.agg (bc l).toArray)).run Try.prog w = .ok true w := by
  have hs : (sizeOf 5).run Try.prog w = .ok 1 w := by kernel_rfl
  unfold Op.equalIn
  simp only [Sem.run_bind, run_underlying dig_under, Result.andThen_ok, hs, Std.Legacy.Range.forIn_eq_forIn_range', Std.Legacy.Range.size]
  have key : ∀ (js : List Nat), (∀ j ∈ js, j < l.length) → (forIn js ((none : Option Bool), ()) fun i __s => do
              let a ← part 5 (bc l).toArray (i * 1)
              let b ← part 5 (bc l).toArray (i * 1)
              let c ← Op.equalIn (d + 1) 5 a b
              if (!c) = true then pure (ForInStep.done (some false, ())) else pure (ForInStep.yield (none, ()))).run Try.prog w = .ok (none, ()) w := by
    intro js
    induction js with
    | nil => intro _; simp
    | cons j js ih =>
      intro h
      have hj := h j List.mem_cons_self
      simp only [List.forIn_cons, Sem.run_bind, Nat.mul_one, run_part_u8 w l j hj, Result.andThen_ok, run_eq_u8, Bool.not_true, Bool.false_eq_true, if_false, Sem.run_pure]
      have := ih fun x hx => h x (List.mem_cons_of_mem _ hx)
      simpa using this
  rw [key _ (by intro j hj; simp at hj; omega)]
  simp

theorem run_neq_dig (w : World) (l : List UInt8) (hl : l.length = 16) : (binOp .neq 57 (.agg (bc l).toArray) (.agg (bc l).toArray)).run Try.prog w = .ok (.bool false) w := by
  rw [run_neq_struct, run_equalIn_dig w 9998 l hl]; rfl

/-- In a region that only reads: a digest is loaded; two that are the same are compared. -/
theorem quiet_load_dig {o : Oper} {a : Act} {C : World → Prop} {K : Act → Prop} (x : Operand) (ho : o.op = .load 57 x) (b off : Nat) (hx : a.eval x = .pointer (some ⟨b, off, none⟩))
    (d : List UInt8) (hd : d.length = 16) (hC : ∀ w, C w → w.rangeAt b off (bc d)) (hk : K (a.put o.dst (.agg (bc d).toArray))) : o.quiet Try.prog a C K := by
  refine ⟨.agg (bc d).toArray, fun w hw => ?_, hk⟩
  have hl := run_loadVar_mid (P := Try.prog) w b off 57 (bc d) _ (hC w hw) dig_under rfl (by rw [dig_size, bc_len, hd])
  unfold Oper.quietAt execOp
  simp only [ho, hx, Instr.loadAt, Instr.sureAddr, Sem.run_bind, Sem.run_pure, Result.andThen_ok, hl]
  exact ⟨rfl, rfl⟩
theorem quiet_neq_dig {o : Oper} {a : Act} {C : World → Prop} {K : Act → Prop} (x y : Operand) (ho : o.op = .binOp .neq 57 x y 57) (d : List UInt8) (hd : d.length = 16)
    (hx : a.eval x = .agg (bc d).toArray) (hy : a.eval y = .agg (bc d).toArray) (hk : K (a.put o.dst (.bool false))) : o.quiet Try.prog a C K := by
  refine ⟨.bool false, fun w hw => ?_, hk⟩
  have hm : Try.prog.eqGuardType Try.prog.depth 57 = false := by kernel_rfl
  unfold Oper.quietAt execOp
  simp only [ho, hx, hy, Sem.run_bind, run_eqGuard_agg w .neq 57 x y (bc d).toArray (bc d).toArray hm, Sem.run_pure, Result.andThen_ok, run_neq_dig w d hd]
  exact ⟨rfl, rfl⟩

set_option maxRecDepth 100000 in
set_option maxHeartbeats 400000 in
theorem sameDigs_any (A B : Option Addr) (c c' : Nat) (ds : List (List UInt8)) (w : World) (hl : Rd w A (dcs ds)) (hr : Rd w B (dcs ds)) (h16 : ∀ d ∈ ds, d.length = 16) (hz : ds.length ≤ 1099511627776) :
    Calls Try.prog 36 #[.slice A ds.length c, .slice B ds.length c'] w fun e w' => e = .returned (.bool true) ∧ ∃ n, w' = w.drewN n := by
  have HL := Lib.hid hl
  have HR := Lib.hid hr
  have HS := Lib.hid h16
  clear hl hr h16
  go_enter Try.func36, Try.ntmps36
  go_wp2
  go_loopw [5] (fun i wr => ∃ k : Nat, i = .int .i64 k ∧ k ≤ ds.length ∧ ∃ q, wr = w.drewN q) (fun i _ => ds.length - (intOf i).toNat)
  case atStart => exact ⟨0, rfl, by omega, 0, rfl⟩
  case round =>
    obtain ⟨k, rfl, hk, q, hq⟩ := hrel
    by_cases hlt : k < ds.length
    · have hbw : Below w.heap.size w wr := by rw [hq]; exact below_drew w q
      have HQ := Lib.hid hq
      clear hq
      obtain ⟨b1, o1, hA, g1⟩ := dcs_rd (HL.out.below hbw) HS.out hlt
      obtain ⟨b2, o2, hB, g2⟩ := dcs_rd (HR.out.below hbw) HS.out hlt
      subst hA hB
      have hd := HS.out ds[k] (List.getElem_mem hlt)
      obtain ⟨z, hz⟩ : ∃ z, ds[k] = z := ⟨_, rfl⟩
      rw [hz] at g1 g2 hd
      have h1 := Lib.hid (show ∀ W, (∃ n, W = wr.drewN n) → W.rangeAt b1 (o1 + k * 16) (bc z) from fun W ⟨n, hn⟩ => by rw [hn]; exact g1)
      have h2 := Lib.hid (show ∀ W, (∃ n, W = wr.drewN n) → W.rangeAt b2 (o2 + k * 16) (bc z) from fun W ⟨n, hn⟩ => by rw [hn]; exact g2)
      have HD := Lib.hid hd
      clear hz g1 g2 hd hbw
      go_wp2
      refine wp_region_quiet_lit (by kernel_rfl) (by kernel_rfl) ?_
      iterate 3 (quiet_step (fail))
      refine BigFrame.wpQuiet_want rfl (fun K hK => quiet_load_dig (.tmp 19) rfl b1 (o1 + k * 16) rfl z HD.out h1.out (hK _ ?_))
      clear hK K
      iterate 3 (quiet_step (fail))
      refine BigFrame.wpQuiet_want rfl (fun K hK => quiet_load_dig (.tmp 23) rfl b2 (o2 + k * 16) rfl z HD.out h2.out (hK _ ?_))
      clear hK K
      refine BigFrame.wpQuiet_want rfl (fun K hK => quiet_neq_dig (.tmp 20) (.tmp 24) rfl z HD.out rfl rfl (hK _ ?_))
      clear hK K
      refine wpQuiet_nil ?_
      rintro _ ⟨nq, rfl⟩
      go_wp2
      go_roundw
      case rel => exact ⟨k + 1, by go_num, by omega, _, by rw [HQ.out, World.drewN_drewN]⟩
      case measure => simp [intOf]; omega
    · have HQ := Lib.hid hq
      clear hq
      go_wp2
      go_ret
      exact ⟨rfl, q, HQ.out⟩
end Go.Proofs.Ytpobblcokkgijaa
