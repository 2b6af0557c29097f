/- Contract of merkle's CheckInclusion. -/
import Derived.Test.YtfbemmeonkceiaaDoorK13
namespace Go.Proofs.YtfbemmeonkceiaaDoor
open Go.RowKit Hm Wm

def dgEq (a b : Dg) : Bool := decide (a.1 = b.1)
theorem dgEq_iff {a b : Dg} : dgEq a b = true ↔ a = b := by unfold dgEq; rw [decide_eq_true_iff]; exact ⟨Subtype.ext, fun h => by rw [h]⟩
theorem exec_eqD {oi : Oper} {a : Act} {w : World} (x y : Operand) (rt : TypeId) (ho : oi.op = .binOp .eql 31 x y rt) (d e : Dg) (hx : a.eval x = dv d) (hy : a.eval y = dv e) : (execOp a.eval oi).run Tryd.prog w = .ok (.value (.bool (dgEq d e))) w :=
  exec_eql16 x y rt ho d.1 e.1 d.2 e.2 hx hy
theorem exec_loadI {oi : Oper} {a : Act} {w : World} {g : Nat} {z : Int} (x : Operand) (ho : oi.op = .load 3 x) (hx : a.eval x = .pointer (some ⟨g, 0, none⟩)) (h : Blk w g 3 [.int .i64 z]) : (execOp a.eval oi).run Tryd.prog w = .ok (.value (.int .i64 z)) w :=
  exec_load 3 x ho _ _ hx (run_load_var _ int_flat h)

set_option maxRecDepth 100000 in
set_option maxHeartbeats 1000000 in
theorem chkI_any (w0 : World) (hg0 : Glob w0) (A : Option Addr) (c : Nat) (path : List Dg) (hr : RdD w0 A path) (leaf root : Dg) (i n : Nat) (p1 p2 p3 p4 : Nat) (k1 : Blk w0 p1 31 (dc leaf)) (k2 : Blk w0 p2 3 [.int .i64 i]) (k3 : Blk w0 p3 3 [.int .i64 n]) (k4 : Blk w0 p4 31 (dc root))
    (h1 : 1 ≤ n) (hn : n ≤ 2 ^ 41) (hi : i < n) (w : World) (hS : StN w0 A c path 0 w) :
    Calls Tryd.prog 57 #[nextF w0.heap.size, .pointer (some ⟨p1, 0, none⟩), .pointer (some ⟨p2, 0, none⟩), .pointer (some ⟨p3, 0, none⟩), .pointer (some ⟨p4, 0, none⟩)] w fun e w' => e = .returned (.bool (dgEq (oneD leaf i n 0 path).1 root)) ∧ StN w0 A c path (oneD leaf i n 0 path).2 w' := by
  have HC := Lib.hid (fun w => one_any w0 hg0 A c path hr n leaf i n 0 w (Nat.le_refl _) h1 hn (by omega) hi)
  have HS := Lib.hid hS
  have K1 := Lib.hid k1
  have K2 := Lib.hid k2
  have K3 := Lib.hid k3
  have K4 := Lib.hid k4
  clear hS k1 k2 k3 k4 hr hg0
  obtain ⟨⟨r, u⟩, hR⟩ : ∃ R, oneD leaf i n 0 path = R := ⟨_, rfl⟩
  rw [hR] at HC ⊢
  clear hR
  unfold nextF
  go_enter Tryd.func57, Tryd.ntmps57
  go_wp2_with fail
  have hN := HS.out.drew
  refine wp_region_held_drew (S := fun W => Below w0.heap.size w0 W) (by kernel_rfl) HS.out.drew.1 (fun hS4 => ?_)
  generalize w.drew = w4 at hS4 hN ⊢
  refine reg_takeG (i := 0) (some 7) rfl rfl rfl (by kernel_rfl) (by kernel_rfl) (by kernel_rfl) (dv leaf) (fun _ _ _ h => h) (fun W hW => exec_loadB (.tmp 1) rfl rfl (K1.out.next hW)) hS4 ?_
  go_frame
  refine reg_takeG (i := 1) (some 8) rfl rfl rfl (by kernel_rfl) (by kernel_rfl) (by kernel_rfl) (.int .i64 i) (fun _ _ _ h => h) (fun W hW => exec_loadI (.tmp 2) rfl rfl (K2.out.next hW)) hS4 ?_
  go_frame
  refine reg_takeG (i := 2) (some 9) rfl rfl rfl (by kernel_rfl) (by kernel_rfl) (by kernel_rfl) (.int .i64 n) (fun _ _ _ h => h) (fun W hW => exec_loadI (.tmp 3) rfl rfl (K3.out.next hW)) hS4 ?_
  go_frame
  refine reg_takeG (i := 3) (some 10) rfl rfl rfl (by kernel_rfl) (by kernel_rfl) (by kernel_rfl) (nextF w0.heap.size) (fun _ _ _ h => h) (fun W hW => exec_move (.tmp 0) rfl _ rfl) hS4 ?_
  go_frame
  refine reg_takeG (i := 5) (some 12) rfl rfl rfl (by kernel_rfl) (by kernel_rfl) (by kernel_rfl) (dv root) (fun _ _ _ h => h) (fun W hW => exec_loadB (.tmp 4) rfl rfl (K4.out.next hW)) hS4 ?_
  go_frame
  refine reg_callG (i := 4) (some 11) rfl rfl rfl (by kernel_rfl) rfl Tryd.func58 (by kernel_rfl) (by kernel_rfl) #[dv leaf, .int .i64 i, .int .i64 n, nextF w0.heap.size] rfl (HC.out w4 hN) ?_
  rintro e w5 ⟨rfl, hN5, hT5⟩
  refine ⟨_, rfl, hN5.1, ?_⟩
  go_frame
  refine reg_valueG (i := 6) (some 13) rfl rfl rfl (by kernel_rfl) (.bool (dgEq r root)) (exec_eqD (.tmp 11) (.tmp 12) _ rfl r root rfl rfl) hN5.1 ?_
  go_frame
  refine reg_valueG (i := 7) (some 6) rfl rfl rfl (by kernel_rfl) (.bool (dgEq r root)) (exec_assign (.tmp 13) rfl _ rfl) hN5.1 ?_
  go_frame
  refine wpAnyH_done (by kernel_rfl) ?_ _
  have HF := Lib.hid hN5
  clear hN hS4 hN5 hT5 HS HC K1 K2 K3 K4
  obtain ⟨z, hz⟩ : ∃ z, dgEq r root = z := ⟨_, rfl⟩
  rw [hz]
  have HZ := Lib.hid hz
  clear hz
  go_wp2
  go_ret
  exact ⟨by rw [HZ.out]; rfl, HF.out⟩

set_option maxRecDepth 100000 in
set_option maxHeartbeats 1000000 in
theorem ci_bad (leaf root : Dg) (i n : Int) (P : Value) (w : World) (h : i < 0 ∨ n ≤ i ∨ 1099511627776 < n) :
    Calls Tryd.prog 29 #[dv leaf, .int .i64 i, .int .i64 n, P, dv root] w fun e w' => e = .returned (.bool false) ∧ Below w.heap.size w w' := by
  have hb := Lib.hid (((((Below.refl w.heap.size w).alloc (Nat.le_refl _) (.cells (dc leaf).toArray 31)).alloc (by simp) (.cells #[.int .i64 i] 3)).alloc (by simp; omega) (.cells #[.int .i64 n] 3)).alloc (by simp; omega) (.cells (dc root).toArray 31))
  unfold dv
  by_cases h0 : i < 0
  · have d0 : decide (i < 0) = true := decide_eq_true h0
    clear h
    go_enter Tryd.func29, Tryd.ntmps29
    go_wp2
    go_ret
    exact ⟨rfl, hb.out⟩
  · have d0 : decide (i < 0) = false := decide_eq_false h0
    by_cases h1 : n ≤ i
    · have d1 : decide (n ≤ i) = true := decide_eq_true h1
      clear h
      go_enter Tryd.func29, Tryd.ntmps29
      go_wp2
      go_ret
      exact ⟨rfl, hb.out⟩
    · have d1 : decide (n ≤ i) = false := decide_eq_false h1
      have d2 : decide (1099511627776 < n) = true := decide_eq_true (by omega)
      clear h
      go_enter Tryd.func29, Tryd.ntmps29
      go_wp2
      go_ret
      exact ⟨rfl, hb.out⟩

set_option maxRecDepth 100000 in
set_option maxHeartbeats 1000000 in
theorem ci_any (leaf root : Dg) (i n : Nat) (A : Option Addr) (c : Nat) (path : List Dg) (w : World) (hg : Glob w) (hr : RdD w A path) (hi : i < n) (hn : n ≤ 1099511627776) :
    Calls Tryd.prog 29 #[dv leaf, .int .i64 i, .int .i64 n, .slice A path.length c, dv root] w fun e w' => e = .returned (.bool (dgEq (oneD leaf i n 0 path).1 root && decide ((oneD leaf i n 0 path).2 = path.length))) ∧ Below w.heap.size w w' := by
  have hmf : ∀ (fn : Fn) (first cap : Array Value) (w : World), (Instr.makeFunc fn first cap).run Tryd.prog w = .ok (.func fn first cap) w := fun _ _ _ _ => rfl
  have hb := ((((Below.refl w.heap.size w).alloc (Nat.le_refl _) (.cells (dc leaf).toArray 31)).alloc (by simp) (.cells #[.int .i64 i] 3)).alloc (by simp; omega) (.cells #[.int .i64 n] 3)).alloc (by simp; omega) (.cells (dc root).toArray 31)
  have k1 := (((Blk.new w 31 (dc leaf)).alloc (.cells #[.int .i64 i] 3)).alloc (.cells #[.int .i64 n] 3)).alloc (.cells (dc root).toArray 31)
  have k2 := ((Blk.new (w.alloc (.cells (dc leaf).toArray 31)) 3 [.int .i64 i]).alloc (.cells #[.int .i64 n] 3)).alloc (.cells (dc root).toArray 31)
  have k3 := (Blk.new ((w.alloc (.cells (dc leaf).toArray 31)).alloc (.cells #[.int .i64 i] 3)) 3 [.int .i64 n]).alloc (.cells (dc root).toArray 31)
  have k4 := Blk.new (((w.alloc (.cells (dc leaf).toArray 31)).alloc (.cells #[.int .i64 i] 3)).alloc (.cells #[.int .i64 n] 3)) 31 (dc root)
  rw [size_alloc] at k2
  rw [size_alloc, size_alloc] at k3
  rw [size_alloc, size_alloc, size_alloc] at k4
  have hcall := follow_any _ 57 _ Tryd.func57 (by kernel_rfl) (by kernel_rfl) #[.pointer (some ⟨w.heap.size, 0, none⟩), .pointer (some ⟨w.heap.size + 1, 0, none⟩), .pointer (some ⟨w.heap.size + 1 + 1, 0, none⟩), .pointer (some ⟨w.heap.size + 1 + 1 + 1, 0, none⟩)] A c path (dgEq (oneD leaf i n 0 path).1 root) (oneD leaf i n 0 path).2
    (fun W hW => chkI_any _ (hg.next hb) A c path (hr.below hb) leaf root i n _ _ _ _ k1 k2 k3 k4 (by omega) (by omega) hi W hW)
  obtain ⟨⟨r, u⟩, hR⟩ : ∃ R, oneD leaf i n 0 path = R := ⟨_, rfl⟩
  rw [hR] at hcall ⊢
  have HC := Lib.hid hcall
  have HB := Lib.hid hb
  have d0 : decide ((i : Int) < 0) = false := decide_eq_false (by omega)
  have d1 : decide ((n : Int) ≤ (i : Int)) = false := decide_eq_false (by omega)
  have d1' : decide (n ≤ i) = false := decide_eq_false (by omega)
  have d2 : decide ((1099511627776 : Int) < (n : Int)) = false := decide_eq_false (by omega)
  clear k1 k2 k3 k4 hcall hb hr hg hR
  unfold dv
  go_enter Tryd.func29, Tryd.ntmps29
  go_wp2_with fail
  refine HC.out.mono ?_
  rintro e w5 ⟨rfl, hb5⟩
  have HF := Lib.hid (HB.out.trans (hb5.mono HB.out.size))
  clear hb5 HC HB
  obtain ⟨z, hz⟩ : ∃ z, (dgEq r root && decide (u = path.length)) = z := ⟨_, rfl⟩
  simp only [hz]
  have HZ := Lib.hid hz
  clear hz
  go_wp2
  go_ret
  exact ⟨by rw [← HZ.out]; rfl, HF.out⟩
end Go.Proofs.YtfbemmeonkceiaaDoor
