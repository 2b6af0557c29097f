/- Which levels, ticks, intervals and blocks there are; Block, Parent. -/
import Derived.Test.YtmifpaafpmibmaaDoorC8
import Derived.Test.YtmifpaafpmibmaaDoorNT
import Derived.Laws.StructEq
namespace Go.Proofs.YtmifpaafpmibmaaDoor
open Go.RowKit Hm Wm Cm

def levB (l : Int) : Bool := decide (0 ≤ l ∧ l ≤ 4)
def tikB (t : Int) : Bool := decide (0 ≤ t ∧ t < 1402560)
def intB (f t : Int) : Bool := decide (0 ≤ f ∧ f ≤ t ∧ t ≤ 1402560)
set_option maxRecDepth 100000 in
set_option maxHeartbeats 400000 in
theorem level_any (l : Int) (w : World) : Calls Tryd.prog 20 #[.int .i64 l] w fun e w' => e = .returned (.bool (levB l)) ∧ w = w' := by
  by_cases h1 : 0 ≤ l
  · by_cases h2 : l ≤ 4
    · have HR := Lib.hid (show levB l = true from decide_eq_true ⟨h1, h2⟩)
      go_enter Tryd.func20, Tryd.ntmps20
      go_wp2
      go_ret
      exact ⟨by rw [HR.out]; rfl, rfl⟩
    · have HR := Lib.hid (show levB l = false from decide_eq_false fun h => h2 h.2)
      go_enter Tryd.func20, Tryd.ntmps20
      go_wp2
      go_ret
      exact ⟨by rw [HR.out]; rfl, rfl⟩
  · have HR := Lib.hid (show levB l = false from decide_eq_false fun h => h1 h.1)
    go_enter Tryd.func20, Tryd.ntmps20
    go_wp2
    go_ret
    exact ⟨by rw [HR.out]; rfl, rfl⟩
set_option maxRecDepth 100000 in
set_option maxHeartbeats 400000 in
theorem tick_any (l : Int) (w : World) : Calls Tryd.prog 21 #[.int .i64 l] w fun e w' => e = .returned (.bool (tikB l)) ∧ w = w' := by
  by_cases h1 : 0 ≤ l
  · by_cases h2 : l < 1402560
    · have HR := Lib.hid (show tikB l = true from decide_eq_true ⟨h1, h2⟩)
      go_enter Tryd.func21, Tryd.ntmps21
      go_wp2
      go_ret
      exact ⟨by rw [HR.out]; rfl, rfl⟩
    · have HR := Lib.hid (show tikB l = false from decide_eq_false fun h => h2 h.2)
      go_enter Tryd.func21, Tryd.ntmps21
      go_wp2
      go_ret
      exact ⟨by rw [HR.out]; rfl, rfl⟩
  · have HR := Lib.hid (show tikB l = false from decide_eq_false fun h => h1 h.1)
    go_enter Tryd.func21, Tryd.ntmps21
    go_wp2
    go_ret
    exact ⟨by rw [HR.out]; rfl, rfl⟩
set_option maxRecDepth 100000 in
set_option maxHeartbeats 400000 in
theorem interval_any (f t : Int) (w : World) : Calls Tryd.prog 31 #[.int .i64 f, .int .i64 t] w fun e w' => e = .returned (.bool (intB f t)) ∧ w = w' := by
  by_cases h1 : 0 ≤ f
  · by_cases h2 : f ≤ t
    · by_cases h3 : t ≤ 1402560
      · have HR := Lib.hid (show intB f t = true from decide_eq_true ⟨h1, h2, h3⟩)
        go_enter Tryd.func31, Tryd.ntmps31
        go_wp2
        go_ret
        exact ⟨by rw [HR.out]; rfl, rfl⟩
      · have HR := Lib.hid (show intB f t = false from decide_eq_false fun h => h3 h.2.2)
        go_enter Tryd.func31, Tryd.ntmps31
        go_wp2
        go_ret
        exact ⟨by rw [HR.out]; rfl, rfl⟩
    · have HR := Lib.hid (show intB f t = false from decide_eq_false fun h => h2 h.2.1)
      go_enter Tryd.func31, Tryd.ntmps31
      go_wp2
      go_ret
      exact ⟨by rw [HR.out]; rfl, rfl⟩
  · have HR := Lib.hid (show intB f t = false from decide_eq_false fun h => h1 h.1)
    go_enter Tryd.func31, Tryd.ntmps31
    go_wp2
    go_ret
    exact ⟨by rw [HR.out]; rfl, rfl⟩
theorem results_bt {P : Program} {fn : Func} {p q : Tmp} {ty : TypeId} (h : fn.results = #[.cell p ty, .tmp q]) (tmps : Array Value) (w : World) (g : Nat) (t : TypeId) (cs : List Value) (v : Value) (d : TypeDesc)
    (hp : tmps.getD p undef = .pointer (some ⟨g, 0, none⟩)) (hq : tmps.getD q undef = v) (hg : Blk w g t cs) (hu : P.underlying ty = some d) (hd : d.isRow = true) (hi : (P.info? ty).map (·.size) = some cs.length) :
    (results fn tmps).run P w = .ok (.tuple #[.agg cs.toArray, v]) w := by
  have hp' : tmps[p]?.getD undef = .pointer (some ⟨g, 0, none⟩) := by simpa using hp
  have hq' : tmps[q]?.getD undef = v := by simpa using hq
  simp [results, h, hp', hq', asAddr, run_loadVar_row w g t ty cs.toArray (0, 0) d hg hu (by cases d <;> first | rfl | cases hd) (by simpa using hi)]
set_option maxRecDepth 100000 in
set_option maxHeartbeats 1000000 in
theorem block_no (l t : Int) (w : World) (h : ¬ (levB l = true ∧ tikB t = true)) : Calls Tryd.prog 5 #[.int .i64 l, .int .i64 t] w fun e w' => e = .returned (.tuple #[bV 0 0 0, .int .i64 3]) ∧ Below w.heap.size w w' := by
  have HZ := Lib.hid (Blk.new w 23 bZ)
  have HW := Lib.hid ((Below.refl w.heap.size w).alloc (Nat.le_refl _) (.cells bZ.toArray 23))
  have HL := Lib.hid (level_any l)
  have HT := Lib.hid (tick_any t)
  cases h1 : levB l
  · rw [h1] at HL
    clear h
    go_enter Tryd.func5, Tryd.ntmps5
    go_wp2_with fail
    refine (HL.out _).mono ?_
    rintro e w0 ⟨rfl, h0⟩
    subst h0
    go_wp2_with (first | (refine wpList_dst 14 rfl ?_; refine wpList_run 14 rfl rfl _ (exec_build0 23 rfl _ (bn_nil _)) ?_) | (refine wpList_store_all rfl 23 (.tmp 4) (.tmp 14) rfl w.heap.size _ bZ bZ rfl rfl HZ.out rfl bn_size (b_one _ _ _) ?_; intro w9 HK9 ho9; have HO9 := Lib.hid ho9; clear ho9))
    exact bodyPost_ret (results_bt rfl _ _ w.heap.size _ bZ (.int .i64 3) _ rfl rfl HK9.out Tryd.underlying23 rfl bn_size) rfl ⟨rfl, HW.out.trans (HO9.out.below (Nat.le_refl _))⟩
  · cases h2 : tikB t
    · rw [h1] at HL
      rw [h2] at HT
      clear h
      go_enter Tryd.func5, Tryd.ntmps5
      go_wp2_with fail
      refine (HL.out _).mono ?_
      rintro e w0 ⟨rfl, h0⟩
      subst h0
      go_wp2_with fail
      refine (HT.out _).mono ?_
      rintro e w0 ⟨rfl, h0⟩
      subst h0
      go_wp2_with (first | (refine wpList_dst 14 rfl ?_; refine wpList_run 14 rfl rfl _ (exec_build0 23 rfl _ (bn_nil _)) ?_) | (refine wpList_store_all rfl 23 (.tmp 4) (.tmp 14) rfl w.heap.size _ bZ bZ rfl rfl HZ.out rfl bn_size (b_one _ _ _) ?_; intro w9 HK9 ho9; have HO9 := Lib.hid ho9; clear ho9))
      exact bodyPost_ret (results_bt rfl _ _ w.heap.size _ bZ (.int .i64 3) _ rfl rfl HK9.out Tryd.underlying23 rfl bn_size) rfl ⟨rfl, HW.out.trans (HO9.out.below (Nat.le_refl _))⟩
    · exact absurd ⟨h1, h2⟩ h
set_option maxRecDepth 100000 in
set_option maxHeartbeats 1000000 in
theorem block_raw (l t a b : Int) (w : World) (h1 : levB l = true) (h2 : tikB t = true) (h3 : ∀ W, Lens W → Calls Tryd.prog 22 #[.int .i64 l, .int .i64 t] W fun e w' => e = .returned (bV l a b) ∧ Below W.heap.size W w') (hL : Lens w) : Calls Tryd.prog 5 #[.int .i64 l, .int .i64 t] w fun e w' => e = .returned (.tuple #[bV l a b, .int .i64 0]) ∧ Below w.heap.size w w' := by
  have HZ := Lib.hid (Blk.new w 23 bZ)
  have HW := Lib.hid ((Below.refl w.heap.size w).alloc (Nat.le_refl _) (.cells bZ.toArray 23))
  have HN := Lib.hid (hL.next HW.out)
  have HL := Lib.hid (level_any l)
  have HT := Lib.hid (tick_any t)
  have HF := Lib.hid h3
  rw [h1] at HL
  rw [h2] at HT
  clear h3 hL h1 h2
  go_enter Tryd.func5, Tryd.ntmps5
  go_wp2_with fail
  refine (HL.out _).mono ?_
  rintro e w0 ⟨rfl, h0⟩
  subst h0
  go_wp2_with fail
  refine (HT.out _).mono ?_
  rintro e w0 ⟨rfl, h0⟩
  subst h0
  go_wp2_with fail
  refine (HF.out _ HN.out).mono ?_
  rintro e w1 ⟨rfl, hb⟩
  replace HZ := Lib.hid (HZ.out.next hb)
  replace HW := Lib.hid (HW.out.trans (hb.mono HW.out.size))
  clear hb
  go_wp2_with (first | (refine wpList_store_all rfl 23 (.tmp 4) (.tmp 17) rfl w.heap.size _ bZ (b3 l a b) rfl rfl HZ.out rfl bn_size (b_one _ _ _) ?_; intro w9 HK9 ho9; have HO9 := Lib.hid ho9; clear ho9))
  exact bodyPost_ret (results_bt rfl _ _ w.heap.size _ (b3 l a b) (.int .i64 0) _ rfl rfl HK9.out Tryd.underlying23 rfl bn_size) rfl ⟨rfl, HW.out.trans (HO9.out.below (Nat.le_refl _))⟩
theorem block_yes (L t : Nat) (w : World) (hL : Lens w) (h4 : L ≤ 4) (ht : t < M) : Calls Tryd.prog 5 #[.int .i64 L, .int .i64 t] w fun e w' => e = .returned (.tuple #[fV L t, .int .i64 0]) ∧ Below w.heap.size w w' := by
  have hM : M = 1402560 := rfl
  exact block_raw L t (fl L t : Nat) (nx L t : Nat) w (decide_eq_true (by omega)) (decide_eq_true (by omega)) (fun W h => find_any L t W h h4 ht) hL
theorem bn_eq (l f t a b c : Int) (W : World) : (binOp .eql 23 (.agg #[.int .i64 l, .int .i64 f, .int .i64 t]) (.agg #[.int .i64 a, .int .i64 b, .int .i64 c])).run Tryd.prog W = .ok (.bool (decide (l = a ∧ f = b ∧ t = c))) W := by
  have u1 := Tryd.underlying3
  have a1 := Tryd.isAgg3
  have z1 := Tryd.sizeOf3
  have hS : Tryd.prog.underlying 23 = some (.struct (Tryd.prog.fieldsOf 23)) := by kernel_rfl
  have hp : Tryd.prog.stoodInHeld 23 = false := by kernel_rfl
  rw [run_eql_struct, show (10000 : Nat) = 9999 + 1 from rfl, run_equalIn_agg W 9999 23 _ _ hS hp]
  simp only [Program.fieldsOf, Tryd.underlying23]
  go_simp
  by_cases h1 : l = a <;> by_cases h2 : f = b <;> by_cases h3 : t = c <;> simp [h1, h2, h3]
theorem bn_guard (op : BinOp) (W : World) (x y : Operand) (xs ys : Array Value) : (eqGuard op 23 x y (.agg xs) (.agg ys)).run Tryd.prog W = .ok () W := run_eqGuard_agg W op _ x y xs ys (by kernel_rfl)
end Go.Proofs.YtmifpaafpmibmaaDoor
