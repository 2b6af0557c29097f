/- Contract of merkle's Many. -/
import Derived.Test.YtfbemmeonkceiaaDoorK9
namespace Go.Proofs.YtfbemmeonkceiaaDoor
open Go.RowKit Hm Wm

def manyF (g q : Nat) : Value := .func (.func 42) #[] #[.pointer (some ⟨g, 0, none⟩), .pointer (some ⟨q, 0, none⟩)]
theorem fm_under (W : World) : (isAgg 77).run Tryd.prog W = .ok false W := by kernel_rfl
theorem fm_size : (Tryd.prog.info? 77).map (·.size) = some 1 := by kernel_rfl
theorem manyD_len (l : List Dg) (fr : Int) (ps : List Int) : (manyD l fr ps).length ≤ l.length := by
  have aux : ∀ k (l : List Dg) fr ps, l.length ≤ k → (manyD l fr ps).length ≤ l.length := by
    intro k
    induction k with
    | zero => intro l fr ps h; obtain rfl : l = [] := List.eq_nil_of_length_eq_zero (by omega)
              rw [manyD_nil]; simp
    | succ k ih =>
      intro l fr ps h
      by_cases h0 : l.length = 0
      · obtain rfl : l = [] := List.eq_nil_of_length_eq_zero h0
        rw [manyD_nil]; simp
      · by_cases hp : ps = []
        · subst hp; rw [manyD_none fr (by omega)]; simp only [List.length_singleton]; omega
        · by_cases h2 : 2 ≤ l.length
          · have h3 := hf_lt h2
            have h4 := hf_pos l.length
            rw [manyD_two fr h2 hp, List.length_append]
            have e1 := ih (l.take (hf l.length)) fr (ps.filter (· < fr + hf l.length)) (by rw [List.length_take]; omega)
            have e2 := ih (l.drop (hf l.length)) (fr + hf l.length) (ps.filter (fun p => ¬ p < fr + hf l.length)) (by rw [List.length_drop]; omega)
            rw [List.length_take] at e1
            rw [List.length_drop] at e2
            omega
          · rw [manyD_one fr (by omega) hp]; simp
  exact aux _ l fr ps (Nat.le_refl _)

set_option maxRecDepth 100000 in
set_option maxHeartbeats 1000000 in
theorem many1_empty (w0 : World) (g q : Nat) (fr : Int) (P : Value) (A : Option Addr) (c : Nat) (v : Value) (path : List Dg) (w : World) (hS : HeldP w0 g q 77 (manyF g q) v path w) :
    Calls Tryd.prog 42 #[.slice A 0 c, .int .i64 fr, P, .pointer (some ⟨g, 0, none⟩), .pointer (some ⟨q, 0, none⟩)] w fun e w' => e = .returned (.tuple #[]) ∧ ∃ v', HeldP w0 g q 77 (manyF g q) v' path w' := by
  have HS := Lib.hid hS
  clear hS
  go_enter Tryd.func42, Tryd.ntmps42
  go_wp2
  exact bodyPost_ret (results_none rfl _ _ _) rfl ⟨rfl, v, HS.out⟩

set_option maxRecDepth 100000 in
set_option maxHeartbeats 1000000 in
theorem many1_one (w0 : World) (g q : Nat) (fr : Int) (n : Nat) (hn : n ≠ 0) (A2 : Option Addr) (c2 : Nat) (A : Option Addr) (c : Nat) (v : Value) (path : List Dg) (w : World) (hS : HeldP w0 g q 77 (manyF g q) v path w) :
    Calls Tryd.prog 42 #[.slice A 1 c, .int .i64 fr, .slice A2 n c2, .pointer (some ⟨g, 0, none⟩), .pointer (some ⟨q, 0, none⟩)] w fun e w' => e = .returned (.tuple #[]) ∧ ∃ v', HeldP w0 g q 77 (manyF g q) v' path w' := by
  have HS := Lib.hid hS
  have n0 : (n == 0) = false := by rw [beq_eq_false_iff_ne]; omega
  have m0 : ((n : Int) == 0) = false := by rw [beq_eq_false_iff_ne]; omega
  clear hS
  go_enter Tryd.func42, Tryd.ntmps42
  go_wp2
  exact bodyPost_ret (results_none rfl _ _ _) rfl ⟨rfl, v, HS.out⟩

set_option maxRecDepth 100000 in
set_option maxHeartbeats 1000000 in
theorem many1_none (w0 : World) (hg0 : Glob w0) (g q : Nat) (l : List Dg) (fr : Int) (A2 : Option Addr) (c2 : Nat) (A : Option Addr) (c : Nat) (v : Value) (path : List Dg) (w : World) (h1 : 1 ≤ l.length) (hc : l.length ≤ c) (hn : l.length ≤ 2 ^ 39) (hp : path.length + l.length ≤ 2 ^ 39) (hr : RdD w0 A l) (hS : HeldP w0 g q 77 (manyF g q) v path w) :
    Calls Tryd.prog 42 #[.slice A l.length c, .int .i64 fr, .slice A2 0 c2, .pointer (some ⟨g, 0, none⟩), .pointer (some ⟨q, 0, none⟩)] w fun e w' => e = .returned (.tuple #[]) ∧ ∃ v', HeldP w0 g q 77 (manyF g q) v' (path ++ manyD l fr []) w' := by
  have HC2 := Lib.hid (fun (w' : World) (hg' : Glob w') (hr' : RdD w' A l) => root_any l.length l A c w' (Nat.le_refl _) hc (by omega) hg' hr')
  have HG := Lib.hid hg0
  have HR := Lib.hid hr
  have HL := Lib.hid (show path.length ≤ 2 ^ 39 from by omega)
  have HX := Lib.hid (manyD_none fr h1)
  have n0 : (l.length == 0) = false := by rw [beq_eq_false_iff_ne]; omega
  have m0 : ((l.length : Int) == 0) = false := by rw [beq_eq_false_iff_ne]; omega
  have HS := Lib.hid hS
  clear hS hg0 hr hp hc hn
  unfold manyF
  go_enter Tryd.func42, Tryd.ntmps42
  go_wp2_with fail
  refine wp_region_any (by kernel_rfl) ?_
  have hS := HS.out.drew
  have hD := (Below.refl w.heap.size w).drew
  change wpAny _ _ _ _ _ _ _ w.drew
  generalize w.drew = w2 at hS hD ⊢
  refine any_take (i := 1) (some 22) rfl rfl rfl (by kernel_rfl) (by kernel_rfl) (by kernel_rfl) (.slice A l.length c) (fun _ _ _ h => h) (fun W => exec_move (.tmp 0) rfl _ rfl) ?_
  go_frame
  refine any_beside (i := 0) (k := 2) (m := 3) (S := HeldP w0 g q 77 (manyF g q) v path) 21 23 24 (by simp) (by simp) (by decide) (by decide) rfl rfl rfl rfl rfl rfl rfl rfl rfl (by kernel_rfl) (by kernel_rfl) (by kernel_rfl) (by kernel_rfl) (by kernel_rfl) 22 (.tmp 3) rfl (.pointer (some ⟨g, 0, none⟩)) v rfl (fun _ => rfl) (fun _ _ => rfl) (fun W hW => hW.var) hS rfl Tryd.func15 (by kernel_rfl) (by kernel_rfl) #[.slice A l.length c] rfl rfl (HC2.out w2 (HG.out.next hS.1) (HR.out.below hS.1)) ?_
  rintro e w3 ⟨rfl, hb3⟩
  obtain ⟨d, hd⟩ : ∃ d, rootD l = d := ⟨_, rfl⟩
  rw [hd]
  have HDD := Lib.hid hd
  clear hd
  have hS3 := hS.next hb3
  refine ⟨_, .slice (some ⟨w3.heap.size, 0, none⟩) 1 1, w3.alloc (.cells (dc d).toArray 31), rfl, hS3, hS3.alloc _, exec_buildD1 (.tmp 23) rfl d rfl, exec_buildD1 (.tmp 23) rfl d rfl, ?_⟩
  go_frame
  refine any_one (i := 4) (by kernel_rfl) (op_pushD (some 25) rfl rfl rfl (.tmp 21) (.tmp 24) rfl (w0.heap.size + 2) v path rfl hS3.2.2.2.1 d hS3.big (by have := HL.out; omega) rfl ?_)
  intro v5 w5 ho5 hb5
  go_frame
  refine any_one (i := 5) (by kernel_rfl) (op_store_var rfl rfl rfl 22 (.tmp 3) (.tmp 25) rfl g 22 v v5 rfl rfl (hS3.2.1.below hb5 hS3.2.2.2.2.2.2.1) ds_size (own_cell ho5).1 (own_cell ho5).2 ?_)
  intro w6 hk6 ho6
  refine wpAny_done (by kernel_rfl) ?_ _
  go_frame
  have hfin := hS3.push ho5 hb5 hk6 ho6
  have HF := Lib.hid hfin
  clear hfin hS hD hS3 hb3 ho5 hb5 hk6 ho6 HS
  go_wp2
  
  exact bodyPost_ret (results_none rfl _ _ _) rfl ⟨rfl, v5, by rw [HX.out, HDD.out]; exact HF.out⟩

set_option maxRecDepth 100000 in
set_option maxHeartbeats 1000000 in
theorem many1_any (w0 : World) (hg0 : Glob w0) (g q : Nat) (k : Nat) : ∀ (l : List Dg) (fr : Int) (ps : List Int) (A2 : Option Addr) (c2 : Nat) (A : Option Addr) (c : Nat) (v : Value) (path : List Dg) (w : World), l.length ≤ k → l.length ≤ c → l.length ≤ 2 ^ 39 → path.length + l.length ≤ 2 ^ 39 →
    RdD w0 A l → RdI w0 A2 ps → ps.length ≤ c2 → ps.length ≤ 2 ^ 41 → ps.Pairwise (· < ·) → 0 ≤ fr → fr + l.length ≤ 2 ^ 42 → HeldP w0 g q 77 (manyF g q) v path w →
    Calls Tryd.prog 42 #[.slice A l.length c, .int .i64 fr, .slice A2 ps.length c2, .pointer (some ⟨g, 0, none⟩), .pointer (some ⟨q, 0, none⟩)] w fun e w' => e = .returned (.tuple #[]) ∧ ∃ v', HeldP w0 g q 77 (manyF g q) v' (path ++ manyD l fr ps) w' := by
  induction k with
  | zero =>
    intro l fr ps A2 c2 A c v path w hk _ _ _ _ _ _ _ _ _ _ hS
    obtain rfl : l = [] := List.eq_nil_of_length_eq_zero (by omega)
    rw [manyD_nil, List.append_nil]
    exact many1_empty w0 g q fr _ A c v path w hS
  | succ k ih =>
    intro l fr ps A2 c2 A c v path w hk hc hn hp hr hi hc2 hn2 hs hf0 hf1 hS
    by_cases h0 : l.length = 0
    · obtain rfl : l = [] := List.eq_nil_of_length_eq_zero h0
      rw [manyD_nil, List.append_nil]
      exact many1_empty w0 g q fr _ A c v path w hS
    by_cases hpn : ps = []
    · subst hpn
      exact many1_none w0 hg0 g q l fr A2 c2 A c v path w (by omega) hc hn hp hr hS
    have hpl : ps.length ≠ 0 := fun h => hpn (List.eq_nil_of_length_eq_zero h)
    by_cases h1 : l.length = 1
    · rw [manyD_one fr h1 hpn, List.append_nil, h1]
      exact many1_one w0 g q fr _ hpl A2 c2 A c v path w hS
    · have h2 : 2 ≤ l.length := by omega
      have hlt := hf_lt h2
      have hpos := hf_pos l.length
      have e1 : (l.take (hf l.length)).length = hf l.length := by rw [List.length_take]; omega
      have e2 : (l.drop (hf l.length)).length = l.length - hf l.length := List.length_drop
      have hcut := sorted_cut (fr + hf l.length) ps hs
      have hat : ps.countP (· < fr + hf l.length) ≤ ps.length := List.countP_le_length
      have HB := Lib.hid (fun (w' : World) (hr' : RdI w' A2 ps) => before_any A2 c2 ps (fr + hf l.length) w' hr' hpn hn2 hs)
      obtain ⟨at_, ha⟩ : ∃ at_, ps.countP (· < fr + hf l.length) = at_ := ⟨_, rfl⟩
      rw [ha] at hcut hat HB
      have e3 : (ps.take at_).length = at_ := by rw [List.length_take]; omega
      have e4 : (ps.drop at_).length = ps.length - at_ := List.length_drop
      have hx := manyD_two fr h2 hpn
      rw [← hcut.1, ← hcut.2] at hx
      have HP := Lib.hid (fun w' => parts_any A l.length c w' h2 hc (by omega))
      have HCI := Lib.hid (fun w' => cutI_any A2 ps.length c2 at_ w' hat hc2)
      have c1 := fun (v' : Value) (w' : World) => ih (l.take (hf l.length)) fr (ps.take at_) A2 at_ A (hf l.length) v' path w' (by omega) (by omega) (by omega) (by omega) (hr.take _) (hi.take _) (by omega) (by omega) (hs.sublist (List.take_sublist _ _)) hf0 (by omega)
      have hlen := manyD_len (l.take (hf l.length)) fr (ps.take at_)
      rw [e1] at hlen c1
      have c2' := fun (v' : Value) (w' : World) => ih (l.drop (hf l.length)) (fr + hf l.length) (ps.drop at_) (iA A2 ps.length at_) (ps.length - at_) (dA A l.length (hf l.length)) (l.length - hf l.length) v' (path ++ manyD (l.take (hf l.length)) fr (ps.take at_)) w' (by omega) (by omega) (by omega) (by rw [List.length_append]; omega) (hr.drop _) (hi.drop _) (by omega) (by omega) (hs.sublist (List.drop_sublist _ _)) (by omega) (by omega)
      rw [e2, e4] at c2'
      rw [e3] at c1
      have HC1 := Lib.hid c1
      have HC2 := Lib.hid c2'
      have HX := Lib.hid hx
      have HI := Lib.hid hi
      have HS0 := Lib.hid hS
      have n0 : (l.length == 0) = false := by rw [beq_eq_false_iff_ne]; omega
      have m0 : ((l.length : Int) == 0) = false := by rw [beq_eq_false_iff_ne]; omega
      have n1 : (l.length == 1) = false := by rw [beq_eq_false_iff_ne]; omega
      have m1 : ((l.length : Int) == 1) = false := by rw [beq_eq_false_iff_ne]; omega
      have p0 : (ps.length == 0) = false := by rw [beq_eq_false_iff_ne]; omega
      have q0 : ((ps.length : Int) == 0) = false := by rw [beq_eq_false_iff_ne]; omega
      have hb0 : 0 ≤ fr + (hf l.length : Int) := by omega
      have hb1 : fr + (hf l.length : Int) ≤ 4398046511104 := by omega
      clear ih hr hS c1 c2' hx hlen hpos e1 e2 e3 e4 hp hcut ha hpl hpn hs hi
      unfold manyF
      go_enter Tryd.func42, Tryd.ntmps42
      go_wp2_with fail
      refine (HP.out _).mono ?_
      rintro e w1 ⟨rfl, qd, hq⟩
      have HS1 := HS0.out.drewN qd
      rw [← hq] at HS1
      have HS1 := Lib.hid HS1
      clear hq
      go_wp2_with fail
      refine (HB.out _ (HI.out.below HS1.out.1)).mono ?_
      rintro e w2 ⟨rfl, qe, hq⟩
      have HS2 := HS1.out.drewN qe
      rw [← hq] at HS2
      have HS2 := Lib.hid HS2
      clear hq
      go_wp2_with fail
      refine (HCI.out _).mono ?_
      rintro e w3 ⟨rfl, qf, hq⟩
      have HS3 := HS2.out.drewN qf
      rw [← hq] at HS3
      have HS3 := Lib.hid HS3
      clear hq
      go_wp2_with (refine wpList_load_var rfl 77 (.tmp 4) rfl q _ (manyF g q) rfl HS3.out.2.2.1 fm_under ?_; unfold manyF)
      refine (HC1.out _ _ HS3.out).mono ?_
      rintro e wr ⟨rfl, vp, hSr⟩
      have HS := Lib.hid hSr
      clear hSr HS1 HS0 HC1 HS2 HS3
      go_wp2_with (refine wpList_load_var rfl 77 (.tmp 4) rfl q _ (manyF g q) rfl HS.out.2.2.1 fm_under ?_; unfold manyF)
      refine (HC2.out _ _ HS.out).mono ?_
      rintro e wq ⟨rfl, vq, hSq⟩
      rw [List.append_assoc, ← HX.out] at hSq
      have HQ := Lib.hid hSq
      clear hSq HS HC2
      go_wp2
      go_end0
      exact ⟨rfl, vq, HQ.out⟩

set_option maxRecDepth 100000 in
set_option maxHeartbeats 1000000 in
theorem many_bad (l : List Dg) (A : Option Addr) (c : Nat) (ps : List Int) (A2 : Option Addr) (c2 : Nat) (w : World) (hi : RdI w A2 ps) (hn2 : ps.length ≤ 2 ^ 41) (h : ascF l.length (-1) ps = false) :
    Calls Tryd.prog 21 #[.slice A l.length c, .slice A2 ps.length c2] w fun e w' => e = .returned (.tuple #[.slice none 0 0, .int .i64 1]) ∧ w' = w := by
  have HA := asc_any A2 c2 ps l.length w hi hn2
  rw [h] at HA
  have HA := Lib.hid HA
  clear hi h
  go_enter Tryd.func21, Tryd.ntmps21
  go_wp2_with fail
  refine HA.out.mono ?_
  rintro e w1 ⟨rfl, rfl⟩
  go_wp2
  go_ret2
  exact ⟨rfl, rfl⟩

set_option maxRecDepth 100000 in
set_option maxHeartbeats 1000000 in
theorem many_any (l : List Dg) (A : Option Addr) (c : Nat) (ps : List Int) (A2 : Option Addr) (c2 : Nat) (w : World) (hg : Glob w) (hr : RdD w A l) (hc : l.length ≤ c) (hn : l.length ≤ 2 ^ 38) (hi : RdI w A2 ps) (hc2 : ps.length ≤ c2) (hn2 : ps.length ≤ 2 ^ 41) (h : ascF l.length (-1) ps = true) :
    Calls Tryd.prog 21 #[.slice A l.length c, .slice A2 ps.length c2] w fun e w' => ∃ v, e = .returned (.tuple #[v, .int .i64 0]) ∧ NewD w' (manyD l 0 ps) v ∧ Below w.heap.size w w' := by
  have hmf : ∀ (fn : Fn) (first cap : Array Value) (w : World), (Instr.makeFunc fn first cap).run Tryd.prog w = .ok (.func fn first cap) w := fun _ _ _ _ => rfl
  have HA := asc_any A2 c2 ps l.length w hi hn2
  rw [h] at HA
  have HA := Lib.hid HA
  have hs := (ascF_sorted _ _ _ h).2
  have HC := Lib.hid (fun w' => many1_any w hg w.heap.size (w.heap.size + 1) l.length l 0 ps A2 c2 A c (.slice none 0 0) [] w' (Nat.le_refl _) hc (by omega) (by simp; omega) hr hi hc2 hn2 hs (by omega) (by omega))
  have HK := Lib.hid (blk_fn w 77)
  clear hg hr hi h hs
  go_enter Tryd.func21, Tryd.ntmps21
  go_wp2_with fail
  refine HA.out.mono ?_
  rintro e w1 ⟨rfl, rfl⟩
  go_wp2_with (first | (refine wpList_store_var rfl 77 (.tmp 7) (.tmp 13) rfl (w.heap.size + 1) _ .nilFunc (manyF w.heap.size (w.heap.size + 1)) rfl rfl HK.out fm_size rfl rfl ?_; intro w3 HK3 ho3; have HS3 := Lib.hid (HeldP.begin HK3.out ho3); clear ho3 HK HK3) | (refine wpList_load_var rfl 77 (.tmp 7) rfl (w.heap.size + 1) _ (manyF w.heap.size (w.heap.size + 1)) rfl HS3.out.2.2.1 fm_under ?_; unfold manyF))
  refine (HC.out _ HS3.out).mono ?_
  rintro e w4 ⟨rfl, v4, hS4⟩
  have HS4 := Lib.hid hS4
  clear hS4 HS3 HC
  go_wp2_with (refine wpList_load_var rfl 22 (.tmp 6) rfl w.heap.size _ v4 rfl HS4.out.2.1 ds_flat ?_)
  go_ret2
  exact ⟨v4, rfl, newD_of_row (by have := HS4.out.2.2.2.1; rwa [List.nil_append] at this), HS4.out.1⟩
end Go.Proofs.YtfbemmeonkceiaaDoor
