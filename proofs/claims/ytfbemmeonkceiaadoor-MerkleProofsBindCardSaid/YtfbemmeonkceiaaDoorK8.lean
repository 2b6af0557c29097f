/- Contract of the closure of merkle's Consistency. -/
import Derived.Test.YtfbemmeonkceiaaDoorK7
namespace Go.Proofs.YtfbemmeonkceiaaDoor
open Go.RowKit Hm Wm

def consF (g q : Nat) : Value := .func (.func 34) #[] #[.pointer (some ⟨g, 0, none⟩), .pointer (some ⟨q, 0, none⟩)]
theorem fc_under (W : World) : (isAgg 67).run Tryd.prog W = .ok false W := by kernel_rfl
theorem fc_size : (Tryd.prog.info? 67).map (·.size) = some 1 := by kernel_rfl

set_option maxRecDepth 100000 in
set_option maxHeartbeats 1000000 in
theorem cons1_yes (w0 : World) (g q : Nat) (l : List Dg) (A : Option Addr) (c : Nat) (v : Value) (path : List Dg) (w : World) (hS : HeldP w0 g q 67 (consF g q) v path w) :
    Calls Tryd.prog 34 #[.slice A l.length c, .int .i64 l.length, .bool true, .pointer (some ⟨g, 0, none⟩), .pointer (some ⟨q, 0, none⟩)] w fun e w' => e = .returned (.tuple #[]) ∧ ∃ v', HeldP w0 g q 67 (consF g q) v' (path ++ consD l l.length true) w' := by
  have HS := Lib.hid hS
  clear hS
  rw [consD_all, List.append_nil]
  go_enter Tryd.func34, Tryd.ntmps34
  go_wp2
  exact bodyPost_ret (results_none rfl _ _ _) rfl ⟨rfl, v, HS.out⟩

set_option maxRecDepth 100000 in
set_option maxHeartbeats 1000000 in
theorem cons1_no (w0 : World) (hg0 : Glob w0) (g q : Nat) (l : List Dg) (A : Option Addr) (c : Nat) (v : Value) (path : List Dg) (w : World) (hc : l.length ≤ c) (hn : l.length ≤ 2 ^ 39) (hp : path.length + l.length ≤ 2 ^ 39) (hr : RdD w0 A l) (hS : HeldP w0 g q 67 (consF g q) v path w) :
    Calls Tryd.prog 34 #[.slice A l.length c, .int .i64 l.length, .bool false, .pointer (some ⟨g, 0, none⟩), .pointer (some ⟨q, 0, none⟩)] w fun e w' => e = .returned (.tuple #[]) ∧ ∃ v', HeldP w0 g q 67 (consF g q) v' (path ++ consD l l.length false) w' := by
  have HC2 := Lib.hid (fun (w' : World) (hg' : Glob w') (hr' : RdD w' A l) => root_any l.length l A c w' (Nat.le_refl _) hc (by omega) hg' hr')
  have HG := Lib.hid hg0
  have HR := Lib.hid hr
  have HL := Lib.hid (show path.length ≤ 2 ^ 39 from by omega)
  have HX := Lib.hid (consD_all' (l := l))

  have HS := Lib.hid hS
  clear hS hg0 hr hp hc hn
  unfold consF
  go_enter Tryd.func34, Tryd.ntmps34
  go_wp2_with fail
  refine wp_region_any (by kernel_rfl) ?_
  have hS := HS.out.drew
  have hD := (Below.refl w.heap.size w).drew
  change wpAny _ _ _ _ _ _ _ w.drew
  generalize w.drew = w2 at hS hD ⊢
  refine any_take (i := 1) (some 18) rfl rfl rfl (by kernel_rfl) (by kernel_rfl) (by kernel_rfl) (.slice A l.length c) (fun _ _ _ h => h) (fun W => exec_move (.tmp 0) rfl _ rfl) ?_
  go_frame
  refine any_beside (i := 0) (k := 2) (m := 3) (S := HeldP w0 g q 67 (consF g q) v path) 17 19 20 (by simp) (by simp) (by decide) (by decide) rfl rfl rfl rfl rfl rfl rfl rfl rfl (by kernel_rfl) (by kernel_rfl) (by kernel_rfl) (by kernel_rfl) (by kernel_rfl) 22 (.tmp 3) rfl (.pointer (some ⟨g, 0, none⟩)) v rfl (fun _ => rfl) (fun _ _ => rfl) (fun W hW => hW.var) hS rfl Tryd.func15 (by kernel_rfl) (by kernel_rfl) #[.slice A l.length c] rfl rfl (HC2.out w2 (HG.out.next hS.1) (HR.out.below hS.1)) ?_
  rintro e w3 ⟨rfl, hb3⟩
  obtain ⟨d, hd⟩ : ∃ d, rootD l = d := ⟨_, rfl⟩
  rw [hd]
  have HDD := Lib.hid hd
  clear hd
  have hS3 := hS.next hb3
  refine ⟨_, .slice (some ⟨w3.heap.size, 0, none⟩) 1 1, w3.alloc (.cells (dc d).toArray 31), rfl, hS3, hS3.alloc _, exec_buildD1 (.tmp 19) rfl d rfl, exec_buildD1 (.tmp 19) rfl d rfl, ?_⟩
  go_frame
  refine any_one (i := 4) (by kernel_rfl) (op_pushD (some 21) rfl rfl rfl (.tmp 17) (.tmp 20) rfl (w0.heap.size + 2) v path rfl hS3.2.2.2.1 d hS3.big (by have := HL.out; omega) rfl ?_)
  intro v5 w5 ho5 hb5
  go_frame
  refine any_one (i := 5) (by kernel_rfl) (op_store_var rfl rfl rfl 22 (.tmp 3) (.tmp 21) rfl g 22 v v5 rfl rfl (hS3.2.1.below hb5 hS3.2.2.2.2.2.2.1) ds_size (own_cell ho5).1 (own_cell ho5).2 ?_)
  intro w6 hk6 ho6
  refine wpAny_done (by kernel_rfl) ?_ _
  go_frame
  have hfin := hS3.push ho5 hb5 hk6 ho6
  have HF := Lib.hid hfin
  clear hfin hS hD hS3 hb3 ho5 hb5 hk6 ho6 HS
  go_wp2
  
  exact bodyPost_ret (results_none rfl _ _ _) rfl ⟨rfl, v5, by rw [HX.out, HDD.out]; exact HF.out⟩

set_option maxRecDepth 100000 in
set_option maxHeartbeats 1000000 in
theorem cons1_any (w0 : World) (hg0 : Glob w0) (g q : Nat) (k : Nat) : ∀ (l : List Dg) (m : Nat) (mark : Bool) (A : Option Addr) (c : Nat) (v : Value) (path : List Dg) (w : World), l.length ≤ k → 1 ≤ m → m ≤ l.length → l.length ≤ c → l.length ≤ 2 ^ 39 → path.length + l.length ≤ 2 ^ 39 →
    RdD w0 A l → HeldP w0 g q 67 (consF g q) v path w →
    Calls Tryd.prog 34 #[.slice A l.length c, .int .i64 m, .bool mark, .pointer (some ⟨g, 0, none⟩), .pointer (some ⟨q, 0, none⟩)] w fun e w' => e = .returned (.tuple #[]) ∧ ∃ v', HeldP w0 g q 67 (consF g q) v' (path ++ consD l m mark) w' := by
  induction k with
  | zero => intro l m mark A c v path w hk h1 h2; omega
  | succ k ih =>
    intro l m mark A c v path w hk hm1 hm2 hc hn hp hr hS
    by_cases hml : m = l.length
    · subst hml
      cases mark
      · exact cons1_no w0 hg0 g q l A c v path w hc hn hp hr hS
      · exact cons1_yes w0 g q l A c v path w hS
    · have h2 : 2 ≤ l.length := by omega
      have hlt := hf_lt h2
      have hpos := hf_pos l.length
      have e1 : (l.take (hf l.length)).length = hf l.length := by rw [List.length_take]; omega
      have e2 : (l.drop (hf l.length)).length = l.length - hf l.length := List.length_drop
      have HP := Lib.hid (fun w' => parts_any A l.length c w' h2 hc (by omega))
      have HR1 := Lib.hid (hr.take (hf l.length))
      have HR2 := Lib.hid (hr.drop (hf l.length))
      have HG := Lib.hid hg0
      have HS0 := Lib.hid hS
      have n1 : ((m : Int) == (l.length : Int)) = false := by rw [beq_eq_false_iff_ne]; omega
      have n2 : (m == l.length) = false := by rw [beq_eq_false_iff_ne]; omega
      have n3 : decide (m = l.length) = false := decide_eq_false hml
      by_cases hlo : m ≤ hf l.length
      · have c1 := fun (v' : Value) (w' : World) => ih (l.take (hf l.length)) m mark A (hf l.length) v' path w' (by omega) hm1 (by omega) (by omega) (by omega) (by omega) (hr.take _)
        have c2 := fun (w' : World) (hg' : Glob w') (hr' : RdD w' (dA A l.length (hf l.length)) (l.drop (hf l.length))) => root_any (l.length - hf l.length) (l.drop (hf l.length)) (dA A l.length (hf l.length)) (l.length - hf l.length) w' (by omega) (by omega) (by omega) hg' hr'
        have hx := consD_lo mark h2 hml hlo
        rw [e1] at c1
        rw [e2] at c2
        have hlen := consD_len (l.take (hf l.length)) m mark hm1 (by omega)
        rw [e1] at hlen
        have HL := Lib.hid (show (path ++ consD (l.take (hf l.length)) m mark).length ≤ 2 ^ 39 from by rw [List.length_append]; omega)
        have HC1 := Lib.hid c1
        have HC2 := Lib.hid c2
        have HX := Lib.hid hx
        clear ih hr hS c1 c2 hx hlen hpos e1 e2 hp
        have dlo : decide ((m : Int) ≤ (hf l.length : Int)) = true := decide_eq_true (by omega)
        have dlo' : decide (m ≤ hf l.length) = true := decide_eq_true (by omega)
        unfold consF
        go_enter Tryd.func34, Tryd.ntmps34
        go_wp2_with fail
        refine (HP.out _).mono ?_
        rintro e w1 ⟨rfl, qd, rfl⟩
        have HS1 := Lib.hid (HS0.out.drewN qd)
        go_wp2_with (refine wpList_load_var rfl 67 (.tmp 4) rfl q _ (consF g q) rfl HS1.out.2.2.1 fc_under ?_; unfold consF)
        refine (HC1.out _ _ HS1.out).mono ?_
        rintro e wr ⟨rfl, vp, hSr⟩
        have HS := Lib.hid hSr
        clear hSr HS1 HS0 HC1
        obtain ⟨path', hpp⟩ : ∃ p, path ++ consD (l.take (hf l.length)) m mark = p := ⟨_, rfl⟩
        rw [hpp] at HS HL
        have HPP := Lib.hid hpp
        clear hpp
        go_wp2_with fail
        refine wp_region_any (by kernel_rfl) ?_
        have hS := HS.out.drew
        have hD := (Below.refl wr.heap.size wr).drew
        change wpAny _ _ _ _ _ _ _ wr.drew
        generalize wr.drew = w2 at hS hD ⊢
        refine any_take (i := 1) (some 38) rfl rfl rfl (by kernel_rfl) (by kernel_rfl) (by kernel_rfl) (.slice (dA A l.length (hf l.length)) (l.length - hf l.length : Nat) (l.length - hf l.length : Nat)) (fun _ _ _ h => h) (fun W => exec_move (.tmp 9) rfl _ rfl) ?_
        go_frame
        refine any_beside (i := 0) (k := 2) (m := 3) (S := HeldP w0 g q 67 (consF g q) vp path') 37 39 40 (by simp) (by simp) (by decide) (by decide) rfl rfl rfl rfl rfl rfl rfl rfl rfl (by kernel_rfl) (by kernel_rfl) (by kernel_rfl) (by kernel_rfl) (by kernel_rfl) 22 (.tmp 3) rfl (.pointer (some ⟨g, 0, none⟩)) vp rfl (fun _ => rfl) (fun _ _ => rfl) (fun W hW => hW.var) hS rfl Tryd.func15 (by kernel_rfl) (by kernel_rfl) #[.slice (dA A l.length (hf l.length)) (l.length - hf l.length : Nat) (l.length - hf l.length : Nat)] rfl rfl (HC2.out w2 (HG.out.next hS.1) (HR2.out.below hS.1)) ?_
        rintro e w3 ⟨rfl, hb3⟩
        obtain ⟨d, hd⟩ : ∃ d, rootD (l.drop (hf l.length)) = d := ⟨_, rfl⟩
        rw [hd]
        have HDD := Lib.hid hd
        clear hd
        have hS3 := hS.next hb3
        refine ⟨_, .slice (some ⟨w3.heap.size, 0, none⟩) 1 1, w3.alloc (.cells (dc d).toArray 31), rfl, hS3, hS3.alloc _, exec_buildD1 (.tmp 39) rfl d rfl, exec_buildD1 (.tmp 39) rfl d rfl, ?_⟩
        go_frame
        refine any_one (i := 4) (by kernel_rfl) (op_pushD (some 41) rfl rfl rfl (.tmp 37) (.tmp 40) rfl (w0.heap.size + 2) vp path' rfl hS3.2.2.2.1 d hS3.big (by have := HL.out; omega) rfl ?_)
        intro v5 w5 ho5 hb5
        go_frame
        refine any_one (i := 5) (by kernel_rfl) (op_store_var rfl rfl rfl 22 (.tmp 3) (.tmp 41) rfl g 22 vp v5 rfl rfl (hS3.2.1.below hb5 hS3.2.2.2.2.2.2.1) ds_size (own_cell ho5).1 (own_cell ho5).2 ?_)
        intro w6 hk6 ho6
        refine wpAny_done (by kernel_rfl) ?_ _
        go_frame
        have hfin := hS3.push ho5 hb5 hk6 ho6
        have HF := Lib.hid hfin
        clear hfin hS hD hS3 hb3 ho5 hb5 hk6 ho6 HS
        go_wp2
        go_end0
        exact ⟨rfl, v5, by rw [HX.out, HDD.out, ← List.append_assoc, HPP.out]; exact HF.out⟩
      · have hhi : hf l.length < m := by omega
        have c1 := fun (v' : Value) (w' : World) => ih (l.drop (hf l.length)) (m - hf l.length) false (dA A l.length (hf l.length)) (l.length - hf l.length) v' path w' (by omega) (by omega) (by omega) (by omega) (by omega) (by omega) (hr.drop _)
        have c2 := fun (w' : World) (hg' : Glob w') (hr' : RdD w' A (l.take (hf l.length))) => root_any (hf l.length) (l.take (hf l.length)) A (hf l.length) w' (by omega) (by omega) (by omega) hg' hr'
        have hx := consD_hi mark h2 hml hhi
        rw [e2] at c1
        rw [e1] at c2
        have hlen := consD_len (l.drop (hf l.length)) (m - hf l.length) false (by omega) (by omega)
        rw [e2] at hlen
        have HL := Lib.hid (show (path ++ consD (l.drop (hf l.length)) (m - hf l.length) false).length ≤ 2 ^ 39 from by rw [List.length_append]; omega)
        have hsub : ((m : Int) - (hf l.length : Int)) = ((m - hf l.length : Nat) : Int) := by omega
        have HSUB := Lib.hid hsub
        clear hsub
        have HC1 := Lib.hid c1
        have HC2 := Lib.hid c2
        have HX := Lib.hid hx
        clear ih hr hS c1 c2 hx hlen hpos e1 e2 hp
        have dlo : decide ((m : Int) ≤ (hf l.length : Int)) = false := decide_eq_false (by omega)
        have dlo' : decide (m ≤ hf l.length) = false := decide_eq_false (by omega)
        unfold consF
        go_enter Tryd.func34, Tryd.ntmps34
        go_wp2_with fail
        refine (HP.out _).mono ?_
        rintro e w1 ⟨rfl, qd, rfl⟩
        have HS1 := Lib.hid (HS0.out.drewN qd)
        go_wp2_with (refine wpList_load_var rfl 67 (.tmp 4) rfl q _ (consF g q) rfl HS1.out.2.2.1 fc_under ?_; unfold consF)
        rw [HSUB.out]
        refine (HC1.out _ _ HS1.out).mono ?_
        rintro e wr ⟨rfl, vp, hSr⟩
        have HS := Lib.hid hSr
        clear hSr HS1 HS0 HC1
        obtain ⟨path', hpp⟩ : ∃ p, path ++ consD (l.drop (hf l.length)) (m - hf l.length) false = p := ⟨_, rfl⟩
        rw [hpp] at HS HL
        have HPP := Lib.hid hpp
        clear hpp
        go_wp2_with fail
        refine wp_region_any (by kernel_rfl) ?_
        have hS := HS.out.drew
        have hD := (Below.refl wr.heap.size wr).drew
        change wpAny _ _ _ _ _ _ _ wr.drew
        generalize wr.drew = w2 at hS hD ⊢
        refine any_take (i := 1) (some 49) rfl rfl rfl (by kernel_rfl) (by kernel_rfl) (by kernel_rfl) (.slice A (hf l.length) (hf l.length)) (fun _ _ _ h => h) (fun W => exec_move (.tmp 8) rfl _ rfl) ?_
        go_frame
        refine any_beside (i := 0) (k := 2) (m := 3) (S := HeldP w0 g q 67 (consF g q) vp path') 48 50 51 (by simp) (by simp) (by decide) (by decide) rfl rfl rfl rfl rfl rfl rfl rfl rfl (by kernel_rfl) (by kernel_rfl) (by kernel_rfl) (by kernel_rfl) (by kernel_rfl) 22 (.tmp 3) rfl (.pointer (some ⟨g, 0, none⟩)) vp rfl (fun _ => rfl) (fun _ _ => rfl) (fun W hW => hW.var) hS rfl Tryd.func15 (by kernel_rfl) (by kernel_rfl) #[.slice A (hf l.length) (hf l.length)] rfl rfl (HC2.out w2 (HG.out.next hS.1) (HR1.out.below hS.1)) ?_
        rintro e w3 ⟨rfl, hb3⟩
        obtain ⟨d, hd⟩ : ∃ d, rootD (l.take (hf l.length)) = d := ⟨_, rfl⟩
        rw [hd]
        have HDD := Lib.hid hd
        clear hd
        have hS3 := hS.next hb3
        refine ⟨_, .slice (some ⟨w3.heap.size, 0, none⟩) 1 1, w3.alloc (.cells (dc d).toArray 31), rfl, hS3, hS3.alloc _, exec_buildD1 (.tmp 50) rfl d rfl, exec_buildD1 (.tmp 50) rfl d rfl, ?_⟩
        go_frame
        refine any_one (i := 4) (by kernel_rfl) (op_pushD (some 52) rfl rfl rfl (.tmp 48) (.tmp 51) rfl (w0.heap.size + 2) vp path' rfl hS3.2.2.2.1 d hS3.big (by have := HL.out; omega) rfl ?_)
        intro v5 w5 ho5 hb5
        go_frame
        refine any_one (i := 5) (by kernel_rfl) (op_store_var rfl rfl rfl 22 (.tmp 3) (.tmp 52) rfl g 22 vp v5 rfl rfl (hS3.2.1.below hb5 hS3.2.2.2.2.2.2.1) ds_size (own_cell ho5).1 (own_cell ho5).2 ?_)
        intro w6 hk6 ho6
        refine wpAny_done (by kernel_rfl) ?_ _
        go_frame
        have hfin := hS3.push ho5 hb5 hk6 ho6
        have HF := Lib.hid hfin
        clear hfin hS hD hS3 hb3 ho5 hb5 hk6 ho6 HS
        go_wp2
        go_end0
        exact ⟨rfl, v5, by rw [HX.out, HDD.out, ← List.append_assoc, HPP.out]; exact HF.out⟩

set_option maxRecDepth 100000 in
set_option maxHeartbeats 1000000 in
theorem cons_bad (l : List Dg) (A : Option Addr) (c : Nat) (m : Int) (w : World) (h : m < 0 ∨ (l.length : Int) < m) :
    Calls Tryd.prog 11 #[.slice A l.length c, .int .i64 m] w fun e w' => e = .returned (.tuple #[.slice none 0 0, .int .i64 1]) ∧ w' = w := by
  by_cases h0 : m < 0
  · have d0 : decide (m < 0) = true := decide_eq_true (by omega)
    clear h
    go_enter Tryd.func11, Tryd.ntmps11
    go_wp2
    go_ret2
    exact ⟨rfl, rfl⟩
  · have d0 : decide (m < 0) = false := decide_eq_false (by omega)
    have h2 : (l.length : Int) < m := by omega
    have d1 : decide ((l.length : Int) < m) = true := decide_eq_true (by omega)
    clear h
    go_enter Tryd.func11, Tryd.ntmps11
    go_wp2
    go_ret2
    exact ⟨rfl, rfl⟩

set_option maxRecDepth 100000 in
set_option maxHeartbeats 1000000 in
theorem cons_zero (l : List Dg) (A : Option Addr) (c : Nat) (w : World) :
    Calls Tryd.prog 11 #[.slice A l.length c, .int .i64 0] w fun e w' => e = .returned (.tuple #[.slice none 0 0, .int .i64 0]) ∧ w' = w := by
  have d1 : decide ((l.length : Int) < 0) = false := decide_eq_false (by omega)
  go_enter Tryd.func11, Tryd.ntmps11
  go_wp2
  go_ret2
  exact ⟨rfl, rfl⟩

set_option maxRecDepth 100000 in
set_option maxHeartbeats 1000000 in
theorem cons_any (l : List Dg) (A : Option Addr) (c : Nat) (m : Nat) (w : World) (hg : Glob w) (hr : RdD w A l) (hc : l.length ≤ c) (hn : l.length ≤ 2 ^ 38) (h1 : 1 ≤ m) (hm : m ≤ l.length) :
    Calls Tryd.prog 11 #[.slice A l.length c, .int .i64 m] w fun e w' => ∃ v, e = .returned (.tuple #[v, .int .i64 0]) ∧ NewD w' (consD l m true) v ∧ Below w.heap.size w w' := by
  have hmf : ∀ (fn : Fn) (first cap : Array Value) (w : World), (Instr.makeFunc fn first cap).run Tryd.prog w = .ok (.func fn first cap) w := fun _ _ _ _ => rfl
  have d0 : decide ((m : Int) < 0) = false := decide_eq_false (by omega)
  have d1 : decide ((l.length : Int) < (m : Int)) = false := decide_eq_false (by omega)
  have d2 : decide (l.length < m) = false := decide_eq_false (by omega)
  have d3 : ((m : Int) == 0) = false := by rw [beq_eq_false_iff_ne]; omega
  have d4 : (m == 0) = false := by rw [beq_eq_false_iff_ne]; omega
  have HC := Lib.hid (fun w' => cons1_any w hg w.heap.size (w.heap.size + 1) l.length l m true A c (.slice none 0 0) [] w' (Nat.le_refl _) h1 hm hc (by omega) (by simp; omega) hr)
  have HK := Lib.hid (blk_fn w 67)
  clear hg hr
  go_enter Tryd.func11, Tryd.ntmps11
  go_wp2_with (first | (refine wpList_store_var rfl 67 (.tmp 7) (.tmp 18) rfl (w.heap.size + 1) _ .nilFunc (consF w.heap.size (w.heap.size + 1)) rfl rfl HK.out fc_size rfl rfl ?_; intro w3 HK3 ho3; have HS3 := Lib.hid (HeldP.begin HK3.out ho3); clear ho3 HK HK3) | (refine wpList_load_var rfl 67 (.tmp 7) rfl (w.heap.size + 1) _ (consF w.heap.size (w.heap.size + 1)) rfl HS3.out.2.2.1 fc_under ?_; unfold consF))
  refine (HC.out _ HS3.out).mono ?_
  rintro e w4 ⟨rfl, v4, hS4⟩
  have HS4 := Lib.hid hS4
  clear hS4 HS3 HC
  go_wp2_with (refine wpList_load_var rfl 22 (.tmp 6) rfl w.heap.size _ v4 rfl HS4.out.2.1 ds_flat ?_)
  go_ret2
  exact ⟨v4, rfl, newD_of_row (by have := HS4.out.2.2.2.1; rwa [List.nil_append] at this), HS4.out.1⟩
end Go.Proofs.YtfbemmeonkceiaaDoor
