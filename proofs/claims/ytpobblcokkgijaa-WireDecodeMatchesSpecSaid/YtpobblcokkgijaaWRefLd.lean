/- The contract of the reference's GetDigests. -/
import Derived.Test.YtpobblcokkgijaaWRefLs
namespace Go.Proofs.Ytpobblcokkgijaa
open Go.RowKit Wm

theorem dig_step {C : Array Value} {x : List UInt8} {j : Nat} {y : UInt8} (hC : C = (bc (x.take j) ++ List.replicate (16 - j) (Value.int .u8 0)).toArray) (hj : j < 16) (hx : x.length = 16) (hy : x[j]? = some y) :
    C.setIfInBounds j (.int .u8 y.toNat) = (bc (x.take (j + 1)) ++ List.replicate (16 - (j + 1)) (Value.int .u8 0)).toArray := by
  have hjl : j < x.length := by omega
  have hyj : x[j] = y := by rw [List.getElem?_eq_getElem hjl] at hy; exact Option.some.inj hy
  have hlen : (bc (x.take j)).length = j := by rw [bc_len, List.length_take]; omega
  rw [hC, List.setIfInBounds_toArray, show 16 - j = (16 - (j + 1)) + 1 from by omega, List.replicate_succ, List.set_append_right _ _ (by omega), hlen, Nat.sub_self, List.set_cons_zero]
  rw [List.take_succ_eq_append_getElem hjl, bc_app, hyj, List.append_assoc]
  rfl

set_option maxRecDepth 100000 in
set_option maxHeartbeats 2000000 in
theorem rgetDigs_any (A : Option Addr) (c : Nat) (l : List UInt8) (w : World) (hl : l.length ≤ 1099511627776) (hr : Rd w A (bc l)) :
    Calls Try.prog 35 #[.slice A l.length c] w fun e w' => ∃ v, e = .returned (.tuple #[v, .int .i64 ((getL 16 gd l).2.1 : Nat), .int .i64 ((getL 16 gd l).2.2 : Nat)]) ∧
      w'.ownsRow w.heap.size 57 16 v (getL 16 gd l).1.length (dcs (getL 16 gd l).1) ∧ (∀ d ∈ (getL 16 gd l).1, d.length = 16) ∧ Below w.heap.size w w' := by
  obtain ⟨n, u, e, hg⟩ : ∃ n u e, gl 16 l = (n, u, e) := ⟨_, _, _, rfl⟩
  have hcs := gl_cases 16 l
  rw [hg] at hcs
  have hst := withL_start gd 16 l
  have hbad : (gl 16 l).2.2 ≠ 0 → getL 16 gd l = ([], 0, (gl 16 l).2.2) := fun h => by unfold getL; rw [if_pos h]
  rw [hg] at hst hbad
  have HC := Lib.hid (rlength_at hg A c w (by omega) (by omega) (by omega) hr)
  obtain ⟨i0, hi, hz0, hz1, hz2⟩ := info_parts dig_info
  clear hg
  rcases hcs with h | h | h
  · obtain ⟨h0, h1, h2, _, _⟩ := h
    have h0' : e = 0 := h0
    subst h0'
    have h1' : 1 ≤ u := h1
    have h2' : u + 16 * n ≤ l.length := h2
    have HR := Lib.hid (hst rfl)
    have HA := Lib.hid hr
    have HI := Lib.hid hi
    have HZ := Lib.hid hz0
    clear h0 h1 h2 hst hbad hr hi hz0
    go_enter Try.func35, Try.ntmps35
    go_wp2_with (go_at_call 47; refine HC.out.mono ?_; rintro e w' ⟨rfl, rfl⟩)
    go_loopw [8, 6, 9] (fun v at_ i wr => ∃ (k d : Nat) (ys : List (List UInt8)), i = .int .i64 k ∧ k ≤ n ∧ at_ = .int .i64 d ∧ d + 16 * (n - k) ≤ l.length ∧ ys.length = k ∧ Hid (∀ y ∈ ys, y.length = 16) ∧
        Hid (getL 16 gd l = withL ys d (gls gd (n - k) (l.drop d))) ∧ wr.ownsRow w.heap.size 57 16 v ys.length (dcs ys) ∧ w.heap.size ≤ wr.heap.size ∧ Below w.heap.size w wr)
      (fun _ _ i _ => n - (intOf i).toNat)
    case atStart => exact ⟨0, u, [], rfl, by omega, rfl, by omega, rfl, (by intro y hy; simp at hy), by rw [Nat.sub_zero]; exact HR, World.ownsRow_nil _ _ _ _, Nat.le_refl _, Below.refl _ _⟩
    case round =>
      obtain ⟨k, d, ys, rfl, hk, rfl, hd, hyl, HY, HE, ho, hbs, hb⟩ := hrel
      clear HC HR
      have hyn : ys.length ≤ 1099511627776 := by omega
      have HL := Lib.hid hyl
      clear hyl
      by_cases hlt : k < n
      · have hdl : d + 16 ≤ l.length := by omega
        have hxl : ((l.drop d).take 16).length = 16 := by rw [List.length_take, List.length_drop]; omega
        have hnk : n - k = (n - (k + 1)) + 1 := by omega
        have hI := HE.out
        rw [hnk] at hI
        have hsp := withL_step hI (show gd (l.drop d) = ((l.drop d).take 16, 16, 0) from rfl)
        rw [List.drop_drop] at hsp
        have hxj : ∀ j (hj : j < 16), ((l.drop d).take 16)[j]? = l[d + j]? := fun j hj => by rw [List.getElem?_take_of_lt hj, List.getElem?_drop]
        obtain ⟨x, hx⟩ : ∃ x, (l.drop d).take 16 = x := ⟨_, rfl⟩
        rw [hx] at hxl hsp hxj
        have HS := Lib.hid hsp
        have HX := Lib.hid hxl
        have HXJ := Lib.hid hxj
        clear hsp hxl hI hx hnk hxj
        go_wp2
        go_loopw [11] (fun i wi => ∃ (j : Nat) (C : Array Value), i = .int .i64 j ∧ j ≤ 16 ∧ wi = wr.alloc (.cells C 57) ∧ Hid (C = (bc (x.take j) ++ List.replicate (16 - j) (Value.int .u8 0)).toArray)) (fun i _ => 16 - (intOf i).toNat)
        case atStart => exact ⟨0, _, rfl, by omega, rfl, rfl⟩
        case round =>
          obtain ⟨j, C, rfl, hj, rfl, HCC⟩ := hrel
          by_cases hj16 : j < 16
          · have hdj : d + j < l.length := by omega
            obtain ⟨b, off, hA, hcell⟩ := (HA.out.below (hb.trans ((Below.refl w.heap.size wr).alloc hbs (.cells C 57)))).at_ (bc_at hdj)
            have hcj : C[j]? = some (.int .u8 0) := by
              rw [HCC.out, List.getElem?_toArray, List.getElem?_append_right (by rw [bc_len, List.length_take]; omega), bc_len, List.length_take, List.getElem?_replicate, if_pos (by have := HX.out; omega)]
            have hxe : x[j]? = some l[d + j] := by rw [HXJ.out j hj16]; exact List.getElem?_eq_getElem hdj
            have HNX : Hid (C.setIfInBounds j (.int .u8 l[d + j].toNat) = (bc (x.take (j + 1)) ++ List.replicate (16 - (j + 1)) (Value.int .u8 0)).toArray) := by
              show _ = _
              exact dig_step HCC.out hj16 HX.out hxe
            obtain ⟨D, hD⟩ : ∃ D : Nat, l[d + j].toNat = D := ⟨_, rfl⟩
            have hD2 : D < 256 := by have := l[d + j].toNat_lt; omega
            rw [hD] at hcell HNX
            clear hxe hD
            subst hA
            go_wp2
            exact ⟨⟨j + 1, _, by go_num, by omega, rfl, HNX.out⟩, by simp only [intOf]; omega⟩
          · obtain rfl : j = 16 := by omega
            have hCx : C = (bc x).toArray := by rw [HCC.out, List.take_of_length_le (by rw [HX.out]; omega)]; simp
            subst hCx
            clear HCC
            go_wp2_with (first
              | (refine wpList_load_dig rfl (.tmp 10) rfl wr.heap.size 0 rfl x HX.out (rangeAt_new _ _ _) ?_)
              | (refine wpList_build_dig rfl (.tmp 39) rfl x HX.out rfl ?_)
              | (at_builtin; refine wpList_push16 rfl (.tmp 38) (.tmp 40) rfl w.heap.size _ _ ys rfl (World.ownsRow.alloc ho _) x HX.out ?s1 hyn rfl ?_; rotate_left 1; intro v3 w3 ho3 hb3))
            go_roundw
            case rel =>
              have hb4 := ((Below.refl w.heap.size wr).alloc hbs (.cells (bc x).toArray 57)).trans hb3
              refine ⟨k + 1, d + 16, ys ++ [x], by go_num, by omega, by go_num, by omega, by rw [List.length_append, HL.out]; rfl, ?_, HS.out, ?_, Nat.le_trans hbs hb4.size, hb.trans hb4⟩
              · intro y hy
                rcases List.mem_append.1 hy with h1 | h1
                · exact HY.out y h1
                · rw [List.mem_singleton.1 h1]; exact HX.out
              · rw [List.length_append]
                exact ho3
            case measure => simp [intOf]; omega
            case s1 => simp; omega
      · have hkn : n - k = 0 := by omega
        have hI := HE.out
        rw [hkn] at hI
        have hfin : getL 16 gd l = (ys, d, 0) := by rw [hI]; simp [withL, gls]
        have HF := Lib.hid hfin
        clear hI hfin hkn
        go_wp2
        go_ret3
        exact ⟨_, by rw [HF.out]; rfl, by rw [HF.out]; exact ho, by rw [HF.out]; exact HY.out, hb⟩
  all_goals
    injection h with a b; injection b with b d
    subst a; subst b; subst d
    have HR := Lib.hid (hbad (by decide))
    clear hst hbad hr hi hz0 hz1 hz2
    go_enter Try.func35, Try.ntmps35
    go_wp2_with (go_at_call 47; refine HC.out.mono ?_; rintro e w' ⟨rfl, rfl⟩)
    go_ret3
    exact ⟨_, by rw [HR.out]; rfl, by rw [HR.out]; exact World.ownsRow_nil _ _ _ _, (by rw [HR.out]; intro y hy; simp at hy), Below.refl _ _⟩
end Go.Proofs.Ytpobblcokkgijaa
