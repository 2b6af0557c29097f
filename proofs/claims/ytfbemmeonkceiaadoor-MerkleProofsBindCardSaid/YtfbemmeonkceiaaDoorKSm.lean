/- The examples of hash trees with three elements. -/
import Derived.Test.YtfbemmeonkceiaaDoorK24
namespace Go.Proofs.YtfbemmeonkceiaaDoor
open Go.RowKit Hm Wm

theorem hf3 : hf 3 = 2 := hf_only (e := 1) (by decide) (by decide)
theorem hf2 : hf 2 = 1 := hf_only (e := 0) (by decide) (by decide)
section
variable (a b c : Dg)
theorem s_root2 : rootD [a, b] = nodeD a b := by
  have e := rootD_two (l := [a, b]) (by simp)
  have h : hf [a, b].length = 1 := hf2
  rw [h] at e
  rw [e]; show nodeD (rootD [a]) (rootD [b]) = _
  rw [rootD_one, rootD_one]
theorem s_root3 : rootD [a, b, c] = nodeD (nodeD a b) c := by
  have e := rootD_two (l := [a, b, c]) (by simp)
  have h : hf [a, b, c].length = 2 := hf3
  rw [h] at e
  rw [e]; show nodeD (rootD [a, b]) (rootD [c]) = _
  rw [rootD_one, s_root2]
theorem s_incl0 : inclD [a, b, c] 0 = [b, c] := by
  have h : hf [a, b, c].length = 2 := hf3
  have e := inclD_lo (l := [a, b, c]) (i := 0) (by simp) (by rw [h]; omega)
  rw [h] at e
  rw [e]; show inclD [a, b] 0 ++ [rootD [c]] = _
  have h2 : hf [a, b].length = 1 := hf2
  have e2 := inclD_lo (l := [a, b]) (i := 0) (by simp) (by rw [h2]; omega)
  rw [h2] at e2
  rw [e2, rootD_one]; show (inclD [a] 0 ++ [rootD [b]]) ++ [c] = _
  rw [rootD_one, inclD_one (l := [a]) 0 (by simp)]; rfl
theorem s_incl2 : inclD [a, b, c] 2 = [nodeD a b] := by
  have h : hf [a, b, c].length = 2 := hf3
  have e := inclD_hi (l := [a, b, c]) (i := 2) (by simp) (by rw [h]; omega)
  rw [h] at e
  rw [e]; show inclD [c] 0 ++ [rootD [a, b]] = _
  rw [s_root2, inclD_one (l := [c]) 0 (by simp)]; rfl
theorem s_cons1 : consD [a, b, c] 1 true = [b, c] := by
  have h : hf [a, b, c].length = 2 := hf3
  have e := consD_lo (l := [a, b, c]) (m := 1) true (by simp) (by simp) (by rw [h]; omega)
  rw [h] at e
  rw [e]; show consD [a, b] 1 true ++ [rootD [c]] = _
  have h2 : hf [a, b].length = 1 := hf2
  have e2 := consD_lo (l := [a, b]) (m := 1) true (by simp) (by simp) (by rw [h2]; omega)
  rw [h2] at e2
  rw [e2, rootD_one]; show (consD [a] [a].length true ++ [rootD [b]]) ++ [c] = _
  rw [rootD_one, consD_all]; rfl
theorem s_cons2 : consD [a, b, c] 2 true = [c] := by
  have h : hf [a, b, c].length = 2 := hf3
  have e := consD_lo (l := [a, b, c]) (m := 2) true (by simp) (by simp) (by rw [h]; omega)
  rw [h] at e
  rw [e]; show consD [a, b] [a, b].length true ++ [rootD [c]] = _
  rw [rootD_one, consD_all]; rfl
theorem s_many : manyD [a, b, c] 0 [0, 2] = [b] := by
  have h : hf [a, b, c].length = 2 := hf3
  have e := manyD_two (l := [a, b, c]) 0 (ps := [0, 2]) (by simp) (by simp)
  rw [h] at e
  rw [e]; show manyD [a, b] 0 [0] ++ manyD [c] 2 [2] = _
  have h2 : hf [a, b].length = 1 := hf2
  have e2 := manyD_two (l := [a, b]) 0 (ps := [0]) (by simp) (by simp)
  rw [h2] at e2
  rw [e2]; show (manyD [a] 0 [0] ++ manyD [b] 1 []) ++ manyD [c] 2 [2] = _
  rw [manyD_one (l := [a]) 0 (by simp) (by simp), manyD_none (l := [b]) 1 (by simp), manyD_one (l := [c]) 2 (by simp) (by simp), rootD_one]; rfl
theorem s_one : oneD a 0 3 0 [b, c] = (nodeD (nodeD a b) c, 2) := by
  rw [oneD_lo a 0 [b, c] (by decide) (by rw [hf3]; decide), hf3, oneD_lo a 0 [b, c] (by decide) (by rw [hf2]; decide), hf2, oneD_one a 0 [b, c] (by decide)]; rfl
theorem s_one' (d : Dg) : (oneD a 0 3 0 [d]).2 = 2 := by
  rw [oneD_lo a 0 [d] (by decide) (by rw [hf3]; decide), hf3, oneD_lo a 0 [d] (by decide) (by rw [hf2]; decide), hf2, oneD_one a 0 [d] (by decide)]
theorem s_old : oldD 1 3 true a 0 [b, c] = (a, nodeD (nodeD a b) c, 2) := by
  rw [oldD_lo true a 0 [b, c] (by decide) (by decide) (by rw [hf3]; decide), hf3, oldD_lo true a 0 [b, c] (by decide) (by decide) (by rw [hf2]; decide), hf2, oldD_all]; rfl
theorem s_wlk : wlkD 0 3 [0, 2] [a, c] 0 [b] = (nodeD (nodeD a b) c, 1) := by
  have e := wlkD_two 0 (n := 3) (ps := [0, 2]) [a, c] 0 [b] (by decide) (by simp)
  rw [hf3] at e
  have e1 : wlkD 0 2 [0] [a] 0 [b] = (nodeD a b, 1) := by
    have e2 := wlkD_two 0 (n := 2) (ps := [0]) [a] 0 [b] (by decide) (by simp)
    rw [hf2] at e2
    have e3 : wlkD 0 1 [0] [a] 0 [b] = (a, 0) := wlkD_one 0 [a] 0 [b] (by simp)
    have e4 : wlkD 1 1 [] [] 0 [b] = (b, 1) := wlkD_none 1 [] 0 [b] (by decide)
    rw [e2]
    show (nodeD (wlkD 0 1 [0] [a] 0 [b]).1 (wlkD 1 1 [] [] (wlkD 0 1 [0] [a] 0 [b]).2 [b]).1, (wlkD 1 1 [] [] (wlkD 0 1 [0] [a] 0 [b]).2 [b]).2) = _
    rw [e3]
    show (nodeD a (wlkD 1 1 [] [] 0 [b]).1, (wlkD 1 1 [] [] 0 [b]).2) = _
    rw [e4]
  have e5 : wlkD 2 1 [2] [c] 1 [b] = (c, 1) := wlkD_one 2 [c] 1 [b] (by simp)
  rw [e]
  show (nodeD (wlkD 0 2 [0] [a] 0 [b]).1 (wlkD 2 1 [2] [c] (wlkD 0 2 [0] [a] 0 [b]).2 [b]).1, (wlkD 2 1 [2] [c] (wlkD 0 2 [0] [a] 0 [b]).2 [b]).2) = _
  rw [e1]
  show (nodeD (nodeD a b) (wlkD 2 1 [2] [c] 1 [b]).1, (wlkD 2 1 [2] [c] 1 [b]).2) = _
  rw [e5]
/-- The tops after k of the three elements. -/
noncomputable def tp (a b c : Dg) : Nat → List Dg
  | 0 => []
  | 1 => [a]
  | 2 => [nodeD a b]
  | _ => [nodeD a b, c]
theorem tp_len {k : Nat} (h : k < 3) : (tp a b c k).length = Go.Lib.popAux 64 k := by
  rcases k with _ | _ | _ | k
  · show 0 = _; decide +kernel
  · show 1 = _; decide +kernel
  · show 1 = _; decide +kernel
  · omega
theorem tp_app {k : Nat} {d : Dg} (h : [a, b, c][k]? = some d) : appD (tp a b c k) k d = tp a b c (k + 1) := by
  rcases k with _ | _ | _ | k
  · have : d = a := by simpa using h.symm
    subst this
    unfold appD; rw [show tO 64 0 = 0 from rfl]; rfl
  · have : d = b := by simpa using h.symm
    subst this
    unfold appD; rw [show tO 64 (0 + 1) = 1 from rfl]; rfl
  · have : d = c := by simpa using h.symm
    subst this
    unfold appD; rw [show tO 64 (0 + 1 + 1) = 0 from rfl]; rfl
  · simp at h
end
end Go.Proofs.YtfbemmeonkceiaaDoor
