/-
  Contract: RuleText, in the program.
-/
import Derived.Test.YtdgkgnlilcbggaaDoorPB1
import Derived.Test.YtdgkgnlilcbggaaDoorE11
namespace Go.Proofs.YtdgkgnlilcbggaaDoor
open Go.RowKit
set_option linter.unusedVariables false

def vdf (xs : List Int) : Nat → Int := fun j => xs.getD (j * 2 + 1) 0
theorem parB_val {k v : Int} (h : parB k v = true) : (k = 0 → 0 ≤ v ∧ v ≤ 1000000) ∧ (k = 1 → 0 ≤ v ∧ v ≤ 4) := by
  unfold parB at h
  refine ⟨fun e => ?_, fun e => ?_⟩
  · rw [if_pos e] at h
    exact of_decide_eq_true h
  · rw [if_neg (by omega), if_pos e] at h
    exact of_decide_eq_true h
/-- The text of a rule. -/
noncomputable def rtS (n : Nat) (xs : List Int) : ByteArray := if h : ruleB n xs = true then tx (kdf xs) (vdf xs) (Classical.choose (rule_tree h)) (n - 1) else ⟨#[]⟩

set_option maxHeartbeats 4000000 in
set_option maxRecDepth 100000 in
theorem c_RuleText (n : Nat) (xs : List Int) (v : Value) (w : World) (hl : n ≤ 1048576) (h : SeenC w v n xs) (hrt : RT w) :
    Calls Tryd.prog 7 #[v] w fun e w' => e = .returned (.tuple #[.string (rtS n xs), .bool (ruleB n xs)]) ∧ Below w.heap.size w w' := by
  have C1 := Lib.hid (c_IsRule n xs v w hl h.1 h.2)
  cases hr : ruleB n xs
  · rw [hr] at C1
    rw [show rtS n xs = ⟨#[]⟩ by unfold rtS; rw [dif_neg (by rw [hr]; decide)]]
    obtain ⟨A, c, rfl, _, _, _⟩ := h.1
    clear hr h hrt
    go_enter Tryd.func7, Tryd.ntmps7
    go_wp2_with fail
    refine C1.out.mono ?_
    rintro e w1 ⟨rfl, hb1⟩
    have HB1 := Lib.hid hb1
    clear hb1
    go_wp2
    go_ret2
    exact ⟨rfl, HB1.out⟩
  · rw [hr] at C1
    obtain ⟨hA, hs, n1, n2, hp, f, hd⟩ := Classical.choose_spec (rule_tree hr)
    rw [show rtS n xs = tx (kdf xs) (vdf xs) (Classical.choose (rule_tree hr)) (n - 1) by unfold rtS; rw [dif_pos hr]]
    generalize Classical.choose (rule_tree hr) = t at *
    obtain ⟨b, off, c, rfl, hb, hcell⟩ := seen_cells h.1 (by omega)
    have hnc := h.2 _ _ _ rfl
    have hv : ∀ j : Nat, j < t.size → 0 ≤ kdf xs (0 + j) ∧ kdf xs (0 + j) ≤ 8 := by rw [hs]; intro j hj; rw [Nat.zero_add]; exact parB_kind (hp j hj)
    have hq : ∀ j : Nat, j < t.size → (kdf xs (0 + j) = 0 → 0 ≤ vdf xs (0 + j) ∧ vdf xs (0 + j) ≤ 1000000) ∧ (kdf xs (0 + j) = 1 → 0 ≤ vdf xs (0 + j) ∧ vdf xs (0 + j) ≤ 4) := by rw [hs]; intro j hj; rw [Nat.zero_add]; exact parB_val (hp j hj)
    have hsz := tx_size (kdf xs) (vdf xs) t.size t (n - 1) 0 (Nat.le_refl _) hA (by omega) (fun j hj h0 => (hq j hj).1 h0)
    obtain ⟨p, rfl⟩ : ∃ p, n = p + 1 := ⟨n - 1, by omega⟩
    have CB : Hid (∀ u, Below w.heap.size w u → Calls Tryd.prog 13 #[.slice (some ⟨b, off, none⟩) (p + 1) c, .int .i64 0] u fun e w' => e = .returned (.string (tx (kdf xs) (vdf xs) t (p + 1 - 1))) ∧ Below u.heap.size u w') := fun u hu => by
      have hc := c_bareText (kdf xs) (vdf xs) b (p + 1) t off 0 c (p + 1 - 1) u (by omega) hA (by omega) (by omega) (by omega) (Nat.lt_of_lt_of_le hb hu.size) (hrt.below hu) hv hq (by rw [hs]; intro j hj; rw [Nat.zero_add]; exact hcell u hu j hj)
      rw [hs] at hc
      obtain ⟨k0, k8⟩ := hv p (by omega)
      rw [Nat.zero_add] at k0 k8
      have := c_textAt (tx (kdf xs) (vdf xs) t (p + 1 - 1)) b off p c (kdf xs p) 0 u (by omega) (Nat.lt_of_lt_of_le hb hu.size) k0 k8 (by omega) (hcell u hu p (by omega)).1 hc
      rw [decide_eq_false (bindK_nonneg _)] at this
      exact this
    clear hA hs n1 n2 hp f hd hcell hnc hv hq hsz hr h hrt
    generalize tx (kdf xs) (vdf xs) t (p + 1 - 1) = S at *
    go_enter Tryd.func7, Tryd.ntmps7
    go_wp2_with fail
    refine C1.out.mono ?_
    rintro e w1 ⟨rfl, hb1⟩
    have HB1 := Lib.hid hb1
    clear hb1
    go_wp2_with fail
    refine (CB.out w1 HB1.out).mono ?_
    rintro e w2 ⟨rfl, hb2⟩
    have HB2 : Hid (Below w.heap.size w w2) := HB1.out.trans (hb2.mono HB1.out.size)
    clear hb2
    go_wp2
    go_ret2
    exact ⟨rfl, HB2.out⟩
end Go.Proofs.YtdgkgnlilcbggaaDoor
