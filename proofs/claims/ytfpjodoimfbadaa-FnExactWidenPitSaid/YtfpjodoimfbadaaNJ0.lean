/-
  What closures have: plain facts on what is reached (ahead of any contract).
-/
import Derived.Test.YtfpjodoimfbadaaN9
namespace Go.Proofs.Ytfpjodoimfbadaa
set_option linter.unusedVariables false

/-- Every number of a list is below N. -/
def InX (N : Nat) (l : List Int) : Prop := ∀ x, x ∈ l → 0 ≤ x ∧ x < (N : Int)
theorem arc_inX {xss : List (List Int)} (h : arcB xss = true) {i : Nat} (hi : i < xss.length) : ∀ x, x ∈ xss.getD i [] → 0 ≤ x ∧ x < (xss.length : Int) := fun x hx => by
  have := arc_mem h hi hx
  omega
/-- x is marked, or in a list of one that is reached. -/
def Rch (xss : List (List Int)) (p : Int → Bool) (x : Int) : Prop :=
  ∀ S : Int → Prop, (∀ y, p y = true → S y) → (∀ (c : Nat) (y : Int), c < xss.length → S (c : Int) → y ∈ xss.getD c [] → S y) → S x
theorem Rch.base {xss : List (List Int)} {p : Int → Bool} {x : Int} (h : p x = true) : Rch xss p x := fun S h1 _ => h1 x h
theorem Rch.step {xss : List (List Int)} {p : Int → Bool} {c : Nat} {x : Int} (h : Rch xss p (c : Int)) (hc : c < xss.length) (hx : x ∈ xss.getD c []) : Rch xss p x := fun S h1 h2 => h2 c x hc (h S h1 h2) hx
theorem Rch.inv {xss : List (List Int)} {p : Int → Bool} {x : Int} (h : Rch xss p x) : p x = true ∨ ∃ c : Nat, c < xss.length ∧ Rch xss p (c : Int) ∧ x ∈ xss.getD c [] := by
  refine h (fun y => p y = true ∨ ∃ c : Nat, c < xss.length ∧ Rch xss p (c : Int) ∧ y ∈ xss.getD c []) (fun y hy => .inl hy) fun c y hc hs hy => .inr ⟨c, hc, ?_, hy⟩
  rcases hs with h1 | ⟨d, hd, h1, h2⟩
  · exact Rch.base h1
  · exact Rch.step h1 hd h2
theorem dn_sound {xss : List (List Int)} {p : Int → Bool} (h0 : 0 < xss.length) : ∀ (t : Nat) (x : Int), dnS xss p t x = true → Rch xss p x
  | 0, x, h => Rch.base h
  | t + 1, x, h => by
    unfold dnS at h
    split at h
    · rename_i hj
      unfold addL at h
      rw [Bool.or_eq_true] at h
      rcases h with h | h
      · exact Rch.step (dn_sound h0 t _ hj) (by omega) (by simpa using h)
      · exact dn_sound h0 t x h
    · exact dn_sound h0 t x h
theorem dn_more {xss : List (List Int)} {p : Int → Bool} {t : Nat} {x : Int} (h : dnS xss p t x = true) : dnS xss p (t + 1) x = true := by
  unfold dnS
  split
  · unfold addL; rw [h, Bool.or_true]
  · exact h
theorem dn_le {xss : List (List Int)} {p : Int → Bool} {t : Nat} {x : Int} (h : dnS xss p t x = true) : ∀ {m : Nat}, t ≤ m → dnS xss p m x = true
  | 0, hm => by obtain rfl : t = 0 := by omega
                exact h
  | m + 1, hm => by
    by_cases e : t = m + 1
    · rw [← e]; exact h
    · exact dn_more (dn_le h (by omega))
theorem dnS_succ (xss : List (List Int)) (p : Int → Bool) (t : Nat) : dnS xss p (t + 1) = if dnS xss p t ((xss.length - 1 - t : Nat) : Int) = true then addL (xss.getD (xss.length - 1 - t) []) (dnS xss p t) else dnS xss p t := rfl
theorem dn_stable {xss : List (List Int)} {p : Int → Bool} (ha : arcB xss = true) {c : Nat} (hc : c < xss.length) : ∀ {t : Nat}, xss.length - 1 - c ≤ t → t ≤ xss.length → dnS xss p t (c : Int) = dnS xss p (xss.length - 1 - c) (c : Int)
  | 0, h1, h2 => by rw [show xss.length - 1 - c = 0 by omega]
  | t + 1, h1, h2 => by
    by_cases e : xss.length - 1 - c = t + 1
    · rw [e]
    · rw [← dn_stable ha hc (t := t) (by omega) (by omega)]
      rw [dnS_succ]
      split
      · unfold addL
        have hn : (xss.getD (xss.length - 1 - t) []).contains (c : Int) = false := by
          rw [Bool.eq_false_iff]
          intro hm
          have := (arc_mem ha (i := xss.length - 1 - t) (by omega) (by simpa using hm)).2
          omega
        rw [hn, Bool.false_or]
      · rfl
theorem dn_closed {xss : List (List Int)} {p : Int → Bool} (ha : arcB xss = true) {c : Nat} {y : Int} (hc : c < xss.length) (h : dnS xss p xss.length (c : Int) = true) (hy : y ∈ xss.getD c []) : dnS xss p xss.length y = true := by
  rw [dn_stable ha hc (by omega) (Nat.le_refl _)] at h
  refine dn_le (t := xss.length - 1 - c + 1) ?_ (by omega)
  have e : xss.length - 1 - (xss.length - 1 - c) = c := by omega
  rw [dnS_succ, e, if_pos h]
  unfold addL
  rw [show (xss.getD c []).contains y = true by simpa using hy, Bool.true_or]
theorem dn_iff {xss : List (List Int)} {p : Int → Bool} (ha : arcB xss = true) {x : Int} : dnS xss p xss.length x = true ↔ Rch xss p x := by
  have hN := arc_len ha
  refine ⟨dn_sound (by omega) _ _, fun h => h (fun y => dnS xss p xss.length y = true) (fun y hy => dn_le (t := 0) hy (Nat.zero_le _)) fun c y hc hs hy => dn_closed ha hc hs hy⟩
theorem Rch.range {xss : List (List Int)} {l : List Int} {x : Int} (ha : arcB xss = true) (hl : InX xss.length l) (h : Rch xss (inL l) x) : 0 ≤ x ∧ x < (xss.length : Int) :=
  h (fun y => 0 ≤ y ∧ y < (xss.length : Int)) (fun y hy => hl y (inL_iff.1 hy)) fun c y hc _ hy => arc_inX ha hc y hy
theorem mem_clL {xss : List (List Int)} {l : List Int} {x : Int} (ha : arcB xss = true) (hl : InX xss.length l) : x ∈ clL xss l ↔ Rch xss (inL l) x := by
  unfold clL
  rw [mem_sel]
  unfold inr
  rw [Bool.and_eq_true, decide_eq_true_eq, dn_iff ha]
  exact ⟨fun h => h.2, fun h => ⟨h.range ha hl, h⟩⟩
end Go.Proofs.Ytfpjodoimfbadaa
