/-
  What closures have: plain facts on what is reached.
-/
import Derived.Test.YtffknfgejoejoaaND
namespace Go.Proofs.Ytffknfgejoejoaa
set_option linter.unusedVariables false

/-- x is marked, or in a list of one that is reached. -/
def Rch (xss : List (List Int)) (p : Int → Bool) (x : Int) : Prop :=
  ∀ S : Int → Prop, (∀ y, p y = true → S y) → (∀ (c : Nat) (y : Int), c < xss.length → S (c : Int) → y ∈ xss.getD c [] → S y) → S x
theorem Rch.base {xss : List (List Int)} {p : Int → Bool} {x : Int} (h : p x = true) : Rch xss p x := fun S h1 _ => h1 x h
theorem Rch.step {xss : List (List Int)} {p : Int → Bool} {c : Nat} {x : Int} (h : Rch xss p (c : Int)) (hc : c < xss.length) (hx : x ∈ xss.getD c []) : Rch xss p x := fun S h1 h2 => h2 c x hc (h S h1 h2) hx
theorem Rch.inv {xss : List (List Int)} {p : Int → Bool} {x : Int} (h : Rch xss p x) : p x = true ∨ ∃ c : Nat, c < xss.length ∧ Rch xss p (c : Int) ∧ x ∈ xss.getD c [] := by
  refine h (fun y => p y = true ∨ ∃ c : Nat, c < xss.length ∧ Rch xss p (c : Int) ∧ y ∈ xss.getD c []) (fun y hy => .inl hy) fun c y hc hs hy => .inr ⟨c, hc, ?_, hy⟩
  rcases hs with h1 | ⟨d, hd, h1, h2⟩
  · exact Rch.base h1
  · exact Rch.step h1 hd h2
theorem dn_sound {xss : List (List Int)} {p : Int → Bool} (h0 : 0 < xss.length) : ∀ (t : Nat) (x : Int), dnS xss p t x = true → Rch xss p x
  | 0, x, h => Rch.base h
  | t + 1, x, h => by
    unfold dnS at h
    split at h
    · rename_i hj
      unfold addL at h
      rw [Bool.or_eq_true] at h
      rcases h with h | h
      · exact Rch.step (dn_sound h0 t _ hj) (by omega) (by simpa using h)
      · exact dn_sound h0 t x h
    · exact dn_sound h0 t x h
theorem dn_more {xss : List (List Int)} {p : Int → Bool} {t : Nat} {x : Int} (h : dnS xss p t x = true) : dnS xss p (t + 1) x = true := by
  unfold dnS
  split
  · unfold addL; rw [h, Bool.or_true]
  · exact h
theorem dn_le {xss : List (List Int)} {p : Int → Bool} {t : Nat} {x : Int} (h : dnS xss p t x = true) : ∀ {m : Nat}, t ≤ m → dnS xss p m x = true
  | 0, hm => by obtain rfl : t = 0 := by omega
                exact h
  | m + 1, hm => by
    by_cases e : t = m + 1
    · rw [← e]; exact h
    · exact dn_more (dn_le h (by omega))
theorem dnS_succ (xss : List (List Int)) (p : Int → Bool) (t : Nat) : dnS xss p (t + 1) = if dnS xss p t ((xss.length - 1 - t : Nat) : Int) = true then addL (xss.getD (xss.length - 1 - t) []) (dnS xss p t) else dnS xss p t := rfl
theorem dn_stable {xss : List (List Int)} {p : Int → Bool} (ha : arcB xss = true) {c : Nat} (hc : c < xss.length) : ∀ {t : Nat}, xss.length - 1 - c ≤ t → t ≤ xss.length → dnS xss p t (c : Int) = dnS xss p (xss.length - 1 - c) (c : Int)
  | 0, h1, h2 => by rw [show xss.length - 1 - c = 0 by omega]
  | t + 1, h1, h2 => by
    by_cases e : xss.length - 1 - c = t + 1
    · rw [e]
    · rw [← dn_stable ha hc (t := t) (by omega) (by omega)]
      rw [dnS_succ]
      split
      · unfold addL
        have hn : (xss.getD (xss.length - 1 - t) []).contains (c : Int) = false := by
          rw [Bool.eq_false_iff]
          intro hm
          have := (arc_mem ha (i := xss.length - 1 - t) (by omega) (by simpa using hm)).2
          omega
        rw [hn, Bool.false_or]
      · rfl
theorem dn_closed {xss : List (List Int)} {p : Int → Bool} (ha : arcB xss = true) {c : Nat} {y : Int} (hc : c < xss.length) (h : dnS xss p xss.length (c : Int) = true) (hy : y ∈ xss.getD c []) : dnS xss p xss.length y = true := by
  rw [dn_stable ha hc (by omega) (Nat.le_refl _)] at h
  refine dn_le (t := xss.length - 1 - c + 1) ?_ (by omega)
  have e : xss.length - 1 - (xss.length - 1 - c) = c := by omega
  rw [dnS_succ, e, if_pos h]
  unfold addL
  rw [show (xss.getD c []).contains y = true by simpa using hy, Bool.true_or]
theorem dn_iff {xss : List (List Int)} {p : Int → Bool} (ha : arcB xss = true) {x : Int} : dnS xss p xss.length x = true ↔ Rch xss p x := by
  have hN := arc_len ha
  refine ⟨dn_sound (by omega) _ _, fun h => h (fun y => dnS xss p xss.length y = true) (fun y hy => dn_le (t := 0) hy (Nat.zero_le _)) fun c y hc hs hy => dn_closed ha hc hs hy⟩
theorem Rch.range {xss : List (List Int)} {l : List Int} {x : Int} (ha : arcB xss = true) (hl : InN xss.length l) (h : Rch xss (inL l) x) : 0 ≤ x ∧ x < (xss.length : Int) :=
  h (fun y => 0 ≤ y ∧ y < (xss.length : Int)) (fun y hy => hl y (inL_iff.1 hy)) fun c y hc _ hy => arc_in ha hc y hy
theorem mem_clL {xss : List (List Int)} {l : List Int} {x : Int} (ha : arcB xss = true) (hl : InN xss.length l) : x ∈ clL xss l ↔ Rch xss (inL l) x := by
  unfold clL
  rw [mem_sel]
  unfold inr
  rw [Bool.and_eq_true, decide_eq_true_eq, dn_iff ha]
  exact ⟨fun h => h.2, fun h => ⟨h.range ha hl, h⟩⟩
theorem Rch.from_one {xss : List (List Int)} {l : List Int} {x : Int} (h : Rch xss (inL l) x) : ∃ a, a ∈ l ∧ Rch xss (inL [a]) x :=
  h (fun y => ∃ a, a ∈ l ∧ Rch xss (inL [a]) y) (fun y hy => ⟨y, inL_iff.1 hy, Rch.base (inL_iff.2 (by simp))⟩) fun c y hc ⟨a, h1, h2⟩ hy => ⟨a, h1, h2.step hc hy⟩
theorem Rch.to_list {xss : List (List Int)} {l : List Int} {a x : Int} (ha : a ∈ l) (h : Rch xss (inL [a]) x) : Rch xss (inL l) x :=
  h (fun y => Rch xss (inL l) y) (fun y hy => by
    have := inL_iff.1 hy
    simp at this
    subst this
    exact Rch.base (inL_iff.2 ha)) fun c y hc hs hy => hs.step hc hy
theorem Rch.le {xss : List (List Int)} {a x : Int} (ha : arcB xss = true) (h : Rch xss (inL [a]) x) : x ≤ a :=
  h (fun y => y ≤ a) (fun y hy => by
    have := inL_iff.1 hy
    simp at this
    omega) fun c y hc hs hy => by have := (arc_mem ha hc hy).2; omega

/-- Whether a block of a list is in the cone of a greater one. -/
def ndB (xss : List (List Int)) (l : List Int) (k : Int) : Bool := l.any fun a => decide (k < a) && inL (clL xss [a]) k
def keptL (xss : List (List Int)) (l : List Int) (t : Nat) : List Int := (l.take t).filter fun k => !ndB xss l k
theorem mem_unL {xss : List (List Int)} {C : List Int} {x : Int} (hC : InN xss.length C) : x ∈ unL xss C ↔ x ∈ C ∧ ∀ c : Nat, (c : Int) ∈ C → x ∉ xss.getD c [] := by
  unfold unL
  rw [mem_sel]
  unfold inr unP
  rw [List.take_length, Bool.and_eq_true, Bool.and_eq_true, decide_eq_true_eq, inL_iff, Bool.not_eq_true', List.any_eq_false]
  constructor
  · rintro ⟨_, h1, h2⟩
    exact ⟨h1, fun c hc hx => h2 _ hc (by simpa using hx)⟩
  · rintro ⟨h1, h2⟩
    refine ⟨hC x h1, h1, fun i hi hx => ?_⟩
    have := (hC i hi).1
    exact h2 i.toNat (by rw [Int.toNat_of_nonneg this]; exact hi) (by simpa using hx)
theorem nd_iff {xss : List (List Int)} {l : List Int} {k : Int} (ha : arcB xss = true) (hl : InN xss.length l) : ndB xss l k = true ↔ ∃ a, a ∈ l ∧ k < a ∧ Rch xss (inL [a]) k := by
  unfold ndB
  rw [List.any_eq_true]
  constructor
  · rintro ⟨a, h1, h2⟩
    rw [Bool.and_eq_true, decide_eq_true_eq, inL_iff, mem_clL ha (fun x hx => by simp at hx; subst hx; exact hl _ h1)] at h2
    exact ⟨a, h1, h2.1, h2.2⟩
  · rintro ⟨a, h1, h2, h3⟩
    refine ⟨a, h1, ?_⟩
    rw [Bool.and_eq_true, decide_eq_true_eq, inL_iff, mem_clL ha (fun x hx => by simp at hx; subst hx; exact hl _ h1)]
    exact ⟨h2, h3⟩
theorem kept_all {xss : List (List Int)} {l : List Int} {n : Int} (ha : arcB xss = true) (hl : InN xss.length l) (hr : risB n l = true) : keptL xss l l.length = unL xss (clL xss l) := by
  unfold keptL
  rw [List.take_length]
  refine rising_ext ((ris_rising hr).sublist List.filter_sublist) (sel_rising _ _) fun x => ?_
  have hC : InN xss.length (clL xss l) := sel_in _ _
  rw [mem_unL hC, List.mem_filter]
  constructor
  · rintro ⟨h1, h2⟩
    have hn : ¬ ndB xss l x = true := by intro h; rw [h] at h2; cases h2
    rw [nd_iff ha hl] at hn
    refine ⟨(mem_clL ha hl).2 (Rch.base (inL_iff.2 h1)), fun c hc hx => ?_⟩
    have hr2 := (mem_clL ha hl).1 hc
    obtain ⟨a, ha1, ha2⟩ := hr2.from_one
    have hcN : c < xss.length := by have := hr2.range ha hl; omega
    have h5 := ha2.le ha
    have h6 := (arc_mem ha hcN hx).2
    exact hn ⟨a, ha1, by omega, ha2.step hcN hx⟩
  · rintro ⟨h1, h2⟩
    have h3 := (mem_clL ha hl).1 h1
    refine ⟨?_, ?_⟩
    · rcases h3.inv with h | ⟨c, hc, h4, h5⟩
      · exact inL_iff.1 h
      · exact absurd h5 (h2 c ((mem_clL ha hl).2 h4))
    · rw [Bool.not_eq_true', Bool.eq_false_iff]
      intro hn
      obtain ⟨a, ha1, ha2, ha3⟩ := (nd_iff ha hl).1 hn
      rcases ha3.inv with h | ⟨c, hc, h4, h5⟩
      · have := inL_iff.1 h; simp at this; omega
      · exact h2 c ((mem_clL ha hl).2 (h4.to_list ha1)) h5

theorem totN_le {yss : List (List Int)} {m : Nat} (h : ∀ i, (yss.getD i []).length ≤ m) : ∀ n, totN yss n ≤ m * n
  | 0 => Nat.le_refl _
  | n + 1 => by
    have h1 := totN_le h n
    have h2 := h n
    show totN yss n + (yss.getD n []).length ≤ m * (n + 1)
    rw [Nat.mul_succ]
    omega
theorem re_facts (xss : List (List Int)) : (reA xss).length ≤ 1048576 ∧ RowKit.Hid (Short (reA xss)) ∧ totN (reA xss) (reA xss).length ≤ 1048576 := by
  by_cases ha : arcB xss = true
  · have hN := arc_len ha
    have e : reA xss = rdL xss := by unfold reA; rw [if_pos ha]
    have hl : ∀ i, ((rdL xss).getD i []).length ≤ 120 := fun i => by
      by_cases hi : i < xss.length
      · rw [rdL_at hi]
        have := sel_len (unP xss (clL xss (xss.getD i [])) (clL xss (xss.getD i [])).length) xss.length
        unfold unL
        omega
      · rw [List.getD_eq_getElem?_getD, List.getElem?_eq_none (by rw [rdL_len]; omega)]
        simp
    have ht := totN_le hl (rdL xss).length
    rw [e]
    refine ⟨by rw [rdL_len]; omega, fun i hi => by have := hl i; omega, ?_⟩
    rw [rdL_len] at ht ⊢
    omega
  · have e : reA xss = [] := by unfold reA; rw [if_neg ha]
    rw [e]
    exact ⟨by simp, fun i hi => by simp at hi, by simp [totN]⟩
end Go.Proofs.Ytffknfgejoejoaa
