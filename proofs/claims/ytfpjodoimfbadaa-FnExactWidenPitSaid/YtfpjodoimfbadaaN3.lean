/-
  Arcs, cones and closures: plain facts.
-/
import Derived.Test.YtfpjodoimfbadaaS1
import Derived.Test.YtfpjodoimfbadaaN4
import Derived.Test.YtfpjodoimfbadaaLP
namespace Go.Proofs.Ytfpjodoimfbadaa
set_option linter.unusedVariables false

theorem rising_ext {l m : List Int} (h1 : l.Pairwise (· < ·)) (h2 : m.Pairwise (· < ·)) (h : ∀ x, x ∈ l ↔ x ∈ m) : l = m := by
  have n1 : l.Nodup := h1.imp fun h => by omega
  have n2 : m.Nodup := h2.imp fun h => by omega
  exact List.Perm.eq_of_pairwise (le := (· < ·)) (fun a b _ _ h1 h2 => by omega) h1 h2 ((List.perm_ext_iff_of_nodup n1 n2).2 h)
theorem getD_memN {l : List Int} {k : Nat} (h : k < l.length) : l.getD k 0 ∈ l := by
  have : l.getD k 0 = l[k] := by simp [h]
  rw [this]; exact List.getElem_mem h
theorem mem_getD {l : List Int} {x : Int} (h : x ∈ l) : ∃ k, k < l.length ∧ l.getD k 0 = x := by
  obtain ⟨k, hk, e⟩ := List.mem_iff_getElem.1 h
  exact ⟨k, hk, by simp [hk, e]⟩
theorem ris_mem {n : Int} {l : List Int} (h : risB n l = true) {x : Int} (hx : x ∈ l) : 0 ≤ x ∧ x < n := by
  obtain ⟨k, hk, rfl⟩ := mem_getD hx
  exact ris_box h hk
theorem ris_rising {n : Int} {l : List Int} (h : risB n l = true) : l.Pairwise (· < ·) := by
  rw [List.pairwise_iff_getElem]
  have step : ∀ k, k + 1 < l.length → l.getD k 0 < l.getD (k + 1) 0 := fun k hk => (ris_at h hk).1
  have all : ∀ j i, i < j → j < l.length → l.getD i 0 < l.getD j 0 := by
    intro j
    induction j with
    | zero => intro i hi; omega
    | succ j ih =>
      intro i hi hj
      have h1 := step j hj
      by_cases e : i = j
      · rw [e]; exact h1
      · have := ih i (by omega) (by omega); omega
  intro i j hi hj hij
  have := all j i hij hj
  simpa [hi, hj] using this
/-- Whether a number is in a list. -/
def inL (l : List Int) : Int → Bool := fun x => l.contains x
theorem inL_iff {l : List Int} {x : Int} : inL l x = true ↔ x ∈ l := by simp [inL]
theorem sel_inL {N : Nat} {l : List Int} (h : risB N l = true) : sel (inL l) N = l := by
  refine rising_ext (sel_rising _ _) (ris_rising h) fun x => ?_
  rw [mem_sel]
  unfold inr
  rw [Bool.and_eq_true, inL_iff, decide_eq_true_eq]
  exact ⟨fun h => h.2, fun hx => ⟨ris_mem h hx, hx⟩⟩
/-- Marks and those of a list. -/
def addL (l : List Int) (p : Int → Bool) : Int → Bool := fun x => l.contains x || p x
theorem addL_nil (p : Int → Bool) : addL [] p = p := by funext x; simp [addL]
theorem addL_false (l : List Int) : addL l (fun _ => false) = inL l := by funext x; simp [addL, inL]
theorem addL_take {l : List Int} {p : Int → Bool} {k : Nat} (h : k < l.length) : (fun y => y == l.getD k 0 || addL (l.take k) p y) = addL (l.take (k + 1)) p := by
  funext y
  unfold addL
  rw [List.take_succ_eq_append_getElem h]
  have e : l.getD k 0 = l[k] := by simp [h]
  rw [e]
  simp only [List.contains_eq_mem, List.mem_append, List.mem_singleton, Bool.decide_or]
  by_cases a : y = l[k]
  · simp [a]
  · have : (y == l[k]) = false := by simpa using a
    simp [this, a]

/-- Valid arcs. -/
def arcB (xss : List (List Int)) : Bool := decide (1 ≤ xss.length ∧ xss.length ≤ 120) && (List.range xss.length).all fun i => risB i (xss.getD i [])
theorem arc_len {xss : List (List Int)} (h : arcB xss = true) : 1 ≤ xss.length ∧ xss.length ≤ 120 := by
  unfold arcB at h
  simp only [Bool.and_eq_true, decide_eq_true_eq] at h
  exact h.1
theorem arcB_at {xss : List (List Int)} (h : arcB xss = true) {i : Nat} (hi : i < xss.length) : risB i (xss.getD i []) = true := by
  unfold arcB at h
  simp only [Bool.and_eq_true, List.all_eq_true] at h
  exact h.2 i (List.mem_range.2 hi)
theorem arc_short {xss : List (List Int)} (h : ¬ (1 ≤ xss.length ∧ xss.length ≤ 120)) : arcB xss = false := by
  unfold arcB
  rw [decide_eq_false h, Bool.false_and]
theorem arc_false {xss : List (List Int)} {i : Nat} (hi : i < xss.length) (h : risB i (xss.getD i []) = false) : arcB xss = false := by
  unfold arcB
  rw [Bool.and_eq_false_iff]
  refine .inr ?_
  rw [List.all_eq_false]
  exact ⟨i, List.mem_range.2 hi, by rw [h]; simp⟩
def ArcTo (xss : List (List Int)) (k : Nat) : Prop := ∀ i : Nat, i < k → risB i (xss.getD i []) = true
theorem ArcTo.zero (xss : List (List Int)) : ArcTo xss 0 := fun i hi => by omega
theorem ArcTo.succ {xss : List (List Int)} {k : Nat} (h : ArcTo xss k) (hk : risB k (xss.getD k []) = true) : ArcTo xss (k + 1) := fun i hi => by
  by_cases e : i = k
  · rw [e]; exact hk
  · exact h i (by omega)
theorem arc_true {xss : List (List Int)} (hl : 1 ≤ xss.length ∧ xss.length ≤ 120) (h : ArcTo xss xss.length) : arcB xss = true := by
  unfold arcB
  rw [decide_eq_true hl, Bool.true_and, List.all_eq_true]
  exact fun i hi => h i (List.mem_range.1 hi)
theorem arc_mem {xss : List (List Int)} (h : arcB xss = true) {i : Nat} (hi : i < xss.length) {x : Int} (hx : x ∈ xss.getD i []) : 0 ≤ x ∧ x < (i : Int) := ris_mem (arcB_at h hi) hx
theorem arc_slen {xss : List (List Int)} (h : arcB xss = true) {i : Nat} (hi : i < xss.length) : (xss.getD i []).length ≤ 120 := by
  have := ris_len (arcB_at h hi) (by omega)
  have := arc_len h
  omega

/-- Marks closed downwards: after t rounds. -/
def dnS (xss : List (List Int)) (p : Int → Bool) : Nat → Int → Bool
  | 0 => p
  | t + 1 => if dnS xss p t ((xss.length - 1 - t : Nat) : Int) = true then addL (xss.getD (xss.length - 1 - t) []) (dnS xss p t) else dnS xss p t
/-- The least closure with the blocks of a list. -/
def clL (xss : List (List Int)) (l : List Int) : List Int := sel (dnS xss (inL l) xss.length) xss.length
theorem clL_len (xss : List (List Int)) (l : List Int) : (clL xss l).length ≤ xss.length := sel_len _ _
/-- Marks of what needs marked blocks: after k rounds. -/
def upS (xss : List (List Int)) (p : Int → Bool) : Nat → Int → Bool
  | 0 => p
  | k + 1 => if (xss.getD k []).any (upS xss p k) = true then (fun y => y == (k : Int) || upS xss p k y) else upS xss p k
/-- Marks of what lies in no list of the marked: after k rounds. -/
def insS (xss : List (List Int)) (p : Int → Bool) : Nat → Int → Bool
  | 0 => p
  | k + 1 => fun y => if y = (k : Int) then insS xss p k k && (xss.getD k []).all (insS xss p k) else insS xss p k y
theorem insS_ge (xss : List (List Int)) (p : Int → Bool) : ∀ (k : Nat) (y : Int), (k : Int) ≤ y → insS xss p k y = p y
  | 0, y, _ => rfl
  | k + 1, y, h => by
    unfold insS
    rw [if_neg (by omega)]
    exact insS_ge xss p k y (by omega)
theorem insS_skip {xss : List (List Int)} {p : Int → Bool} {k : Nat} (h : p (k : Int) = false) : insS xss p (k + 1) = insS xss p k := by
  funext y
  simp only [insS]
  by_cases e : y = (k : Int)
  · subst e
    rw [if_pos rfl, insS_ge _ _ _ _ (Int.le_refl _), h]
    rfl
  · rw [if_neg e]
theorem insS_skips {xss : List (List Int)} {p : Int → Bool} {k : Nat} : ∀ {m : Nat}, k ≤ m → (∀ j : Nat, k ≤ j → j < m → p (j : Int) = false) → insS xss p m = insS xss p k
  | 0, hk, _ => by obtain rfl : k = 0 := by omega
                   rfl
  | m + 1, hk, h => by
    by_cases e : k = m + 1
    · rw [e]
    · rw [insS_skip (h m (by omega) (by omega))]
      exact insS_skips (by omega) fun j h1 h2 => h j h1 (by omega)
theorem insS_hit {xss : List (List Int)} {p : Int → Bool} {k : Nat} (h : p (k : Int) = true) : insS xss p (k + 1) = if (xss.getD k []).all (insS xss p k) = true then insS xss p k else fun y => !(y == (k : Int)) && insS xss p k y := by
  have hk := insS_ge xss p k k (Int.le_refl _)
  funext y
  simp only [insS]
  by_cases e : y = (k : Int)
  · subst e
    rw [if_pos rfl, hk, h, Bool.true_and]
    by_cases a : (xss.getD k []).all (insS xss p k) = true
    · rw [if_pos a, hk, h, a]
    · rw [if_neg a]
      simpa using a
  · rw [if_neg e]
    have : (y == (k : Int)) = false := by simpa using e
    by_cases a : (xss.getD k []).all (insS xss p k) = true
    · rw [if_pos a]
    · rw [if_neg a]; simp [this]
/-- Whether a list is a closure. -/
def closB (xss : List (List Int)) (l : List Int) : Bool := l.all fun i => (xss.getD i.toNat []).all (inL l)
/-- Whether a block can come next. -/
def nxP (xss : List (List Int)) (l : List Int) : Int → Bool := fun i => !inL l i && (xss.getD i.toNat []).all (inL l)
/-- Marks of a list but for what its first j blocks need. -/
def unP (xss : List (List Int)) (C : List Int) (j : Nat) : Int → Bool := fun y => inL C y && !((C.take j).any fun i => (xss.getD i.toNat []).contains y)
def unL (xss : List (List Int)) (C : List Int) : List Int := sel (unP xss C C.length) xss.length
theorem unP_zero (xss : List (List Int)) (C : List Int) : unP xss C 0 = inL C := by funext y; simp [unP]
/-- Of the j-th block's needs the first t are gone. -/
def unQ (xss : List (List Int)) (C : List Int) (j t : Nat) : Int → Bool := fun y => unP xss C j y && !(((xss.getD (C.getD j 0).toNat []).take t).contains y)
theorem unQ_zero (xss : List (List Int)) (C : List Int) (j : Nat) : unQ xss C j 0 = unP xss C j := by funext y; simp [unQ]
theorem unQ_succ {xss : List (List Int)} {C : List Int} {j t : Nat} (h : t < (xss.getD (C.getD j 0).toNat []).length) : (fun y => !(y == (xss.getD (C.getD j 0).toNat []).getD t 0) && unQ xss C j t y) = unQ xss C j (t + 1) := by
  funext y
  unfold unQ
  generalize xss.getD (C.getD j 0).toNat [] = l at *
  rw [List.take_succ_eq_append_getElem h]
  have e : l.getD t 0 = l[t] := by simp [h]
  rw [e]
  simp only [List.contains_eq_mem, List.mem_append, List.mem_singleton, Bool.decide_or]
  by_cases a : y = l[t]
  · simp [a]
  · have : (y == l[t]) = false := by simpa using a
    simp [this, a]
theorem unQ_all {xss : List (List Int)} {C : List Int} {j : Nat} (h : j < C.length) : unQ xss C j (xss.getD (C.getD j 0).toNat []).length = unP xss C (j + 1) := by
  funext y
  unfold unQ unP
  rw [List.take_length, List.take_succ_eq_append_getElem h]
  have e : C.getD j 0 = C[j] := by simp [h]
  rw [e, List.any_append]
  simp [Bool.and_assoc]

/-! ### A number put into a rising list -/
theorem putI_mem {ys : List Int} {x y : Int} : y ∈ putI ys x ↔ y = x ∨ y ∈ ys := by
  unfold putI
  split
  · rename_i h
    have : x ∈ ys := by rw [← h.2]; exact getD_memN h.1
    constructor
    · exact fun h => .inr h
    · rintro (rfl | h)
      · exact this
      · exact h
  · have e : ∀ z, z ∈ ys ↔ z ∈ ys.take (posL ys x) ∨ z ∈ ys.drop (posL ys x) := fun z => by rw [← List.mem_append, List.take_append_drop]
    rw [e]
    simp only [List.mem_append, List.mem_singleton]
    constructor
    · rintro ((h | h) | h)
      · exact .inr (.inl h)
      · exact .inl h
      · exact .inr (.inr h)
    · rintro (h | h | h)
      · exact .inl (.inr h)
      · exact .inl (.inl h)
      · exact .inr h
theorem putI_rising {ys : List Int} {x : Int} (h : ys.Pairwise (· < ·)) : (putI ys x).Pairwise (· < ·) := by
  unfold putI
  split
  · exact h
  · rename_i hn
    have h2 : (ys.take (posL ys x) ++ ys.drop (posL ys x)).Pairwise (· < ·) := by rw [List.take_append_drop]; exact h
    rw [List.pairwise_append] at h2
    have lo : ∀ a ∈ ys.take (posL ys x), a < x := fun a ha => by
      obtain ⟨k, hk, e⟩ := List.mem_iff_getElem.1 ha
      rw [List.length_take] at hk
      have := posL_lt ys x (k := k) (by omega)
      rw [List.getElem_take] at e
      rw [← e]
      simpa [show k < ys.length by omega] using this
    have hi : ∀ b ∈ ys.drop (posL ys x), x < b := fun b hb => by
      have hlt : posL ys x < ys.length := by
        rcases Nat.lt_or_ge (posL ys x) ys.length with h | h
        · exact h
        · rw [List.drop_of_length_le h] at hb; cases hb
      have h3 := posL_at ys x hlt
      have h4 : ¬ ys.getD (posL ys x) 0 = x := fun e => hn ⟨hlt, e⟩
      rw [List.drop_eq_getElem_cons hlt] at hb
      have h5 := h2.2.1
      rw [List.drop_eq_getElem_cons hlt, List.pairwise_cons] at h5
      have e : ys.getD (posL ys x) 0 = ys[posL ys x] := by simp [hlt]
      rw [e] at h3 h4
      rcases List.mem_cons.1 hb with rfl | hb
      · omega
      · have := h5.1 b hb; omega
    rw [List.pairwise_append, List.pairwise_append]
    refine ⟨⟨h2.1, by simp, fun a ha b hb => by simp at hb; subst hb; exact lo a ha⟩, h2.2.1, fun a ha b hb => ?_⟩
    rw [List.mem_append, List.mem_singleton] at ha
    rcases ha with ha | rfl
    · have := lo a ha; have := hi b hb; omega
    · exact hi b hb
theorem putI_sel {p : Int → Bool} {N : Nat} {x : Int} (h0 : 0 ≤ x) (h1 : x < (N : Int)) : putI (sel p N) x = sel (fun y => y == x || p y) N := by
  refine rising_ext (putI_rising (sel_rising p N)) (sel_rising _ N) fun y => ?_
  rw [putI_mem, mem_sel, mem_sel]
  unfold inr
  by_cases e : y = x
  · subst e; simp [h0, h1]
  · simp [e]
end Go.Proofs.Ytfpjodoimfbadaa
