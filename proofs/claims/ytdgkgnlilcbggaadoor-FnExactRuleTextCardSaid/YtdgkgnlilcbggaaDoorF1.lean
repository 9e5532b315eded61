/-
  The value of a rule for given fields: plain.
-/
import Derived.Test.YtdgkgnlilcbggaaDoorU2
import Derived.Test.YtdgkgnlilcbggaaDoorDN
namespace Go.Proofs.YtdgkgnlilcbggaaDoor
set_option linter.unusedVariables false

def chk (n : Int) : Option Int := if -1000000000 ≤ n ∧ n ≤ 1000000000 then some n else none
theorem chk_yes {n : Int} (h : -1000000000 ≤ n ∧ n ≤ 1000000000) : chk n = some n := if_pos h
theorem chk_no {n : Int} (h : ¬ (-1000000000 ≤ n ∧ n ≤ 1000000000)) : chk n = none := if_neg h
def opV (k a b : Int) : Option Int := if k = 2 then some (a + b) else if k = 3 then some (a - b) else if k = 4 then some (a * b) else if b = 0 then none else some (dn a b)
def testV (k a b : Int) : Bool := if k = 6 then decide (a < b) else if k = 7 then decide (a = b) else decide (b < a)
def binV (k : Int) (x y : Option Int) : Option Int := x.bind fun a => y.bind fun b => (opV k a b).bind chk
def choV (k : Int) (x y u v : Option Int) : Option Int := x.bind fun a => y.bind fun b => if testV k a b then u else v

/-- The value of the tree whose last part is at place e. -/
def ev (ks vs : Nat → Int) (fs : List Int) : Tr → Nat → Option Int
  | .leaf, e => if ks e = 0 then some (vs e) else some (fs.getD (vs e).toNat 0)
  | .two a b, e => binV (ks e) (ev ks vs fs a (e - 1 - b.size)) (ev ks vs fs b (e - 1))
  | .four a b c d, e => choV (ks e) (ev ks vs fs a (e - 1 - d.size - c.size - b.size)) (ev ks vs fs b (e - 1 - d.size - c.size)) (ev ks vs fs c (e - 1 - d.size)) (ev ks vs fs d (e - 1))

def In9 (r : Option Int) : Prop := ∀ n, r = some n → -1000000000 ≤ n ∧ n ≤ 1000000000
theorem in9_none : In9 none := fun n h => by cases h
theorem in9_bin (k : Int) (x y : Option Int) : In9 (binV k x y) := fun n h => by
  unfold binV at h
  cases x with
  | none => cases h
  | some a =>
    cases y with
    | none => cases h
    | some b =>
      simp only [Option.bind_some] at h
      cases ho : opV k a b with
      | none => rw [ho] at h; cases h
      | some m =>
        rw [ho] at h
        simp only [Option.bind_some] at h
        unfold chk at h
        split at h
        · cases h; assumption
        · cases h
theorem in9_cho {k : Int} {x y u v : Option Int} (hu : In9 u) (hv : In9 v) : In9 (choV k x y u v) := fun n h => by
  unfold choV at h
  cases x with
  | none => cases h
  | some a =>
    cases y with
    | none => cases h
    | some b =>
      simp only [Option.bind_some] at h
      split at h
      · exact hu n h
      · exact hv n h
/-- What is asked of the parts' values and of the fields. -/
def VOk (ks vs : Nat → Int) (fs : List Int) (n : Nat) : Prop := ∀ j, j < n → (ks j = 0 → 0 ≤ vs j ∧ vs j ≤ 1000000) ∧ (ks j = 1 → 0 ≤ vs j ∧ vs j ≤ 4) ∧ 0 ≤ fs.getD (vs j).toNat 0 ∧ fs.getD (vs j).toNat 0 ≤ 10000000
theorem ev_in9 {ks vs : Nat → Int} {fs : List Int} {n : Nat} (hk : ∀ j, j < n → 0 ≤ ks j) (h : VOk ks vs fs n) : ∀ (t : Tr) (e : Nat), At ks t e → e < n → In9 (ev ks vs fs t e)
  | .leaf, e, hA, he => fun m hm => by
    obtain ⟨h1, h2, h3, h4⟩ := h e he
    unfold ev at hm
    split at hm
    · cases hm; have := h1 (by assumption); omega
    · cases hm; omega
  | .two a b, e, hA, he => in9_bin _ _ _
  | .four a b c d, e, ⟨_, _, _, _, _, hc, hd⟩, he => in9_cho (ev_in9 hk h c _ hc (by omega)) (ev_in9 hk h d _ hd (by omega))

/-- The values of the rules that the last part needs. -/
def kidV (ks vs : Nat → Int) (fs : List Int) (lo : Nat) (kd : Nat → Tr) (of : Nat → Nat) (j : Nat) : Option Int := ev ks vs fs (kd j) (lo + of (j + 1) - 1)
/-- The value, by the parts that the last one needs. -/
def topV (k v : Int) (fs : List Int) (kv : Nat → Option Int) : Option Int :=
  if k = 0 then some v else if k ≤ 1 then some (fs.getD v.toNat 0) else if k ≤ 5 then binV k (kv 0) (kv 1) else choV k (kv 0) (kv 1) (kv 2) (kv 3)
theorem ndK_zero {k : Int} (h : ndK k = 0) : k ≤ 1 := by
  unfold ndK at h
  split at h
  · assumption
  · split at h <;> omega
theorem ndK_two {k : Int} (h : ndK k = 2) : ¬ k = 0 ∧ ¬ k ≤ 1 ∧ k ≤ 5 := by
  unfold ndK at h
  split at h
  · omega
  · split at h <;> omega
theorem ndK_four {k : Int} (h : ndK k = 4) : ¬ k = 0 ∧ ¬ k ≤ 1 ∧ ¬ k ≤ 5 := by
  unfold ndK at h
  split at h
  · omega
  · split at h <;> omega
theorem ev_leaf {ks vs : Nat → Int} {e : Nat} (h : ndA ks e = 0) (fs : List Int) {kv : Nat → Option Int} : ev ks vs fs .leaf e = topV (ks e) (vs e) fs kv := by
  have : ks e ≤ 1 := ndK_zero h
  unfold topV
  simp only [ev]
  by_cases h0 : ks e = 0
  · rw [if_pos h0, if_pos h0]
  · rw [if_neg h0, if_neg h0]
    rw [if_pos this]
theorem ev_two {ks vs : Nat → Int} {e : Nat} {fs : List Int} {a b : Tr} {kv : Nat → Option Int} (h : ndA ks e = 2) (h0 : kv 0 = ev ks vs fs a (e - 1 - b.size)) (h1 : kv 1 = ev ks vs fs b (e - 1)) : ev ks vs fs (.two a b) e = topV (ks e) (vs e) fs kv := by
  obtain ⟨a1, a2, a3⟩ := ndK_two h
  unfold topV
  rw [if_neg a1, if_neg a2, if_pos a3, h0, h1]
  rfl
theorem ev_four {ks vs : Nat → Int} {e : Nat} {fs : List Int} {a b c d : Tr} {kv : Nat → Option Int} (h : ndA ks e = 4) (h0 : kv 0 = ev ks vs fs a (e - 1 - d.size - c.size - b.size)) (h1 : kv 1 = ev ks vs fs b (e - 1 - d.size - c.size)) (h2 : kv 2 = ev ks vs fs c (e - 1 - d.size)) (h3 : kv 3 = ev ks vs fs d (e - 1)) : ev ks vs fs (.four a b c d) e = topV (ks e) (vs e) fs kv := by
  obtain ⟨a1, a2, a3⟩ := ndK_four h
  unfold topV
  rw [if_neg a1, if_neg a2, if_neg a3, h0, h1, h2, h3]
  rfl
theorem ev_split {ks vs : Nat → Int} {e lo : Nat} : ∀ {t : Tr}, At ks t e → lo + t.size = e + 1 → ∃ m kd of, Split ks lo t.size m kd of ∧ m ≤ 4 ∧ (∀ j, j < m → (kd j).size < t.size) ∧ t.depth = mxd kd m + 1 ∧ t.size = smz kd m + 1 ∧ kid ks e = (List.range m).map (fun j => lo + of (j + 1) - 1) ∧ (∀ fs, ev ks vs fs t e = topV (ks e) (vs e) fs (kidV ks vs fs lo kd of))
  | .leaf, h, hl => by
    refine ⟨0, fun _ => .leaf, fun _ => 0, ⟨?_, rfl, rfl, fun j hj => by omega, fun j hj => by omega⟩, by omega, fun j hj => by omega, rfl, rfl, by rw [h.2]; rfl, fun fs => ev_leaf h.1 fs⟩
    rw [show lo + Tr.leaf.size - 1 = e by omega]; exact h.1
  | .two a b, ⟨hd, hz, hk, ha, hb⟩, hl => by
    simp only [Tr.size] at hl
    have za := a.size_pos
    have zb := b.size_pos
    refine ⟨2, fun j => if j = 0 then a else b, fun j => if j = 0 then 0 else if j = 1 then a.size else a.size + b.size, ⟨?_, rfl, ?_, ?_, ?_⟩, by omega, ?_, ?_, ?_, ?_, ?_⟩
    · rw [show lo + (Tr.two a b).size - 1 = e by simp only [Tr.size]; omega]; exact hd
    · simp only [Tr.size]; simp; omega
    · intro j hj
      rcases (show j = 0 ∨ j = 1 by omega) with rfl | rfl <;> simp
    · intro j hj
      rcases (show j = 0 ∨ j = 1 by omega) with rfl | rfl
      · simp; rw [show lo + a.size - 1 = e - 1 - b.size by omega]; exact ha
      · simp; rw [show lo + (a.size + b.size) - 1 = e - 1 by omega]; exact hb
    · intro j hj
      simp only [Tr.size]
      rcases (show j = 0 ∨ j = 1 by omega) with rfl | rfl <;> simp <;> omega
    · simp only [Tr.depth, mxd]; simp
    · simp only [Tr.size, smz]; simp; omega
    · rw [hk]
      simp [List.range_succ]
      omega
    · intro fs
      refine ev_two (kv := kidV ks vs fs lo (fun j => if j = 0 then a else b) (fun j => if j = 0 then 0 else if j = 1 then a.size else a.size + b.size)) hd ?_ ?_
      · unfold kidV; simp; rw [show lo + a.size - 1 = e - 1 - b.size by omega]
      · unfold kidV; simp; rw [show lo + (a.size + b.size) - 1 = e - 1 by omega]
  | .four a b c d, ⟨hd, hz, hk, ha, hb, hc, hdd⟩, hl => by
    simp only [Tr.size] at hl
    have za := a.size_pos
    have zb := b.size_pos
    have zc := c.size_pos
    have zd := d.size_pos
    refine ⟨4, fun j => if j = 0 then a else if j = 1 then b else if j = 2 then c else d, fun j => if j = 0 then 0 else if j = 1 then a.size else if j = 2 then a.size + b.size else if j = 3 then a.size + b.size + c.size else a.size + b.size + c.size + d.size, ⟨?_, rfl, ?_, ?_, ?_⟩, by omega, ?_, ?_, ?_, ?_, ?_⟩
    · rw [show lo + (Tr.four a b c d).size - 1 = e by simp only [Tr.size]; omega]; exact hd
    · simp only [Tr.size]; simp; omega
    · intro j hj
      rcases (show j = 0 ∨ j = 1 ∨ j = 2 ∨ j = 3 by omega) with rfl | rfl | rfl | rfl <;> simp
    · intro j hj
      rcases (show j = 0 ∨ j = 1 ∨ j = 2 ∨ j = 3 by omega) with rfl | rfl | rfl | rfl
      · simp; rw [show lo + a.size - 1 = e - 1 - d.size - c.size - b.size by omega]; exact ha
      · simp; rw [show lo + (a.size + b.size) - 1 = e - 1 - d.size - c.size by omega]; exact hb
      · simp; rw [show lo + (a.size + b.size + c.size) - 1 = e - 1 - d.size by omega]; exact hc
      · simp; rw [show lo + (a.size + b.size + c.size + d.size) - 1 = e - 1 by omega]; exact hdd
    · intro j hj
      simp only [Tr.size]
      rcases (show j = 0 ∨ j = 1 ∨ j = 2 ∨ j = 3 by omega) with rfl | rfl | rfl | rfl <;> simp <;> omega
    · simp only [Tr.depth, mxd]; simp
    · simp only [Tr.size, smz]; simp; omega
    · rw [hk]
      simp [List.range_succ]
      omega
    · intro fs
      refine ev_four (kv := kidV ks vs fs lo (fun j => if j = 0 then a else if j = 1 then b else if j = 2 then c else d) (fun j => if j = 0 then 0 else if j = 1 then a.size else if j = 2 then a.size + b.size else if j = 3 then a.size + b.size + c.size else a.size + b.size + c.size + d.size)) hd ?_ ?_ ?_ ?_
      · unfold kidV; simp; rw [show lo + a.size - 1 = e - 1 - d.size - c.size - b.size by omega]
      · unfold kidV; simp; rw [show lo + (a.size + b.size) - 1 = e - 1 - d.size - c.size by omega]
      · unfold kidV; simp; rw [show lo + (a.size + b.size + c.size) - 1 = e - 1 - d.size by omega]
      · unfold kidV; simp; rw [show lo + (a.size + b.size + c.size + d.size) - 1 = e - 1 by omega]
end Go.Proofs.YtdgkgnlilcbggaaDoor
