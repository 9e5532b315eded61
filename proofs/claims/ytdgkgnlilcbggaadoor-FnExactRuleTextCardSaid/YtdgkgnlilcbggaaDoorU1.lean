/-
  Rules as lists of parts, each behind what it needs: plain facts about stacks, trees, sizes and depths.
-/
import Derived.Test.YtdgkgnlilcbggaaDoorC6
namespace Go.Proofs.YtdgkgnlilcbggaaDoor
set_option linter.unusedVariables false

/-- How many rules a kind of part needs. -/
def ndK (k : Int) : Nat := if k ≤ 1 then 0 else if k ≤ 5 then 2 else 4
theorem ndK_cases (k : Int) : ndK k = 0 ∨ ndK k = 2 ∨ ndK k = 4 := by unfold ndK; split; exact .inl rfl; split; exact .inr (.inl rfl); exact .inr (.inr rfl)
def parB (k v : Int) : Bool := if k = 0 then decide (0 ≤ v ∧ v ≤ 1000000) else if k = 1 then decide (0 ≤ v ∧ v ≤ 4) else decide (2 ≤ k ∧ k ≤ 8 ∧ v = 0)
/-- The need of part i of a list whose kinds are ks. -/
def ndA (ks : Nat → Int) (i : Nat) : Nat := ndK (ks i)
/-- The stack behind i parts, its top first: the parts that no later one of them has taken. -/
def stk (ks : Nat → Int) : Nat → List Nat
  | 0 => []
  | i + 1 => i :: (stk ks i).drop (ndA ks i)
/-- What part i takes, the first one first. -/
def kid (ks : Nat → Int) (i : Nat) : List Nat := ((stk ks i).take (ndA ks i)).reverse
/-- No part before i lacks what it needs. -/
def FullTo (ks : Nat → Int) (i : Nat) : Prop := ∀ j, j < i → ndA ks j ≤ (stk ks j).length
theorem FullTo.zero (ks : Nat → Int) : FullTo ks 0 := fun j hj => by omega
theorem FullTo.succ {ks : Nat → Int} {i : Nat} (h : FullTo ks i) (hi : ndA ks i ≤ (stk ks i).length) : FullTo ks (i + 1) := fun j hj => by
  by_cases e : j = i
  · rw [e]; exact hi
  · exact h j (by omega)

inductive Tr where
  | leaf
  | two (a b : Tr)
  | four (a b c d : Tr)
def Tr.size : Tr → Nat
  | .leaf => 1
  | .two a b => 1 + a.size + b.size
  | .four a b c d => 1 + a.size + b.size + c.size + d.size
def Tr.depth : Tr → Nat
  | .leaf => 1
  | .two a b => max a.depth b.depth + 1
  | .four a b c d => max (max (max a.depth b.depth) c.depth) d.depth + 1
theorem Tr.size_pos : ∀ t : Tr, 0 < t.size
  | .leaf => by simp [Tr.size]
  | .two a b => by simp only [Tr.size]; omega
  | .four a b c d => by simp only [Tr.size]; omega
/-- The tree t has its last part at place e. -/
def At (ks : Nat → Int) : Tr → Nat → Prop
  | .leaf, e => ndA ks e = 0 ∧ kid ks e = []
  | .two a b, e => ndA ks e = 2 ∧ a.size + b.size ≤ e ∧ kid ks e = [e - 1 - b.size, e - 1] ∧ At ks a (e - 1 - b.size) ∧ At ks b (e - 1)
  | .four a b c d, e => ndA ks e = 4 ∧ a.size + b.size + c.size + d.size ≤ e ∧ kid ks e = [e - 1 - d.size - c.size - b.size, e - 1 - d.size - c.size, e - 1 - d.size, e - 1] ∧
      At ks a (e - 1 - d.size - c.size - b.size) ∧ At ks b (e - 1 - d.size - c.size) ∧ At ks c (e - 1 - d.size) ∧ At ks d (e - 1)
theorem At.size_le {ks : Nat → Int} : ∀ {t : Tr} {e : Nat}, At ks t e → t.size ≤ e + 1
  | .leaf, e, _ => by simp [Tr.size]
  | .two a b, e, h => by have := h.2.1; simp only [Tr.size]; omega
  | .four a b c d, e, h => by have := h.2.1; simp only [Tr.size]; omega
/-- The trees on the stack behind i parts, the top first. -/
def For (ks : Nat → Int) : List Tr → Nat → List Nat → Prop
  | [], i, s => i = 0 ∧ s = []
  | t :: ts, i, s => ∃ s', s = (i - 1) :: s' ∧ 0 < i ∧ At ks t (i - 1) ∧ t.size ≤ i ∧ For ks ts (i - t.size) s'
theorem For.length {ks : Nat → Int} : ∀ {ts : List Tr} {i : Nat} {s : List Nat}, For ks ts i s → s.length = ts.length
  | [], i, s, h => by rw [h.2]; rfl
  | t :: ts, i, s, ⟨s', e, _, _, _, h⟩ => by rw [e, List.length_cons, List.length_cons, For.length h]
theorem forest {ks : Nat → Int} : ∀ i, FullTo ks i → ∃ ts, For ks ts i (stk ks i)
  | 0, _ => ⟨[], rfl, rfl⟩
  | i + 1, h => by
    obtain ⟨ts, hf⟩ := forest i (fun j hj => h j (by omega))
    have hn := h i (by omega)
    rcases ndK_cases (ks i) with hd | hd | hd
    · have hd' : ndA ks i = 0 := hd
      refine ⟨.leaf :: ts, stk ks i, ?_, by omega, ⟨hd', by simp [kid, hd']⟩, by simp [Tr.size], ?_⟩
      · rw [stk, hd']; rfl
      · simpa [Tr.size] using hf
    · have hd' : ndA ks i = 2 := hd
      rw [hd', hf.length] at hn
      match ts, hn, hf with
      | b :: a :: ts, _, ⟨s1, e1, p1, A1, z1, s2, e2, p2, A2, z2, hr⟩ =>
        refine ⟨.two a b :: ts, s2, ?_, by omega, ⟨hd', by omega, ?_, ?_, A1⟩, by simp only [Tr.size]; omega, ?_⟩
        · rw [stk, hd', e1, e2]; rfl
        · rw [kid, show i + 1 - 1 = i by omega, hd', e1, e2]
          simp
          omega
        · rw [show i + 1 - 1 - 1 - b.size = i - b.size - 1 by omega]; exact A2
        · rw [show i + 1 - (Tr.two a b).size = i - b.size - a.size by simp only [Tr.size]; omega]; exact hr
    · have hd' : ndA ks i = 4 := hd
      rw [hd', hf.length] at hn
      match ts, hn, hf with
      | d :: c :: b :: a :: ts, _, ⟨s1, e1, p1, A1, z1, s2, e2, p2, A2, z2, s3, e3, p3, A3, z3, s4, e4, p4, A4, z4, hr⟩ =>
        refine ⟨.four a b c d :: ts, s4, ?_, by omega, ⟨hd', by omega, ?_, ?_, ?_, ?_, A1⟩, by simp only [Tr.size]; omega, ?_⟩
        · rw [stk, hd', e1, e2, e3, e4]; rfl
        · rw [kid, show i + 1 - 1 = i by omega, hd', e1, e2, e3, e4]
          simp
          omega
        · rw [show i + 1 - 1 - 1 - d.size - c.size - b.size = i - d.size - c.size - b.size - 1 by omega]; exact A4
        · rw [show i + 1 - 1 - 1 - d.size - c.size = i - d.size - c.size - 1 by omega]; exact A3
        · rw [show i + 1 - 1 - 1 - d.size = i - d.size - 1 by omega]; exact A2
        · rw [show i + 1 - (Tr.four a b c d).size = i - d.size - c.size - b.size - a.size by simp only [Tr.size]; omega]; exact hr
theorem one_tree {ks : Nat → Int} {n : Nat} (h : FullTo ks n) (h1 : (stk ks n).length = 1) : ∃ t, At ks t (n - 1) ∧ t.size = n ∧ 0 < n := by
  obtain ⟨ts, hf⟩ := forest n h
  rw [hf.length] at h1
  match ts, h1, hf with
  | [t], _, ⟨s', _, p, A, z, hz, _⟩ => exact ⟨t, A, by omega, p⟩

/-- What is missing behind the last s parts, that at e first. -/
def mis (ks : Nat → Int) (e : Nat) : Nat → Int
  | 0 => 1
  | s + 1 => mis ks e s + (ndA ks (e - s) : Int) - 1
theorem mis_add (ks : Nat → Int) (e a : Nat) : ∀ s, mis ks e (a + s) = mis ks e a + mis ks (e - a) s - 1
  | 0 => by simp [mis]
  | s + 1 => by
    have ih := mis_add ks e a s
    rw [← Nat.add_assoc, mis, mis, ih, show e - (a + s) = e - a - s by omega]
    omega
theorem At.mis {ks : Nat → Int} : ∀ {t : Tr} {e : Nat}, At ks t e → mis ks e t.size = 0 ∧ ∀ s, s < t.size → 1 ≤ mis ks e s
  | .leaf, e, h => by
    refine ⟨by simp [Go.Proofs.YtdgkgnlilcbggaaDoor.mis, Tr.size, h.1], fun s hs => ?_⟩
    simp only [Tr.size] at hs
    obtain rfl : s = 0 := by omega
    simp [Go.Proofs.YtdgkgnlilcbggaaDoor.mis]
  | .two a b, e, ⟨hd, hz, _, ha, hb⟩ => by
    obtain ⟨a0, a1⟩ := ha.mis
    obtain ⟨b0, b1⟩ := hb.mis
    have m1 : Go.Proofs.YtdgkgnlilcbggaaDoor.mis ks e 1 = 2 := by simp [Go.Proofs.YtdgkgnlilcbggaaDoor.mis, hd]
    have mb : ∀ s, Go.Proofs.YtdgkgnlilcbggaaDoor.mis ks e (1 + s) = 1 + Go.Proofs.YtdgkgnlilcbggaaDoor.mis ks (e - 1) s := fun s => by rw [mis_add, m1]; omega
    have ma : ∀ s, Go.Proofs.YtdgkgnlilcbggaaDoor.mis ks e (1 + b.size + s) = Go.Proofs.YtdgkgnlilcbggaaDoor.mis ks (e - 1 - b.size) s := fun s => by rw [mis_add, mb, b0, show e - (1 + b.size) = e - 1 - b.size by omega]; omega
    refine ⟨by rw [Tr.size, show 1 + a.size + b.size = 1 + b.size + a.size by omega, ma, a0], fun s hs => ?_⟩
    simp only [Tr.size] at hs
    by_cases h0 : s = 0
    · subst h0; simp [Go.Proofs.YtdgkgnlilcbggaaDoor.mis]
    · by_cases h1 : s - 1 < b.size
      · have := b1 _ h1
        rw [show s = 1 + (s - 1) by omega, mb]; omega
      · rw [show s = 1 + b.size + (s - 1 - b.size) by omega, ma]
        exact a1 _ (by omega)
  | .four a b c d, e, ⟨hd, hz, _, ha, hb, hc, hdd⟩ => by
    obtain ⟨a0, a1⟩ := ha.mis
    obtain ⟨b0, b1⟩ := hb.mis
    obtain ⟨c0, c1⟩ := hc.mis
    obtain ⟨d0, d1⟩ := hdd.mis
    have m1 : Go.Proofs.YtdgkgnlilcbggaaDoor.mis ks e 1 = 4 := by simp [Go.Proofs.YtdgkgnlilcbggaaDoor.mis, hd]
    have md : ∀ s, Go.Proofs.YtdgkgnlilcbggaaDoor.mis ks e (1 + s) = 3 + Go.Proofs.YtdgkgnlilcbggaaDoor.mis ks (e - 1) s := fun s => by rw [mis_add, m1]; omega
    have mc : ∀ s, Go.Proofs.YtdgkgnlilcbggaaDoor.mis ks e (1 + d.size + s) = 2 + Go.Proofs.YtdgkgnlilcbggaaDoor.mis ks (e - 1 - d.size) s := fun s => by rw [mis_add, md, d0, show e - (1 + d.size) = e - 1 - d.size by omega]; omega
    have mb : ∀ s, Go.Proofs.YtdgkgnlilcbggaaDoor.mis ks e (1 + d.size + c.size + s) = 1 + Go.Proofs.YtdgkgnlilcbggaaDoor.mis ks (e - 1 - d.size - c.size) s := fun s => by rw [mis_add, mc, c0, show e - (1 + d.size + c.size) = e - 1 - d.size - c.size by omega]; omega
    have ma : ∀ s, Go.Proofs.YtdgkgnlilcbggaaDoor.mis ks e (1 + d.size + c.size + b.size + s) = Go.Proofs.YtdgkgnlilcbggaaDoor.mis ks (e - 1 - d.size - c.size - b.size) s := fun s => by rw [mis_add, mb, b0, show e - (1 + d.size + c.size + b.size) = e - 1 - d.size - c.size - b.size by omega]; omega
    refine ⟨by rw [Tr.size, show 1 + a.size + b.size + c.size + d.size = 1 + d.size + c.size + b.size + a.size by omega, ma, a0], fun s hs => ?_⟩
    simp only [Tr.size] at hs
    by_cases h0 : s = 0
    · subst h0; simp [Go.Proofs.YtdgkgnlilcbggaaDoor.mis]
    · by_cases h1 : s - 1 < d.size
      · have := d1 _ h1
        rw [show s = 1 + (s - 1) by omega, md]; omega
      · by_cases h2 : s - 1 - d.size < c.size
        · have := c1 _ h2
          rw [show s = 1 + d.size + (s - 1 - d.size) by omega, mc]; omega
        · by_cases h3 : s - 1 - d.size - c.size < b.size
          · have := b1 _ h3
            rw [show s = 1 + d.size + c.size + (s - 1 - d.size - c.size) by omega, mb]; omega
          · rw [show s = 1 + d.size + c.size + b.size + (s - 1 - d.size - c.size - b.size) by omega, ma]
            exact a1 _ (by omega)

/-- How high the stack would be. -/
def hgt (ks : Nat → Int) : Nat → Int
  | 0 => 0
  | i + 1 => hgt ks i + 1 - (ndA ks i : Int)
theorem hgt_stk {ks : Nat → Int} : ∀ i, FullTo ks i → hgt ks i = ((stk ks i).length : Int)
  | 0, _ => rfl
  | i + 1, h => by
    have ih := hgt_stk i (fun j hj => h j (by omega))
    have hn := h i (by omega)
    rw [hgt, ih, stk, List.length_cons, List.length_drop]
    omega
theorem mis_hgt (ks : Nat → Int) (n : Nat) : ∀ s, s ≤ n → mis ks (n - 1) s = 1 - hgt ks n + hgt ks (n - s)
  | 0, _ => by rw [mis, Nat.sub_zero]; omega
  | s + 1, h => by
    have ih := mis_hgt ks n s (by omega)
    have e : n - s = (n - (s + 1)) + 1 := by omega
    rw [mis, ih, e, hgt, show n - 1 - s = n - (s + 1) by omega]
    omega
/-- Nothing is missing for the first time behind all n parts: so none lacks what it needs, and one is left. -/
theorem full_of_mis {ks : Nat → Int} {n : Nat} (hn : 0 < n) (h0 : mis ks (n - 1) n = 0) (h : ∀ s, 0 < s → s < n → mis ks (n - 1) s ≠ 0) : FullTo ks n ∧ (stk ks n).length = 1 := by
  have e1 : hgt ks n = 1 := by
    have := mis_hgt ks n n (Nat.le_refl _)
    rw [h0, Nat.sub_self, hgt] at this
    omega
  have pos : ∀ k, k < n → 1 ≤ hgt ks (n - k) := fun k => by
    induction k with
    | zero => intro _; rw [Nat.sub_zero, e1]; exact Int.le_refl _
    | succ k ih =>
      intro hk
      have i1 := ih (by omega)
      have m := mis_hgt ks n (k + 1) (by omega)
      have m' := h (k + 1) (by omega) hk
      rw [show n - k = (n - (k + 1)) + 1 by omega, hgt] at i1
      omega
  have full : ∀ i, i ≤ n → FullTo ks i := fun i => by
    induction i with
    | zero => intro _; exact FullTo.zero _
    | succ i ih =>
      intro hi
      have f := ih (by omega)
      refine f.succ ?_
      have g := hgt_stk i f
      have p := pos (n - (i + 1)) (by omega)
      rw [show n - (n - (i + 1)) = i + 1 by omega, hgt, g] at p
      omega
  have f := full n (Nat.le_refl _)
  refine ⟨f, ?_⟩
  have := hgt_stk n f
  omega

/-- The depths of the first i parts. -/
def dps (ks : Nat → Int) : Nat → List Int
  | 0 => []
  | i + 1 => dps ks i ++ [(kid ks i).foldl (fun d k => max d ((dps ks i).getD k 0)) 0 + 1]
theorem dps_len (ks : Nat → Int) : ∀ i, (dps ks i).length = i
  | 0 => rfl
  | i + 1 => by rw [dps, List.length_append, dps_len ks i]; rfl
theorem dps_get (ks : Nat → Int) : ∀ (i : Nat) {e : Nat}, e < i → (dps ks i).getD e 0 = (dps ks (e + 1)).getD e 0
  | i + 1, e, h => by
    by_cases he : e = i
    · rw [he]
    · rw [← dps_get ks i (show e < i by omega), dps, List.getD_eq_getElem?_getD, List.getElem?_append_left (by rw [dps_len]; omega), ← List.getD_eq_getElem?_getD]
theorem dps_last (ks : Nat → Int) (e : Nat) : (dps ks (e + 1)).getD e 0 = (kid ks e).foldl (fun d k => max d ((dps ks e).getD k 0)) 0 + 1 := by
  rw [dps, List.getD_eq_getElem?_getD, List.getElem?_append_right (by rw [dps_len]; omega), dps_len, Nat.sub_self]; rfl
theorem Tr.depth_pos (t : Tr) : 0 < t.depth := by cases t <;> simp [Tr.depth]
theorem At.depth {ks : Nat → Int} : ∀ {t : Tr} {e i : Nat}, At ks t e → e < i → (dps ks i).getD e 0 = (t.depth : Int)
  | .leaf, e, i, h, hi => by rw [dps_get ks i hi, dps_last, h.2]; rfl
  | .two a b, e, i, ⟨hd, hz, hk, ha, hb⟩, hi => by
    have za := a.size_pos
    have zb := b.size_pos
    rw [dps_get ks i hi, dps_last, hk]
    simp only [List.foldl]
    rw [ha.depth (show e - 1 - b.size < e by omega), hb.depth (show e - 1 < e by omega)]
    simp only [Tr.depth]
    omega
  | .four a b c d, e, i, ⟨hd, hz, hk, ha, hb, hc, hdd⟩, hi => by
    have za := a.size_pos
    have zb := b.size_pos
    have zc := c.size_pos
    have zd := d.size_pos
    rw [dps_get ks i hi, dps_last, hk]
    simp only [List.foldl]
    rw [ha.depth (show e - 1 - d.size - c.size - b.size < e by omega), hb.depth (show e - 1 - d.size - c.size < e by omega), hc.depth (show e - 1 - d.size < e by omega), hdd.depth (show e - 1 < e by omega)]
    simp only [Tr.depth]
    omega
end Go.Proofs.YtdgkgnlilcbggaaDoor
