/-
  Flows, plain: what a push along growing steps leaves.
-/
import Derived.Test.YtdgkgnlilcbggaaZU
namespace Go.Proofs.Ytdgkgnlilcbggaa
open Go.RowKit
set_option linter.unusedVariables false

/-- The family of a push: heads, what is left, the arcs of each node, how many arcs of each node were tried, the steps. -/
def pushX (fr tg : Nat → Nat) (n m : Nat) (R nx d : List Int) : Nat → List Int := upd (upd (netX fr tg n m R) (n + 2) nx) (n + 3) d
theorem pushX_low {fr tg : Nat → Nat} {n m : Nat} {R nx d : List Int} {i : Nat} (h : i < n + 2) : pushX fr tg n m R nx d i = netX fr tg n m R i := by
  unfold pushX
  rw [upd_far _ _ (by omega), upd_far _ _ (by omega)]
theorem pushX_nx {fr tg : Nat → Nat} {n m : Nat} {R nx d : List Int} : pushX fr tg n m R nx d (n + 2) = nx := by
  unfold pushX
  rw [upd_far _ _ (by omega), upd_same]
theorem pushX_d {fr tg : Nat → Nat} {n m : Nat} {R nx d : List Int} : pushX fr tg n m R nx d (n + 3) = d := by
  unfold pushX
  rw [upd_same]
theorem pushX_setR {fr tg : Nat → Nat} {n m : Nat} {R R' nx d : List Int} : ∀ i, upd (pushX fr tg n m R nx d) 1 R' i = pushX fr tg n m R' nx d i := fun i => by
  by_cases e : i = 1
  · subst e; rw [upd_same, pushX_low (by omega)]; rfl
  · rw [upd_far _ _ e]
    unfold pushX
    by_cases e3 : i = n + 3
    · subst e3; rw [upd_same, upd_same]
    · rw [upd_far _ _ e3, upd_far _ _ e3]
      by_cases e2 : i = n + 2
      · subst e2; rw [upd_same, upd_same]
      · rw [upd_far _ _ e2, upd_far _ _ e2, ← netX_upd fr tg n m R R' i, upd_far _ _ e]
theorem pushX_setN {fr tg : Nat → Nat} {n m : Nat} {R nx nx' d : List Int} : ∀ i, upd (pushX fr tg n m R nx d) (n + 2) nx' i = pushX fr tg n m R nx' d i := fun i => by
  unfold pushX
  by_cases e : i = n + 2
  · subst e; rw [upd_same, upd_far _ _ (by omega), upd_same]
  · rw [upd_far _ _ e]
    by_cases e3 : i = n + 3
    · subst e3; rw [upd_same, upd_same]
    · rw [upd_far _ _ e3, upd_far _ _ e3, upd_far _ _ e, upd_far _ _ e]

/-- How many arcs of each node were tried: none more than there are. -/
structure TriedOk (n : Nat) (fr tg : Nat → Nat) (m : Nat) (nx : List Int) : Prop where
  len : nx.length = n
  lo : ∀ u, u < n → 0 ≤ nx.getD u 0
  hi : ∀ u, u < n → nx.getD u 0 ≤ (((arcL fr tg n m).getD u []).length : Int)
theorem TriedOk.next {n : Nat} {fr tg : Nat → Nat} {m : Nat} {nx : List Int} {i : Nat} (h : TriedOk n fr tg m nx) (hi : i < n) (hlt : nx.getD i 0 < (((arcL fr tg n m).getD i []).length : Int)) : TriedOk n fr tg m (nx.set i (nx.getD i 0 + 1)) := by
  have hg : ∀ v, (nx.set i (nx.getD i 0 + 1)).getD v 0 = if i = v then nx.getD i 0 + 1 else nx.getD v 0 := fun v => getD_set _ _ _ _ (by rw [h.len]; exact hi)
  refine ⟨by rw [List.length_set]; exact h.len, fun u hu => ?_, fun u hu => ?_⟩
  · rw [hg]
    have h1 := h.lo i hi
    have h2 := h.lo u hu
    split <;> omega
  · rw [hg]
    have h2 := h.hi u hu
    split
    · rename_i e; subst e; omega
    · exact h2
theorem TriedOk.zero (n : Nat) (fr tg : Nat → Nat) (m : Nat) : TriedOk n fr tg m (List.replicate n 0) := by
  have hg : ∀ v, v < n → (List.replicate n (0 : Int)).getD v 0 = 0 := fun v hv => by simp [List.getD_eq_getElem?_getD, hv]
  exact ⟨by simp, fun u hu => by rw [hg u hu]; omega, fun u hu => by rw [hg u hu]; omega⟩
theorem Dead.zero (n : Nat) (fr tg : Nat → Nat) (m : Nat) (R d : List Int) : Dead n fr tg m R d (List.replicate n 0) := fun u hu j hj => by
  have : (List.replicate n (0 : Int)).getD u 0 = 0 := by simp [List.getD_eq_getElem?_getD, hu]
  omega
/-- One arc more of node i is done with: it leads no farther, or to a node that is done with. -/
theorem Dead.next {n : Nat} {fr tg : Nat → Nat} {m : Nat} {R d nx : List Int} {i a : Nat} (h : Dead n fr tg m R d nx) (hl : nx.length = n) (hi : i < n) (h0 : 0 ≤ nx.getD i 0) (ha : ((arcL fr tg n m).getD i []).getD (nx.getD i 0).toNat 0 = (a : Int))
    (hd : 0 < R.getD a 0 → d.getD (hdA fr tg a) 0 = d.getD i 0 + 1 → hdA fr tg a ≠ n - 1 ∧ (((arcL fr tg n m).getD (hdA fr tg a) []).length : Int) ≤ nx.getD (hdA fr tg a) 0) : Dead n fr tg m R d (nx.set i (nx.getD i 0 + 1)) := by
  have hg : ∀ v, (nx.set i (nx.getD i 0 + 1)).getD v 0 = if i = v then nx.getD i 0 + 1 else nx.getD v 0 := fun v => getD_set _ _ _ _ (by rw [hl]; exact hi)
  have mono : ∀ v, nx.getD v 0 ≤ (nx.set i (nx.getD i 0 + 1)).getD v 0 := fun v => by
    rw [hg]
    split
    · rename_i e; subst e; omega
    · omega
  intro u hu j hj b hb hR hdb
  rw [hg] at hj
  by_cases e : i = u
  · subst e
    rw [if_pos rfl] at hj
    by_cases c : (j : Int) < nx.getD i 0
    · obtain ⟨f1, f2⟩ := h i hu j c b hb hR hdb
      exact ⟨f1, Int.le_trans f2 (mono _)⟩
    · have hj' : j = (nx.getD i 0).toNat := by omega
      subst hj'
      have : b = a := by rw [ha] at hb; omega
      subst this
      obtain ⟨f1, f2⟩ := hd hR hdb
      exact ⟨f1, Int.le_trans f2 (mono _)⟩
  · rw [if_neg e] at hj
    obtain ⟨f1, f2⟩ := h u hu j hj b hb hR hdb
    exact ⟨f1, Int.le_trans f2 (mono _)⟩

/-- What a push from node i leaves: s has flowed from i to the sink. -/
structure Pushed (n : Nat) (fr tg : Nat → Nat) (cp : Nat → Int) (m : Nat) (d Rd : List Int) (i : Nat) (amount : Int) (R nx : List Int) (s : Int) (R' nx' : List Int) : Prop where
  lo : 0 ≤ s
  hi : s ≤ amount
  res : Res cp m R'
  flow : ∀ p : Nat → Bool, net fr tg m R' p = net fr tg m R p + s * (io (p i) - io (p (n - 1)))
  tried : TriedOk n fr tg m nx'
  none : s = 0 → R' = R ∧ Dead n fr tg m Rd d nx' ∧ (((arcL fr tg n m).getD i []).length : Int) ≤ nx'.getD i 0 ∧ i ≠ n - 1
  far : ∀ a, a < 2 * m → (d.getD (tlA fr tg a) 0 < d.getD i 0 ∨ d.getD (hdA fr tg a) 0 < d.getD i 0) → R'.getD a 0 = R.getD a 0
  same : ∀ u, u < n → d.getD u 0 < d.getD i 0 → nx'.getD u 0 = nx.getD u 0
theorem pushed_sink {n : Nat} {fr tg : Nat → Nat} {cp : Nat → Int} {m : Nat} {d Rd : List Int} {amount : Int} {R nx : List Int} (h0 : 0 < amount) (hr : Res cp m R) (ht : TriedOk n fr tg m nx) : Pushed n fr tg cp m d Rd (n - 1) amount R nx amount R nx :=
  ⟨by omega, by omega, hr, fun p => by rw [Int.sub_self, Int.mul_zero, Int.add_zero], ht, fun h => by omega, fun _ _ _ => rfl, fun _ _ _ => rfl⟩
theorem pushed_none {n : Nat} {fr tg : Nat → Nat} {cp : Nat → Int} {m : Nat} {d Rd : List Int} {i : Nat} {amount : Int} {R nx nx' : List Int} (h0 : 0 ≤ amount) (hr : Res cp m R) (ht : TriedOk n fr tg m nx') (hD : Dead n fr tg m Rd d nx') (hn : (((arcL fr tg n m).getD i []).length : Int) ≤ nx'.getD i 0) (hi : i ≠ n - 1) (hs : ∀ u, u < n → d.getD u 0 < d.getD i 0 → nx'.getD u 0 = nx.getD u 0) : Pushed n fr tg cp m d Rd i amount R nx 0 R nx' :=
  ⟨by omega, h0, hr, fun p => by rw [Int.zero_mul, Int.add_zero], ht, fun _ => ⟨rfl, hD, hn, hi⟩, fun _ _ _ => rfl, hs⟩
/-- What was pushed on from the head of an arc has flowed along the arc, too. -/
theorem pushed_arc {n : Nat} {fr tg : Nat → Nat} {cp : Nat → Int} {m : Nat} {d Rd : List Int} {i a : Nat} {amount : Int} {R nx nx1 R' nx' : List Int} {s : Int} (ha : a < 2 * m) (ht : tlA fr tg a = i) (hd : d.getD (hdA fr tg a) 0 = d.getD i 0 + 1) (hs0 : 0 < s)
    (h : Pushed n fr tg cp m d Rd (hdA fr tg a) (min amount (R.getD a 0)) R nx1 s R' nx') (hsame : ∀ u, u < n → d.getD u 0 < d.getD i 0 → nx1.getD u 0 = nx.getD u 0) : Pushed n fr tg cp m d Rd i amount R nx s (sendA R' a s) nx' := by
  have hh := h.hi
  have hra : R'.getD a 0 = R.getD a 0 := h.far a ha (.inl (by rw [ht]; omega))
  refine ⟨h.lo, by omega, send_res h.res ha h.lo (by omega), fun p => ?_, h.tried, fun e => by omega, fun b hb hc => ?_, fun u hu hlt => ?_⟩
  · rw [send_net h.res.len ha, h.flow, ht, Int.mul_sub, Int.mul_sub, Int.mul_sub]
    omega
  · rw [send_far h.res.len ha]
    · exact h.far b hb (by omega)
    · intro e
      subst e
      rw [ht] at hc
      omega
    · intro e
      subst e
      rw [tl_rev, hd_rev, ht] at hc
      omega
  · rw [h.same u hu (by omega)]
    exact hsame u hu hlt
end Go.Proofs.Ytdgkgnlilcbggaa
