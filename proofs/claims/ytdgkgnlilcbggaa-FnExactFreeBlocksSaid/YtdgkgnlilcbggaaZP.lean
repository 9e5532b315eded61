/-
  Flows, plain: what is left in a network, what flows out of a set of nodes, cuts; two full runs agree.
-/
import Derived.Below
namespace Go.Proofs.Ytdgkgnlilcbggaa
set_option linter.unusedVariables false

def sumZ (f : Nat → Int) : Nat → Int
  | 0 => 0
  | k + 1 => sumZ f k + f k
theorem sumZ_le {f g : Nat → Int} : ∀ {n : Nat}, (∀ k, k < n → f k ≤ g k) → sumZ f n ≤ sumZ g n
  | 0, _ => Int.le_refl _
  | n + 1, h => Int.add_le_add (sumZ_le fun k hk => h k (by omega)) (h n (by omega))
theorem sumZ_congr {f g : Nat → Int} : ∀ {n : Nat}, (∀ k, k < n → f k = g k) → sumZ f n = sumZ g n
  | 0, _ => rfl
  | n + 1, h => by rw [sumZ, sumZ, sumZ_congr fun k hk => h k (by omega), h n (by omega)]
theorem sumZ_tight {f g : Nat → Int} : ∀ {n : Nat}, (∀ k, k < n → f k ≤ g k) → sumZ f n = sumZ g n → ∀ k, k < n → f k = g k
  | 0, _, _, k, hk => by omega
  | n + 1, h, e, k, hk => by
    have a := sumZ_le (n := n) fun k hk => h k (by omega)
    have b := h n (by omega)
    simp only [sumZ] at e
    by_cases hn : k = n
    · subst hn; omega
    · exact sumZ_tight (n := n) (fun k hk => h k (by omega)) (by omega) k (by omega)
theorem sumZ_bound {f : Nat → Int} {c : Int} (hc : 0 ≤ c) : ∀ {n : Nat}, (∀ k, k < n → f k ≤ c) → sumZ f n ≤ n * c
  | 0, _ => by simp [sumZ]
  | n + 1, h => by
    have a := sumZ_bound hc (n := n) fun k hk => h k (by omega)
    have b := h n (by omega)
    simp only [sumZ]
    rw [Int.natCast_add, Int.add_mul]
    simp
    omega
theorem sumZ_zero {f : Nat → Int} : ∀ {n : Nat}, (∀ k, k < n → f k = 0) → sumZ f n = 0
  | 0, _ => rfl
  | n + 1, h => by rw [sumZ, sumZ_zero fun k hk => h k (by omega), h n (by omega)]; rfl
/-- One term has turned. -/
theorem sumZ_one {f g : Nat → Int} {j : Nat} : ∀ {n : Nat}, j < n → (∀ k, k < n → k ≠ j → f k = g k) → sumZ g n = sumZ f n + (g j - f j)
  | n + 1, hj, h => by
    simp only [sumZ]
    by_cases e : j = n
    · subst e
      rw [sumZ_congr (f := f) (g := g) fun k hk => h k (by omega) (by omega)]
      omega
    · rw [sumZ_one (n := n) (by omega) fun k hk hne => h k (by omega) hne, h n (by omega) (by omega)]
      omega

def io (b : Bool) : Int := if b then 1 else 0
theorem io_t : io true = 1 := rfl
theorem io_f : io false = 0 := rfl

/-- Arc 2 k leads along edge k, arc 2 k + 1 back. -/
def tlA (fr to : Nat → Nat) (a : Nat) : Nat := if a % 2 = 0 then fr (a / 2) else to (a / 2)
def hdA (fr to : Nat → Nat) (a : Nat) : Nat := if a % 2 = 0 then to (a / 2) else fr (a / 2)
def revA (a : Nat) : Nat := if a % 2 = 0 then a + 1 else a - 1
theorem revA_lt {a m : Nat} (h : a < 2 * m) : revA a < 2 * m := by unfold revA; split <;> omega
theorem revA_ne (a : Nat) : revA a ≠ a := by unfold revA; split <;> omega
theorem revA_rev (a : Nat) : revA (revA a) = a := by
  unfold revA
  by_cases h : a % 2 = 0
  · rw [if_pos h, if_neg (by omega)]; omega
  · rw [if_neg h, if_pos (by omega)]; omega
theorem hd_rev (fr to : Nat → Nat) (a : Nat) : hdA fr to (revA a) = tlA fr to a := by
  unfold hdA tlA revA
  by_cases h : a % 2 = 0
  · rw [if_pos h, if_neg (by omega), if_pos h]; congr 1; omega
  · rw [if_neg h, if_pos (by omega), if_neg h]; congr 1; omega
theorem tl_rev (fr to : Nat → Nat) (a : Nat) : tlA fr to (revA a) = hdA fr to a := by
  rw [← hd_rev, revA_rev]

/-- What is left: of each edge what can still flow along it, and what can be taken back. -/
structure Res (cp : Nat → Int) (m : Nat) (R : List Int) : Prop where
  len : R.length = 2 * m
  lo : ∀ a, a < 2 * m → 0 ≤ R.getD a 0
  sum : ∀ k, k < m → R.getD (2 * k) 0 + R.getD (2 * k + 1) 0 = cp k

/-- What flows out of the nodes p, minus what flows in. -/
def net (fr to : Nat → Nat) (m : Nat) (R : List Int) (p : Nat → Bool) : Int := sumZ (fun k => R.getD (2 * k + 1) 0 * (io (p (fr k)) - io (p (to k)))) m
/-- The capacity out of the nodes p. -/
def outC (fr to : Nat → Nat) (cp : Nat → Int) (m : Nat) (p : Nat → Bool) : Int := sumZ (fun k => cp k * io (p (fr k) && !p (to k))) m
/-- No arc with room leads out of p. -/
def Shut (fr to : Nat → Nat) (m : Nat) (R : List Int) (p : Nat → Bool) : Prop := ∀ a, a < 2 * m → p (tlA fr to a) = true → 0 < R.getD a 0 → p (hdA fr to a) = true

theorem term_le {cp : Nat → Int} {m : Nat} {R : List Int} (h : Res cp m R) {k : Nat} (hk : k < m) (a b : Bool) : R.getD (2 * k + 1) 0 * (io a - io b) ≤ cp k * io (a && !b) := by
  have h0 := h.lo (2 * k) (by omega)
  have h1 := h.lo (2 * k + 1) (by omega)
  have h2 := h.sum k hk
  generalize R.getD (2 * k + 1) 0 = x at *
  generalize R.getD (2 * k) 0 = y at *
  cases a <;> cases b <;> simp [io] <;> omega
theorem net_le {fr to : Nat → Nat} {cp : Nat → Int} {m : Nat} {R : List Int} (h : Res cp m R) (p : Nat → Bool) : net fr to m R p ≤ outC fr to cp m p :=
  sumZ_le fun k hk => term_le h hk _ _
theorem net_shut {fr to : Nat → Nat} {cp : Nat → Int} {m : Nat} {R : List Int} (h : Res cp m R) {p : Nat → Bool} (hs : Shut fr to m R p) : net fr to m R p = outC fr to cp m p :=
  sumZ_congr fun k hk => by
    have h0 := h.lo (2 * k) (by omega)
    have h1 := h.lo (2 * k + 1) (by omega)
    have h2 := h.sum k hk
    have s0 := hs (2 * k) (by omega)
    have s1 := hs (2 * k + 1) (by omega)
    simp only [tlA, hdA, show 2 * k % 2 = 0 by omega, show 2 * k / 2 = k by omega, show ¬ (2 * k + 1) % 2 = 0 by omega, show (2 * k + 1) / 2 = k by omega, if_true, if_false] at s0 s1
    generalize R.getD (2 * k + 1) 0 = x at *
    generalize R.getD (2 * k) 0 = y at *
    cases ha : p (fr k) <;> cases hb : p (to k) <;> simp [io, ha, hb] at s0 s1 ⊢ <;> omega
theorem shut_of_net {fr to : Nat → Nat} {cp : Nat → Int} {m : Nat} {R : List Int} (h : Res cp m R) {p : Nat → Bool} (he : net fr to m R p = outC fr to cp m p) : Shut fr to m R p := by
  have ht := sumZ_tight (fun k hk => term_le h hk (p (fr k)) (p (to k))) he
  intro a ha h1 h2
  have hk : a / 2 < m := by omega
  have this : R.getD (2 * (a / 2) + 1) 0 * (io (p (fr (a / 2))) - io (p (to (a / 2)))) = cp (a / 2) * io (p (fr (a / 2)) && !p (to (a / 2))) := ht (a / 2) hk
  have g0 := h.lo (2 * (a / 2)) (by omega)
  have g1 := h.lo (2 * (a / 2) + 1) (by omega)
  have g2 := h.sum (a / 2) hk
  by_cases e : a % 2 = 0
  · have ea : a = 2 * (a / 2) := by omega
    simp only [tlA, hdA, e, if_true] at h1 ⊢
    cases hb : p (to (a / 2))
    · rw [h1, hb] at this
      rw [ea] at h2
      generalize R.getD (2 * (a / 2) + 1) 0 = x at *
      generalize R.getD (2 * (a / 2)) 0 = y at *
      simp [io] at this
      omega
    · rfl
  · have ea : a = 2 * (a / 2) + 1 := by omega
    simp only [tlA, hdA, e, if_false] at h1 ⊢
    cases hb : p (fr (a / 2))
    · rw [h1, hb] at this
      rw [ea] at h2
      generalize R.getD (2 * (a / 2) + 1) 0 = x at *
      generalize R.getD (2 * (a / 2)) 0 = y at *
      simp [io] at this
      omega
    · rfl

/-- A full run: v has flowed from node 0 to node z, and nothing more can; S: the nodes that are still reached. -/
structure Full (n : Nat) (fr to : Nat → Nat) (cp : Nat → Int) (m : Nat) (v : Int) (S : Nat → Bool) : Prop where
  ex : ∃ R, Res cp m R ∧ (∀ p : Nat → Bool, p 0 = true → p (n - 1) = false → net fr to m R p = v) ∧ S 0 = true ∧ S (n - 1) = false ∧ Shut fr to m R S ∧ (∀ T, T 0 = true → Shut fr to m R T → ∀ u, u < n → S u = true → T u = true)

theorem full_uniq {n : Nat} {fr to : Nat → Nat} {cp : Nat → Int} {m : Nat} {v v' : Int} {S S' : Nat → Bool} (h : Full n fr to cp m v S) (h' : Full n fr to cp m v' S') : v = v' ∧ ∀ u, u < n → S u = S' u := by
  obtain ⟨R, hr, hv, h0, h1, hs, hl⟩ := h.ex
  obtain ⟨R', hr', hv', h0', h1', hs', hl'⟩ := h'.ex
  have a1 := hv S h0 h1
  have a2 := hv S' h0' h1'
  have b1 := hv' S h0 h1
  have b2 := hv' S' h0' h1'
  have c1 := net_shut hr hs
  have c2 := net_shut hr' hs'
  have d1 := net_le (fr := fr) (to := to) hr S'
  have d2 := net_le (fr := fr) (to := to) hr' S
  have e : v = v' := by omega
  refine ⟨e, fun u hu => ?_⟩
  have f1 := shut_of_net (fr := fr) (to := to) (p := S') hr (by omega)
  have f2 := shut_of_net (fr := fr) (to := to) (p := S) hr' (by omega)
  have g1 := hl S' h0' f1 u hu
  have g2 := hl' S h0 f2 u hu
  cases hx : S u <;> cases hy : S' u <;> simp [hx, hy] at g1 g2 ⊢

/-- d flows along arc a. -/
def sendA (R : List Int) (a : Nat) (d : Int) : List Int := (R.set a (R.getD a 0 - d)).set (revA a) (R.getD (revA a) 0 + d)
theorem getD_set (R : List Int) (i j : Nat) (x : Int) (hi : i < R.length) : (R.set i x).getD j 0 = if i = j then x else R.getD j 0 := by
  simp only [List.getD_eq_getElem?_getD, List.getElem?_set]
  by_cases e : i = j
  · subst e; simp [hi]
  · simp [e]
theorem send_len (R : List Int) (a : Nat) (d : Int) : (sendA R a d).length = R.length := by simp [sendA]
theorem send_at {R : List Int} {m : Nat} (hl : R.length = 2 * m) {a : Nat} (ha : a < 2 * m) (d : Int) (b : Nat) : (sendA R a d).getD b 0 = if b = revA a then R.getD b 0 + d else if b = a then R.getD b 0 - d else R.getD b 0 := by
  have := revA_ne a
  have hr := revA_lt ha
  unfold sendA
  rw [getD_set _ _ _ _ (by simp; omega), getD_set _ _ _ _ (by omega)]
  by_cases e1 : revA a = b
  · subst e1; simp
  · rw [if_neg e1, if_neg (Ne.symm e1)]
    by_cases e2 : a = b
    · subst e2; simp
    · rw [if_neg e2, if_neg (Ne.symm e2)]
theorem send_far {R : List Int} {m : Nat} (hl : R.length = 2 * m) {a : Nat} (ha : a < 2 * m) (d : Int) {b : Nat} (h1 : b ≠ a) (h2 : b ≠ revA a) : (sendA R a d).getD b 0 = R.getD b 0 := by
  rw [send_at hl ha, if_neg h2, if_neg h1]
theorem send_res {cp : Nat → Int} {m : Nat} {R : List Int} (h : Res cp m R) {a : Nat} (ha : a < 2 * m) {d : Int} (h0 : 0 ≤ d) (h1 : d ≤ R.getD a 0) : Res cp m (sendA R a d) := by
  have hr := revA_lt ha
  refine ⟨by rw [send_len, h.len], fun b hb => ?_, fun k hk => ?_⟩
  · have := h.lo b hb
    rw [send_at h.len ha]
    split
    · omega
    · split
      · rename_i e; subst e; omega
      · exact this
  · have := h.sum k hk
    rw [send_at h.len ha, send_at h.len ha]
    unfold revA
    by_cases e : a % 2 = 0
    · rw [if_pos e]
      by_cases e2 : a = 2 * k
      · subst e2
        rw [if_neg (by omega), if_pos rfl, if_pos rfl]
        omega
      · rw [if_neg (by omega), if_neg (by omega), if_neg (by omega), if_neg (by omega)]
        exact this
    · rw [if_neg e]
      by_cases e2 : a = 2 * k + 1
      · subst e2
        rw [if_pos (by omega), if_neg (by omega), if_pos rfl]
        omega
      · rw [if_neg (by omega), if_neg (by omega), if_neg (by omega), if_neg (by omega)]
        exact this
theorem send_net {fr to : Nat → Nat} {m : Nat} {R : List Int} (hl : R.length = 2 * m) {a : Nat} (ha : a < 2 * m) (d : Int) (p : Nat → Bool) : net fr to m (sendA R a d) p = net fr to m R p + d * (io (p (tlA fr to a)) - io (p (hdA fr to a))) := by
  unfold net
  have hk : a / 2 < m := by omega
  rw [sumZ_one (f := fun k => R.getD (2 * k + 1) 0 * (io (p (fr k)) - io (p (to k)))) (j := a / 2) hk fun k hk hne => by
    show _ = (sendA R a d).getD (2 * k + 1) 0 * _
    rw [send_far hl ha _ (by omega) (by unfold revA; split <;> omega)]]
  have : (sendA R a d).getD (2 * (a / 2) + 1) 0 * (io (p (fr (a / 2))) - io (p (to (a / 2)))) - R.getD (2 * (a / 2) + 1) 0 * (io (p (fr (a / 2))) - io (p (to (a / 2)))) = d * (io (p (tlA fr to a)) - io (p (hdA fr to a))) := by
    rw [send_at hl ha]
    by_cases e : a % 2 = 0
    · rw [if_pos (by unfold revA; rw [if_pos e]; omega)]
      simp only [tlA, hdA, e, if_true]
      rw [← Int.sub_mul]
      congr 1
      omega
    · rw [if_neg (by unfold revA; rw [if_neg e]; omega), if_pos (by omega)]
      simp only [tlA, hdA, e, if_false]
      rw [← Int.sub_mul, show R.getD (2 * (a / 2) + 1) 0 - d - R.getD (2 * (a / 2) + 1) 0 = -d by omega, Int.neg_mul, ← Int.mul_neg]
      congr 1
      omega
  exact congrArg (fun z => net fr to m R p + z) this
/-- The arcs of each node, of the first k edges. -/
def arcL (fr to : Nat → Nat) (n : Nat) : Nat → List (List Int)
  | 0 => List.replicate n []
  | k + 1 => ((arcL fr to n k).set (fr k) ((arcL fr to n k).getD (fr k) [] ++ [((2 * k : Nat) : Int)])).set (to k) ((((arcL fr to n k).set (fr k) ((arcL fr to n k).getD (fr k) [] ++ [((2 * k : Nat) : Int)])).getD (to k) []) ++ [((2 * k + 1 : Nat) : Int)])
def hdL (fr to : Nat → Nat) : Nat → List Int
  | 0 => []
  | k + 1 => hdL fr to k ++ [(to k : Int), (fr k : Int)]
theorem hdL_len (fr to : Nat → Nat) : ∀ k, (hdL fr to k).length = 2 * k
  | 0 => rfl
  | k + 1 => by unfold hdL; rw [List.length_append, hdL_len fr to k]; simp; omega
theorem hdL_at (fr to : Nat → Nat) : ∀ {k a : Nat}, a < 2 * k → (hdL fr to k).getD a 0 = (hdA fr to a : Int)
  | k + 1, a, h => by
    have hl := hdL_len fr to k
    unfold hdL
    simp only [List.getD_eq_getElem?_getD]
    by_cases e : a < 2 * k
    · rw [List.getElem?_append_left (by omega)]
      have := hdL_at fr to e
      simpa only [List.getD_eq_getElem?_getD] using this
    · rw [List.getElem?_append_right (by omega), hl]
      by_cases e2 : a = 2 * k
      · subst e2
        simp [hdA]
      · obtain rfl : a = 2 * k + 1 := by omega
        rw [show 2 * k + 1 - 2 * k = 1 by omega]
        simp [hdA, show (2 * k + 1) / 2 = k by omega]
theorem arcL_len (fr to : Nat → Nat) (n : Nat) : ∀ k, (arcL fr to n k).length = n
  | 0 => by simp [arcL]
  | k + 1 => by unfold arcL; simp [arcL_len fr to n k]
theorem getL_set (L : List (List Int)) (i j : Nat) (x : List Int) (hi : i < L.length) : (L.set i x).getD j [] = if i = j then x else L.getD j [] := by
  simp only [List.getD_eq_getElem?_getD, List.getElem?_set]
  by_cases e : i = j
  · subst e; simp [hi]
  · simp [e]
theorem arcL_mem (fr to : Nat → Nat) (n : Nat) (u : Nat) (x : Int) : ∀ k, (∀ j, j < k → fr j < n ∧ to j < n) → (x ∈ (arcL fr to n k).getD u [] ↔ u < n ∧ ∃ a, a < 2 * k ∧ x = (a : Int) ∧ tlA fr to a = u)
  | 0, _ => by
    constructor
    · intro h
      unfold arcL at h
      simp only [List.getD_eq_getElem?_getD, List.getElem?_replicate] at h
      by_cases hu : u < n <;> simp [hu] at h
    · rintro ⟨_, a, ha, _⟩; omega
  | k + 1, hn => by
    have ih := arcL_mem fr to n u x k fun j hj => hn j (by omega)
    obtain ⟨h1, h2⟩ := hn k (by omega)
    have hl := arcL_len fr to n k
    unfold arcL
    rw [getL_set _ _ _ _ (by simp; omega), getL_set _ (fr k) (to k) _ (by omega), getL_set _ (fr k) u _ (by omega)]
    have hT0 : tlA fr to (2 * k) = fr k := by simp [tlA]
    have hT1 : tlA fr to (2 * k + 1) = to k := by simp [tlA, show (2 * k + 1) / 2 = k by omega]
    have key : (u < n ∧ ∃ a, a < 2 * (k + 1) ∧ x = (a : Int) ∧ tlA fr to a = u) ↔ ((x ∈ (arcL fr to n k).getD u [] ∨ (fr k = u ∧ x = ((2 * k : Nat) : Int))) ∨ (to k = u ∧ x = ((2 * k + 1 : Nat) : Int))) := by
      rw [ih]
      constructor
      · rintro ⟨hu, a, ha, e1, e2⟩
        by_cases c1 : a < 2 * k
        · exact .inl (.inl ⟨hu, a, c1, e1, e2⟩)
        · by_cases c2 : a = 2 * k
          · subst c2; exact .inl (.inr ⟨hT0 ▸ e2, e1⟩)
          · obtain rfl : a = 2 * k + 1 := by omega
            exact .inr ⟨hT1 ▸ e2, e1⟩
      · rintro ((⟨hu, a, ha, e1, e2⟩ | ⟨e1, e2⟩) | ⟨e1, e2⟩)
        · exact ⟨hu, a, by omega, e1, e2⟩
        · exact ⟨by omega, 2 * k, by omega, e2, by rw [hT0]; exact e1⟩
        · exact ⟨by omega, 2 * k + 1, by omega, e2, by rw [hT1]; exact e1⟩
    rw [key]
    by_cases c1 : to k = u
    · rw [if_pos c1]
      subst c1
      by_cases c2 : fr k = to k
      · rw [if_pos c2, c2]
        simp only [List.mem_append, List.mem_singleton, true_and]
      · rw [if_neg c2]
        simp only [List.mem_append, List.mem_singleton, c2, false_and, or_false, true_and]
    · rw [if_neg c1]
      by_cases c2 : fr k = u
      · rw [if_pos c2]
        subst c2
        simp only [List.mem_append, List.mem_singleton, c1, false_and, or_false, true_and]
      · rw [if_neg c2]
        simp only [c1, c2, false_and, or_false]
theorem arcL_slen (fr to : Nat → Nat) (n u : Nat) : ∀ k, (∀ j, j < k → fr j < n ∧ to j < n) → ((arcL fr to n k).getD u []).length ≤ 2 * k
  | 0, _ => by
    unfold arcL
    simp only [List.getD_eq_getElem?_getD, List.getElem?_replicate]
    by_cases hu : u < n <;> simp [hu]
  | k + 1, hn => by
    have ih := arcL_slen fr to n u k fun j hj => hn j (by omega)
    obtain ⟨h1, h2⟩ := hn k (by omega)
    have hl := arcL_len fr to n k
    unfold arcL
    rw [getL_set _ _ _ _ (by simp; omega), getL_set _ (fr k) (to k) _ (by omega), getL_set _ (fr k) u _ (by omega)]
    generalize (arcL fr to n k) = L at *
    by_cases c1 : to k = u
    · rw [if_pos c1]
      subst c1
      by_cases c2 : fr k = to k
      · rw [if_pos c2, List.length_append, List.length_append, c2, List.length_singleton, List.length_singleton]; omega
      · rw [if_neg c2, List.length_append, List.length_singleton]; omega
    · rw [if_neg c1]
      by_cases c2 : fr k = u
      · rw [if_pos c2, c2, List.length_append, List.length_singleton]; omega
      · rw [if_neg c2]; omega

/-- d: how many arcs with room lead to each node from node 0; -1 where none do. -/
structure Lev (n : Nat) (fr to : Nat → Nat) (m : Nat) (R d : List Int) : Prop where
  len : d.length = n
  src : d.getD 0 0 = 0
  lo : ∀ v, v < n → -1 ≤ d.getD v 0
  hi : ∀ v, v < n → d.getD v 0 < n
  only : ∀ v, v < n → d.getD v 0 = 0 → v = 0
  pred : ∀ v, v < n → 0 < d.getD v 0 → ∃ a, a < 2 * m ∧ hdA fr to a = v ∧ 0 < R.getD a 0 ∧ d.getD (tlA fr to a) 0 + 1 = d.getD v 0
  clos : ∀ a, a < 2 * m → 0 ≤ d.getD (tlA fr to a) 0 → 0 < R.getD a 0 → 0 ≤ d.getD (hdA fr to a) 0

/-- The ends of all edges are nodes. -/
def EndsIn (n : Nat) (fr to : Nat → Nat) (m : Nat) : Prop := ∀ k, k < m → fr k < n ∧ to k < n
theorem EndsIn.tl {n : Nat} {fr to : Nat → Nat} {m a : Nat} (h : EndsIn n fr to m) (ha : a < 2 * m) : tlA fr to a < n := by
  have := h (a / 2) (by omega)
  unfold tlA; split <;> omega
theorem EndsIn.hd {n : Nat} {fr to : Nat → Nat} {m a : Nat} (h : EndsIn n fr to m) (ha : a < 2 * m) : hdA fr to a < n := by
  have := h (a / 2) (by omega)
  unfold hdA; split <;> omega

theorem lev_least {n : Nat} {fr to : Nat → Nat} {m : Nat} {R d : List Int} (hE : EndsIn n fr to m) (h : Lev n fr to m R d) {T : Nat → Bool} (h0 : T 0 = true) (hs : Shut fr to m R T) : ∀ (s : Nat) (v : Nat), v < n → d.getD v 0 = s → T v = true
  | 0, v, hv, hd => by rw [h.only v hv hd]; exact h0
  | s + 1, v, hv, hd => by
    obtain ⟨a, ha, e1, e2, e3⟩ := h.pred v hv (by omega)
    rw [← e1]
    exact hs a ha (lev_least hE h h0 hs s _ (hE.tl ha) (by omega)) e2

theorem full_of_lev {n : Nat} {fr to : Nat → Nat} {cp : Nat → Int} {m : Nat} {R d : List Int} {v : Int} (hE : EndsIn n fr to m) (hr : Res cp m R) (hv : ∀ p : Nat → Bool, p 0 = true → p (n - 1) = false → net fr to m R p = v) (h : Lev n fr to m R d) (hz : d.getD (n - 1) 0 < 0) : Full n fr to cp m v (fun u => decide (0 ≤ d.getD u 0)) :=
  ⟨R, hr, hv, decide_eq_true (by rw [h.src]; omega), decide_eq_false (by omega), fun a ha h1 h2 =>
    decide_eq_true (h.clos a ha (of_decide_eq_true h1) h2), fun T h0 hs u hu hu' => by
    have h1 : 0 ≤ d.getD u 0 := of_decide_eq_true hu'
    obtain ⟨s, hs'⟩ := Int.eq_ofNat_of_zero_le h1
    exact lev_least hE h h0 hs s u hu hs'⟩

/-- The nodes that a search has found: q in their order, d their numbers of steps; P: the arcs that were tried. -/
structure Bfs (n : Nat) (fr to : Nat → Nat) (m : Nat) (R d q : List Int) (P : Nat → Prop) : Prop where
  len : d.length = n
  src : d.getD 0 0 = 0
  lo : ∀ v, v < n → -1 ≤ d.getD v 0
  only : ∀ v, v < n → d.getD v 0 = 0 → v = 0
  pred : ∀ v, v < n → 0 < d.getD v 0 → ∃ a, a < 2 * m ∧ hdA fr to a = v ∧ 0 < R.getD a 0 ∧ d.getD (tlA fr to a) 0 + 1 = d.getD v 0 ∧ 0 ≤ d.getD (tlA fr to a) 0
  q0 : q.getD 0 0 = 0 ∧ 0 < q.length
  qok : ∀ j, j < q.length → ∃ u, u < n ∧ q.getD j 0 = (u : Int) ∧ 0 ≤ d.getD u 0 ∧ d.getD u 0 ≤ j
  inq : ∀ v, v < n → 0 ≤ d.getD v 0 → ∃ j, j < q.length ∧ q.getD j 0 = (v : Int)
  cnt : sumZ (fun v => io (decide (0 ≤ d.getD v 0))) n = q.length
  clos : ∀ a, a < 2 * m → P a → 0 < R.getD a 0 → 0 ≤ d.getD (hdA fr to a) 0
theorem Bfs.qlen {n : Nat} {fr to : Nat → Nat} {m : Nat} {R d q : List Int} {P : Nat → Prop} (h : Bfs n fr to m R d q P) : q.length ≤ n := by
  have := sumZ_bound (f := fun v => io (decide (0 ≤ d.getD v 0))) (c := 1) (by omega) (n := n) fun k _ => by
    show io _ ≤ 1
    generalize decide (0 ≤ d.getD k 0) = b
    cases b <;> simp [io]
  rw [h.cnt] at this
  omega
theorem Bfs.mono {n : Nat} {fr to : Nat → Nat} {m : Nat} {R d q : List Int} {P P' : Nat → Prop} (h : Bfs n fr to m R d q P) (hp : ∀ a, a < 2 * m → P' a → P a) : Bfs n fr to m R d q P' :=
  ⟨h.len, h.src, h.lo, h.only, h.pred, h.q0, h.qok, h.inq, h.cnt, fun a ha hP => h.clos a ha (hp a ha hP)⟩
theorem getD_snoc (q : List Int) (x : Int) (j : Nat) : (q ++ [x]).getD j 0 = if j < q.length then q.getD j 0 else if j = q.length then x else 0 := by
  simp only [List.getD_eq_getElem?_getD]
  by_cases e : j < q.length
  · rw [List.getElem?_append_left e, if_pos e]
  · rw [List.getElem?_append_right (by omega), if_neg e]
    by_cases e2 : j = q.length
    · subst e2; simp
    · rw [if_neg e2, List.getElem?_eq_none (by simp; omega)]; rfl
theorem Bfs.start {n : Nat} (fr to : Nat → Nat) (m : Nat) (R : List Int) (hn : 2 ≤ n) : Bfs n fr to m R ((List.replicate n (-1)).set 0 0) [0] (fun _ => False) := by
  have hg : ∀ v, v < n → ((List.replicate n (-1 : Int)).set 0 0).getD v 0 = if v = 0 then 0 else -1 := fun v hv => by
    rw [getD_set _ _ _ _ (by simp; omega)]
    by_cases e : v = 0
    · subst e; simp
    · rw [if_neg (Ne.symm e), if_neg e]; simp [List.getD_eq_getElem?_getD, hv]
  refine ⟨by simp, by rw [hg 0 (by omega)]; rfl, fun v hv => by rw [hg v hv]; split <;> omega, fun v hv h0 => ?_, fun v hv h0 => ?_, by simp, fun j hj => ⟨0, by omega, ?_, by rw [hg 0 (by omega)]; simp, by rw [hg 0 (by omega)]; simp⟩, fun v hv h0 => ?_, ?_, fun a _ h => h.elim⟩
  · rw [hg v hv] at h0
    by_cases e : v = 0
    · exact e
    · rw [if_neg e] at h0; omega
  · rw [hg v hv] at h0
    by_cases e : v = 0
    · rw [if_pos e] at h0; omega
    · rw [if_neg e] at h0; omega
  · have : j = 0 := by simp at hj; omega
    subst this; rfl
  · rw [hg v hv] at h0
    by_cases e : v = 0
    · subst e; exact ⟨0, by simp, rfl⟩
    · rw [if_neg e] at h0; omega
  · rw [sumZ_one (f := fun _ => 0) (j := 0) (by omega) fun k hk hne => by
      show (0 : Int) = io (decide (0 ≤ ((List.replicate n (-1 : Int)).set 0 0).getD k 0))
      rw [hg k hk, if_neg hne]; rfl]
    rw [sumZ_zero fun _ _ => rfl]
    show (0 : Int) + (io (decide (0 ≤ ((List.replicate n (-1 : Int)).set 0 0).getD 0 0)) - 0) = _
    rw [hg 0 (by omega)]; rfl
theorem Bfs.miss {n : Nat} {fr to : Nat → Nat} {m : Nat} {R d q : List Int} {P : Nat → Prop} (h : Bfs n fr to m R d q P) {a : Nat} (hm : ¬ (0 < R.getD a 0 ∧ d.getD (hdA fr to a) 0 < 0)) : Bfs n fr to m R d q (fun b => P b ∨ b = a) :=
  ⟨h.len, h.src, h.lo, h.only, h.pred, h.q0, h.qok, h.inq, h.cnt, fun b hb hP hR => by
    rcases hP with hP | rfl
    · exact h.clos b hb hP hR
    · omega⟩
theorem Bfs.hit {n : Nat} {fr to : Nat → Nat} {m : Nat} {R d q : List Int} {P : Nat → Prop} (hE : EndsIn n fr to m) (h : Bfs n fr to m R d q P) {a i : Nat} (ha : a < 2 * m) (hi : i < q.length) (hq : q.getD i 0 = (tlA fr to a : Int)) (hR : 0 < R.getD a 0) (hd : d.getD (hdA fr to a) 0 < 0) :
    Bfs n fr to m R (d.set (hdA fr to a) (d.getD (tlA fr to a) 0 + 1)) (q ++ [(hdA fr to a : Int)]) (fun b => P b ∨ b = a) := by
  have hh := hE.hd ha
  obtain ⟨u, hu, e1, e2, e3⟩ := h.qok i hi
  obtain rfl : tlA fr to a = u := by omega
  have hne : hdA fr to a ≠ tlA fr to a := fun e => by rw [e] at hd; omega
  have hg : ∀ v, (d.set (hdA fr to a) (d.getD (tlA fr to a) 0 + 1)).getD v 0 = if hdA fr to a = v then d.getD (tlA fr to a) 0 + 1 else d.getD v 0 := fun v => getD_set _ _ _ _ (by rw [h.len]; exact hh)
  have h00 : hdA fr to a ≠ 0 := fun e => by rw [e, h.src] at hd; omega
  refine ⟨by simp [h.len], by rw [hg, if_neg h00]; exact h.src, fun v hv => ?_, fun v hv h0 => ?_, fun v hv h0 => ?_, ⟨?_, by simp⟩, fun j hj => ?_, fun v hv h0 => ?_, ?_, fun b hb hP hRb => ?_⟩
  · rw [hg]
    have := h.lo v hv
    split <;> omega
  · rw [hg] at h0
    by_cases e : hdA fr to a = v
    · rw [if_pos e] at h0; omega
    · rw [if_neg e] at h0; exact h.only v hv h0
  · rw [hg] at h0
    by_cases e : hdA fr to a = v
    · refine ⟨a, ha, e, hR, ?_, ?_⟩
      · rw [hg, hg, if_neg hne, if_pos e]
      · rw [hg, if_neg hne]; exact e2
    · rw [if_neg e] at h0
      obtain ⟨b, hb, f1, f2, f3, f4⟩ := h.pred v hv h0
      refine ⟨b, hb, f1, f2, ?_, ?_⟩
      · rw [hg, hg, if_neg e, if_neg (fun e' => by rw [← e'] at f4; omega)]; exact f3
      · rw [hg, if_neg (fun e' => by rw [← e'] at f4; omega)]; exact f4
  · rw [getD_snoc, if_pos h.q0.2]; exact h.q0.1
  · rw [List.length_append, List.length_singleton] at hj
    by_cases e : j < q.length
    · obtain ⟨u, hu, f1, f2, f3⟩ := h.qok j e
      refine ⟨u, hu, by rw [getD_snoc, if_pos e]; exact f1, ?_, ?_⟩
      · rw [hg, if_neg (fun e' => by rw [← e'] at f2; omega)]; exact f2
      · rw [hg, if_neg (fun e' => by rw [← e'] at f2; omega)]; exact f3
    · obtain rfl : j = q.length := by omega
      refine ⟨hdA fr to a, hh, by rw [getD_snoc, if_neg e, if_pos rfl], ?_, ?_⟩
      · rw [hg, if_pos rfl]; omega
      · rw [hg, if_pos rfl]; omega
  · rw [hg] at h0
    by_cases e : hdA fr to a = v
    · refine ⟨q.length, by simp, by rw [getD_snoc, if_neg (by omega), if_pos rfl, e]⟩
    · rw [if_neg e] at h0
      obtain ⟨j, hj, f⟩ := h.inq v hv h0
      exact ⟨j, by simp; omega, by rw [getD_snoc, if_pos hj]; exact f⟩
  · rw [sumZ_one (f := fun v => io (decide (0 ≤ d.getD v 0))) (j := hdA fr to a) hh fun k hk hne => by
      show io (decide (0 ≤ d.getD k 0)) = io (decide (0 ≤ (d.set (hdA fr to a) (d.getD (tlA fr to a) 0 + 1)).getD k 0))
      rw [hg, if_neg (Ne.symm hne)]]
    rw [h.cnt]
    show (q.length : Int) + (io (decide (0 ≤ (d.set (hdA fr to a) (d.getD (tlA fr to a) 0 + 1)).getD (hdA fr to a) 0)) - io (decide (0 ≤ d.getD (hdA fr to a) 0))) = _
    rw [hg, if_pos rfl, decide_eq_true (show 0 ≤ d.getD (tlA fr to a) 0 + 1 by omega), decide_eq_false (show ¬ 0 ≤ d.getD (hdA fr to a) 0 by omega)]
    simp [io]
  · rw [hg]
    by_cases e : hdA fr to a = hdA fr to b
    · rw [if_pos e]; omega
    · rw [if_neg e]
      rcases hP with hP | rfl
      · exact h.clos b hb hP hRb
      · exact absurd rfl e
theorem Bfs.done {n : Nat} {fr to : Nat → Nat} {m : Nat} {R d q : List Int} {P : Nat → Prop} (hE : EndsIn n fr to m) (h : Bfs n fr to m R d q P) (hP : ∀ a, a < 2 * m → (∃ j, j < q.length ∧ q.getD j 0 = (tlA fr to a : Int)) → P a) : Lev n fr to m R d := by
  refine ⟨h.len, h.src, h.lo, fun v hv => ?_, h.only, fun v hv h0 => ?_, fun a ha h0 hR => h.clos a ha (hP a ha (h.inq _ (hE.tl ha) h0)) hR⟩
  · have hq := h.qlen
    by_cases e : 0 ≤ d.getD v 0
    · obtain ⟨j, hj, f⟩ := h.inq v hv e
      obtain ⟨u, _, f1, _, f3⟩ := h.qok j hj
      obtain rfl : u = v := by omega
      omega
    · omega
  · obtain ⟨b, hb, f1, f2, f3, _⟩ := h.pred v hv h0
    exact ⟨b, hb, f1, f2, f3⟩

/-- next: how many arcs of each node have been tried; each of them leads no farther, or to a node all of whose arcs have. -/
def Dead (n : Nat) (fr to : Nat → Nat) (m : Nat) (R d nx : List Int) : Prop :=
  ∀ u, u < n → ∀ j : Nat, (j : Int) < nx.getD u 0 → ∀ a : Nat, ((arcL fr to n m).getD u []).getD j 0 = (a : Int) → 0 < R.getD a 0 → d.getD (hdA fr to a) 0 = d.getD u 0 + 1 → hdA fr to a ≠ n - 1 ∧ (((arcL fr to n m).getD (hdA fr to a) []).length : Int) ≤ nx.getD (hdA fr to a) 0
theorem mem_at {l : List Int} {x : Int} (h : x ∈ l) : ∃ j, j < l.length ∧ l.getD j 0 = x := by
  obtain ⟨j, hj, e⟩ := List.mem_iff_getElem.1 h
  exact ⟨j, hj, by simp [hj, e]⟩
theorem arc_at {n : Nat} {fr to : Nat → Nat} {m u j : Nat} (hE : EndsIn n fr to m) (hj : j < ((arcL fr to n m).getD u []).length) : ∃ a, a < 2 * m ∧ ((arcL fr to n m).getD u []).getD j 0 = (a : Int) ∧ tlA fr to a = u := by
  have hm : ((arcL fr to n m).getD u []).getD j 0 ∈ (arcL fr to n m).getD u [] := by
    generalize (arcL fr to n m).getD u [] = l at *
    have : l.getD j 0 = l[j] := by simp [hj]
    rw [this]; exact List.getElem_mem hj
  obtain ⟨_, a, ha, e1, e2⟩ := (arcL_mem fr to n u _ m hE).1 hm
  exact ⟨a, ha, e1, e2⟩
theorem arc_in_at {n : Nat} {fr to : Nat → Nat} {m a : Nat} (hE : EndsIn n fr to m) (ha : a < 2 * m) : ∃ j, j < ((arcL fr to n m).getD (tlA fr to a) []).length ∧ ((arcL fr to n m).getD (tlA fr to a) []).getD j 0 = (a : Int) :=
  mem_at ((arcL_mem fr to n (tlA fr to a) (a : Int) m hE).2 ⟨hE.tl ha, a, ha, rfl, rfl⟩)
theorem dead_end {n : Nat} {fr to : Nat → Nat} {m : Nat} {R d nx : List Int} (hn : 2 ≤ n) (hE : EndsIn n fr to m) (h : Lev n fr to m R d) (hz : 0 ≤ d.getD (n - 1) 0) (hD : Dead n fr to m R d nx) (h0 : (((arcL fr to n m).getD 0 []).length : Int) ≤ nx.getD 0 0) : False := by
  have key : ∀ (s : Nat) (v : Nat), v < n → d.getD v 0 = s → v ≠ n - 1 ∧ (((arcL fr to n m).getD v []).length : Int) ≤ nx.getD v 0 := by
    intro s
    induction s with
    | zero => intro v hv hd; rw [h.only v hv hd]; exact ⟨by omega, h0⟩
    | succ s ih =>
      intro v hv hd
      obtain ⟨a, ha, e1, e2, e3⟩ := h.pred v hv (by omega)
      obtain ⟨_, f2⟩ := ih _ (hE.tl ha) (by omega)
      obtain ⟨j, hj, g⟩ := arc_in_at hE ha
      have := hD _ (hE.tl ha) j (by omega) a g e2 (by rw [e1]; omega)
      rw [e1] at this
      exact this
  obtain ⟨s, hs⟩ := Int.eq_ofNat_of_zero_le hz
  exact (key s (n - 1) (by omega) hs).1 rfl

end Go.Proofs.Ytdgkgnlilcbggaa
