/-
  The best profile below given depths: plain facts.
-/
import Derived.Test.YtmkbjkmpincogaaSN
import Derived.Test.YtmkbjkmpincogaaSL
namespace Go.Proofs.Ytmkbjkmpincogaa
open Go.RowKit
set_option linter.unusedVariables false

/-- The greatest of k + 1 values from lo on. -/
def maxF (f : Nat → Int) (lo : Nat) : Nat → Int
  | 0 => f lo
  | k + 1 => max (maxF f lo k) (f (lo + (k + 1)))
theorem maxF_ge (f : Nat → Int) (lo : Nat) : ∀ k j, j ≤ k → f (lo + j) ≤ maxF f lo k
  | 0, j, h => by rw [show j = 0 by omega]; exact Int.le_refl _
  | k + 1, j, h => by
    rw [maxF]
    by_cases e : j = k + 1
    · rw [e]; omega
    · have := maxF_ge f lo k j (by omega); omega
theorem maxF_hit (f : Nat → Int) (lo : Nat) : ∀ k, ∃ j, j ≤ k ∧ f (lo + j) = maxF f lo k
  | 0 => ⟨0, Nat.le_refl _, rfl⟩
  | k + 1 => by
    obtain ⟨j, h1, h2⟩ := maxF_hit f lo k
    by_cases c : maxF f lo k ≤ f (lo + (k + 1))
    · exact ⟨k + 1, Nat.le_refl _, by rw [maxF]; omega⟩
    · exact ⟨j, by omega, by rw [maxF, h2]; omega⟩
theorem maxF_congr {f g : Nat → Int} {lo : Nat} : ∀ k, (∀ j, j ≤ k → f (lo + j) = g (lo + j)) → maxF f lo k = maxF g lo k
  | 0, h => h 0 (Nat.le_refl _)
  | k + 1, h => by rw [maxF, maxF, maxF_congr k (fun j hj => h j (by omega)), h (k + 1) (Nat.le_refl _)]
theorem maxF_box {f : Nat → Int} {lo : Nat} {M : Int} : ∀ k, (∀ j, j ≤ k → -M ≤ f (lo + j) ∧ f (lo + j) ≤ M) → -M ≤ maxF f lo k ∧ maxF f lo k ≤ M := fun k h => by
  obtain ⟨j, h1, h2⟩ := maxF_hit f lo k
  rw [← h2]
  exact h j h1
/-- a is the first place from lo on at which the greatest value stands. -/
def IsArg (f : Nat → Int) (lo k a : Nat) : Prop := lo ≤ a ∧ a ≤ lo + k ∧ f a = maxF f lo k ∧ ∀ b, lo ≤ b → b < a → f b ≠ maxF f lo k
theorem isArg_ex (f : Nat → Int) (lo k : Nat) : ∃ a, IsArg f lo k a := by
  obtain ⟨j, h1, h2⟩ := maxF_hit f lo k
  have key : ∀ m, (∃ j, j ≤ m ∧ j ≤ k ∧ f (lo + j) = maxF f lo k) → ∃ j, j ≤ k ∧ f (lo + j) = maxF f lo k ∧ ∀ i, i < j → f (lo + i) ≠ maxF f lo k := by
    intro m
    induction m with
    | zero =>
      rintro ⟨j, a, b, c⟩
      exact ⟨j, b, c, fun i hi => by omega⟩
    | succ m ih =>
      rintro ⟨j, a, b, c⟩
      by_cases e : ∃ j, j ≤ m ∧ j ≤ k ∧ f (lo + j) = maxF f lo k
      · exact ih e
      · exact ⟨j, b, c, fun i hi hc => e ⟨i, by omega, by omega, hc⟩⟩
  obtain ⟨j, a, b, c⟩ := key j ⟨j, Nat.le_refl _, h1, h2⟩
  refine ⟨lo + j, by omega, by omega, b, fun i h3 h4 => ?_⟩
  have := c (i - lo) (by omega)
  rwa [show lo + (i - lo) = i by omega] at this
noncomputable def argF (f : Nat → Int) (lo k : Nat) : Nat := Classical.choose (isArg_ex f lo k)
theorem argF_is (f : Nat → Int) (lo k : Nat) : IsArg f lo k (argF f lo k) := Classical.choose_spec (isArg_ex f lo k)
theorem isArg_uniq {f : Nat → Int} {lo k a b : Nat} (ha : IsArg f lo k a) (hb : IsArg f lo k b) : a = b := by
  rcases Nat.lt_trichotomy a b with h | h | h
  · exact absurd ha.2.2.1 (hb.2.2.2 a ha.1 h)
  · exact h
  · exact absurd hb.2.2.1 (ha.2.2.2 b hb.1 h)

/-- How many depths column c has. -/
def Lp (p : List Int) (c : Nat) : Nat := (p.getD c 0).toNat + 1
/-- Where the row of column c begins. -/
def offT (p : List Int) : Nat → Nat
  | 0 => 0
  | c + 1 => offT p c + Lp p c
theorem offT_mono (p : List Int) : ∀ {a b : Nat}, a ≤ b → offT p a ≤ offT p b := fun {a b} h => by
  induction b with
  | zero => rw [show a = 0 by omega]; exact Nat.le_refl _
  | succ b ih =>
    by_cases e : a = b + 1
    · rw [e]; exact Nat.le_refl _
    · have := ih (by omega); rw [offT]; omega
theorem offT_far (p : List Int) {a b : Nat} (h : a < b) : offT p a + Lp p a ≤ offT p b := by
  have := offT_mono p (show a + 1 ≤ b by omega)
  rwa [offT] at this
/-- Places of different cells differ. -/
theorem offT_inj (p : List Int) {a b d e : Nat} (hd : d < Lp p a) (he : e < Lp p b) (h : offT p a + d = offT p b + e) : a = b ∧ d = e := by
  rcases Nat.lt_trichotomy a b with c | c | c
  · have := offT_far p c; omega
  · subst c; exact ⟨rfl, by omega⟩
  · have := offT_far p c; omega
theorem offT_box {p : List Int} {n D : Nat} (hp : Pro p n D) (hD : D ≤ 6) : ∀ c, c ≤ n → offT p c ≤ 7 * c
  | 0, _ => Nat.le_refl _
  | c + 1, h => by
    have := offT_box hp hD c (by omega)
    have := hp.box c (by omega)
    rw [offT]
    unfold Lp
    omega
theorem Lp_box {p : List Int} {n D : Nat} (hp : Pro p n D) (hD : D ≤ 6) {c : Nat} (h : c < n) : 1 ≤ Lp p c ∧ Lp p c ≤ 7 ∧ ((Lp p c : Nat) : Int) = p.getD c 0 + 1 := by
  have := hp.box c h
  unfold Lp
  omega
/-- Limits, and each depth has depths beside it. -/
structure Lim (p : List Int) (n D : Nat) : Prop where
  pro : Pro p n D
  near : ∀ c, c + 1 < n → Lp p c ≤ Lp p (c + 1) + 1 ∧ Lp p (c + 1) ≤ Lp p c + 1
theorem lim_of {p : List Int} {n D : Nat} (hp : Pro p n D) (hg : GenTo p p.length) : Lim p n D := by
  refine ⟨hp, fun c hc => ?_⟩
  have a := hg c (by rw [hp.len]; exact hc)
  have b1 := hp.box c (by omega)
  have b2 := hp.box (c + 1) hc
  unfold Lp
  omega

/-- The best rest from a column on: j columns from the last. -/
def rsF (xss : List (List Int)) (p : List Int) (n : Nat) : Nat → Nat → Int
  | 0, d => preS (xss.getD (n - 1) []) d
  | j + 1, d => preS (xss.getD (n - 2 - j) []) d + maxF (rsF xss p n j) (loN d) (cnN d (Lp p (n - 1 - j)) - 1)
/-- .. of column c. -/
def rcF (xss : List (List Int)) (p : List Int) (n c : Nat) : Nat → Int := rsF xss p n (n - 1 - c)
theorem rc_last (xss : List (List Int)) (p : List Int) {n : Nat} (hn : 1 ≤ n) (d : Nat) : rcF xss p n (n - 1) d = preS (xss.getD (n - 1) []) d := by
  unfold rcF
  rw [Nat.sub_self]
  rfl
theorem rc_step (xss : List (List Int)) (p : List Int) {n c : Nat} (hc : c + 1 < n) (d : Nat) : rcF xss p n c d = preS (xss.getD c []) d + maxF (rcF xss p n (c + 1)) (loN d) (cnN d (Lp p (c + 1)) - 1) := by
  unfold rcF
  rw [show n - 1 - c = (n - 1 - (c + 1)) + 1 by omega, rsF, show n - 2 - (n - 1 - (c + 1)) = c by omega, show n - 1 - (n - 1 - (c + 1)) = c + 1 by omega]
theorem near_box {d len : Nat} (h : d ≤ len) (h0 : 1 ≤ len) : 1 ≤ cnN d len ∧ loN d + cnN d len ≤ len ∧ cnN d len ≤ 3 ∧ loN d ≤ d := by
  unfold loN cnN
  omega
theorem rc_box {xss : List (List Int)} {p : List Int} {n D : Nat} (hs : Sec xss n D) (hp : Lim p n D) : ∀ j c, c + j + 1 = n → ∀ d, d < Lp p c → -6000000 * ((j : Int) + 1) ≤ rcF xss p n c d ∧ rcF xss p n c d ≤ 6000000 * ((j : Int) + 1)
  | 0, c, e, d, hd => by
    obtain rfl : c = n - 1 := by omega
    rw [rc_last xss p hs.n1]
    have l := Lp_box hp.pro hs.d2 (show n - 1 < n by have := hs.n1; omega)
    have b := hp.pro.box (n - 1) (by have := hs.n1; omega)
    have := pre_box (fun d hd => hs.box (n - 1) d (by have := hs.n1; omega) hd) d (by omega)
    have := hs.d2
    omega
  | j + 1, c, e, d, hd => by
    rw [rc_step xss p (by omega)]
    have ih := rc_box hs hp j (c + 1) (by omega)
    have l := Lp_box hp.pro hs.d2 (show c < n by omega)
    have l2 := Lp_box hp.pro hs.d2 (show c + 1 < n by omega)
    have b := hp.pro.box c (by omega)
    have nr := hp.near c (by omega)
    have f := near_box (d := d) (len := Lp p (c + 1)) (by omega) (by omega)
    have a := pre_box (fun d hd => hs.box c d (by omega) hd) d (by omega)
    have m := maxF_box (f := rcF xss p n (c + 1)) (lo := loN d) (M := 6000000 * ((j : Int) + 1)) (cnN d (Lp p (c + 1)) - 1) (fun i hi => by
      have := ih (loN d + i) (by omega)
      omega)
    have := hs.d2
    omega
theorem rc_small {xss : List (List Int)} {p : List Int} {n D : Nat} (hs : Sec xss n D) (hp : Lim p n D) {c d : Nat} (hc : c < n) (hd : d < Lp p c) : -48000000 ≤ rcF xss p n c d ∧ rcF xss p n c d ≤ 48000000 := by
  have := rc_box hs hp (n - 1 - c) c (by omega) d hd
  have := hs.n2
  omega

/-- The first best profile. -/
noncomputable def trF (xss : List (List Int)) (p : List Int) (n : Nat) : Nat → Nat
  | 0 => argF (rcF xss p n 0) 0 (Lp p 0 - 1)
  | c + 1 => argF (rcF xss p n (c + 1)) (loN (trF xss p n c)) (cnN (trF xss p n c) (Lp p (c + 1)) - 1)
theorem tr_lt {xss : List (List Int)} {p : List Int} {n D : Nat} (hs : Sec xss n D) (hp : Lim p n D) : ∀ c, c < n → trF xss p n c < Lp p c
  | 0, h => by
    have a := (argF_is (rcF xss p n 0) 0 (Lp p 0 - 1)).2.1
    have := Lp_box hp.pro hs.d2 h
    rw [trF]
    omega
  | c + 1, h => by
    have ih := tr_lt hs hp c (by omega)
    have a := (argF_is (rcF xss p n (c + 1)) (loN (trF xss p n c)) (cnN (trF xss p n c) (Lp p (c + 1)) - 1)).2.1
    have l2 := Lp_box hp.pro hs.d2 h
    have nr := hp.near c h
    have f := near_box (d := trF xss p n c) (len := Lp p (c + 1)) (by omega) (by omega)
    rw [trF]
    omega
noncomputable def trL (xss : List (List Int)) (p : List Int) (n : Nat) : List Int := upT (fun c => ((trF xss p n c : Nat) : Int)) n
theorem trL_len (xss : List (List Int)) (p : List Int) (n : Nat) : (trL xss p n).length = n := upT_len _ _
theorem trL_at (xss : List (List Int)) (p : List Int) {n c : Nat} (h : c < n) : (trL xss p n).getD c 0 = (trF xss p n c : Int) := by simp [trL, upT, h]
theorem trL_pro {xss : List (List Int)} {p : List Int} {n D : Nat} (hs : Sec xss n D) (hp : Lim p n D) : Pro (trL xss p n) n D := by
  refine ⟨trL_len _ _ _, fun c hc => ?_⟩
  rw [trL_at xss p hc]
  have := tr_lt hs hp c hc
  have := Lp_box hp.pro hs.d2 hc
  have := hp.pro.box c hc
  omega
/-- What the best profile is worth. -/
theorem tr_worth {xss : List (List Int)} {p : List Int} {n D : Nat} (hs : Sec xss n D) (hp : Lim p n D) : worS xss (trL xss p n) n = maxF (rcF xss p n 0) 0 (Lp p 0 - 1) := by
  have key : ∀ k, k + 1 ≤ n → worS xss (trL xss p n) k + rcF xss p n k (trF xss p n k) = maxF (rcF xss p n 0) 0 (Lp p 0 - 1) := by
    intro k
    induction k with
    | zero =>
      intro _
      have := (argF_is (rcF xss p n 0) 0 (Lp p 0 - 1)).2.2.1
      rw [worS, trF, this]
      omega
    | succ k ih =>
      intro hk
      rw [← ih (by omega), worS, trL_at xss p (by omega), Int.toNat_natCast, rc_step xss p (show k + 1 < n by omega)]
      have := (argF_is (rcF xss p n (k + 1)) (loN (trF xss p n k)) (cnN (trF xss p n k) (Lp p (k + 1)) - 1)).2.2.1
      rw [← this, trF]
      omega
  have h1 := hs.n1
  have := key (n - 1) (by omega)
  rw [rc_last xss p h1] at this
  rw [← this]
  obtain ⟨m, rfl⟩ : ∃ m, n = m + 1 := ⟨n - 1, by omega⟩
  rw [Nat.add_sub_cancel, worS, trL_at xss p (by omega), Int.toNat_natCast]

/-- Fitting leaves a gentle list as it is. -/
theorem fw_same {p : List Int} (h : ∀ i, i + 1 < p.length → p.getD (i + 1) 0 ≤ p.getD i 0 + 1) : ∀ k, k + 1 ≤ p.length → fwL fMin p k = p
  | 0, _ => rfl
  | k + 1, hk => by
    rw [fwL, fw_same h k (by omega)]
    have := h k (by omega)
    have e : fMin (p.getD (k + 1) 0) (p.getD k 0) = p.getD (k + 1) 0 := by unfold fMin; omega
    rw [e]
    apply List.ext_getElem
    · simp
    · intro i h1 h2
      rw [List.getElem_set]
      split
      · rename_i c; subst c; simp [List.getD_eq_getElem?_getD, h2]
      · rfl
theorem bw_same {p : List Int} (h : ∀ i, i + 1 < p.length → p.getD i 0 ≤ p.getD (i + 1) 0 + 1) : ∀ k, k + 1 ≤ p.length → bwL fMin p k = p
  | 0, _ => rfl
  | k + 1, hk => by
    rw [bwL, bw_same h k (by omega)]
    have := h (p.length - 2 - k) (by omega)
    have e : fMin (p.getD (p.length - 2 - k) 0) (p.getD (p.length - 2 - k + 1) 0) = p.getD (p.length - 2 - k) 0 := by unfold fMin; omega
    rw [e]
    apply List.ext_getElem
    · simp
    · intro i h1 h2
      rw [List.getElem_set]
      split
      · rename_i c; subst c; simp [List.getD_eq_getElem?_getD, h2]
      · rfl
theorem set_getD {xs : List Int} {i j : Nat} {t : Int} (hi : i < xs.length) : (xs.set i t).getD j 0 = if j = i then t else xs.getD j 0 := by
  by_cases e : j = i
  · subst e; simp [hi]
  · rw [if_neg e]; simp [List.getD_eq_getElem?_getD, Ne.symm e]
/-- What the passes leave: each number is at most the one before it and one more; then at most the one behind it and one more. -/
theorem fw_gentle {p : List Int} : ∀ k, k + 1 ≤ p.length → (∀ i, i + 1 ≤ k → (fwL fMin p k).getD (i + 1) 0 ≤ (fwL fMin p k).getD i 0 + 1)
  | 0, _, i, hi => by omega
  | k + 1, hk, i, hi => by
    have ih := fw_gentle (p := p) k (by omega)
    have hl : k + 1 < (fwL fMin p k).length := by rw [fw_len]; omega
    rw [fwL, set_getD hl, set_getD hl]
    by_cases e : i + 1 = k + 1
    · rw [if_pos e, if_neg (by omega), show i = k by omega]
      unfold fMin
      omega
    · rw [if_neg e, if_neg (by omega)]
      exact ih i (by omega)
theorem bw_gentle {q : List Int} (hq : ∀ i, i + 1 < q.length → q.getD (i + 1) 0 ≤ q.getD i 0 + 1) : ∀ k, k + 1 ≤ q.length →
    (∀ i, i + 1 < q.length → (bwL fMin q k).getD (i + 1) 0 ≤ (bwL fMin q k).getD i 0 + 1) ∧ (∀ i, q.length ≤ i + 1 + k → i + 1 < q.length → (bwL fMin q k).getD i 0 ≤ (bwL fMin q k).getD (i + 1) 0 + 1) ∧ (∀ i, i + 1 + k < q.length → (bwL fMin q k).getD i 0 = q.getD i 0) ∧ (∀ i, i < q.length → (bwL fMin q k).getD i 0 ≤ q.getD i 0)
  | 0, hk => ⟨hq, fun i h1 h2 => by omega, fun i _ => rfl, fun i _ => Int.le_refl _⟩
  | k + 1, hk => by
    obtain ⟨a, b, c, d⟩ := bw_gentle hq k (by omega)
    have hl : q.length - 2 - k < (bwL fMin q k).length := by rw [bw_len]; omega
    obtain ⟨m, hm⟩ : ∃ m, m = q.length - 2 - k := ⟨_, rfl⟩
    have fm : ∀ x y, fMin x y = min x (y + 1) := fun _ _ => rfl
    have hx : ∀ j, (bwL fMin q (k + 1)).getD j 0 = if j = m then fMin ((bwL fMin q k).getD m 0) ((bwL fMin q k).getD (m + 1) 0) else (bwL fMin q k).getD j 0 := fun j => by
      rw [bwL, set_getD hl, hm]
    have cm := c m (by omega)
    have am := a m (by omega)
    have dm := d (m + 1) (by omega)
    have qm := hq m (by omega)
    refine ⟨fun i hi => ?_, fun i h1 h2 => ?_, fun i hi => ?_, fun i hi => ?_⟩
    · rw [hx, hx]
      by_cases e1 : i + 1 = m
      · rw [if_pos e1, if_neg (by omega)]
        have := a i (by omega)
        rw [e1] at this
        rw [fm]
        omega
      · rw [if_neg e1]
        by_cases e2 : i = m
        · subst e2
          rw [if_pos rfl]
          rw [fm]
          omega
        · rw [if_neg e2]; exact a i hi
    · rw [hx, hx]
      by_cases e2 : i = m
      · subst e2
        rw [if_pos rfl, if_neg (by omega)]
        rw [fm]
        omega
      · rw [if_neg e2, if_neg (by omega)]
        exact b i (by omega) h2
    · rw [hx, if_neg (by omega)]
      exact c i (by omega)
    · rw [hx]
      split
      · rename_i e; subst e; have := d i hi; rw [fm]; omega
      · exact d i hi
theorem fit_gentle {p : List Int} (h1 : 1 ≤ p.length) : GenTo (fitL fMin p) (fitL fMin p).length := by
  intro i hi
  rw [fit_len] at hi
  unfold fitL
  have hq : ∀ i, i + 1 < (fwL fMin p (p.length - 1)).length → (fwL fMin p (p.length - 1)).getD (i + 1) 0 ≤ (fwL fMin p (p.length - 1)).getD i 0 + 1 := fun i hi => by
    rw [fw_len] at hi
    exact fw_gentle (p.length - 1) (by omega) i (by omega)
  obtain ⟨a, b, _, _⟩ := bw_gentle hq (p.length - 1) (by rw [fw_len]; omega)
  rw [fw_len] at a b
  have := a i hi
  have := b i (by omega) hi
  omega
theorem fit_same {p : List Int} (h1 : 1 ≤ p.length) (h : GenTo p p.length) : fitL fMin p = p := by
  unfold fitL
  rw [fw_same (fun i hi => by have := h i hi; omega) _ (by omega), bw_same (fun i hi => by have := h i hi; omega) _ (by omega)]
/-- The limits of a search. -/
theorem lim_fit {xss : List (List Int)} {p : List Int} (h : sdB xss p = true) : Lim (fitL fMin p) xss.length (depD xss) := by
  obtain ⟨_, S, P, _, n1, n2⟩ := sd_yes h
  refine lim_of ⟨by rw [fit_len, P.len], fun c hc => ?_⟩ (fit_gentle n1)
  have hin : In0 (depD xss) p := fun i hi => P.box i (by have := P.len; omega)
  have := bw_in fits_min (fw_in fits_min hin (p.length - 1) (by omega)) (p.length - 1) (by rw [fw_len]; omega) c (by rw [bw_len, fw_len, P.len]; exact hc)
  exact this
/-- The answers. -/
noncomputable def bbL (xss : List (List Int)) (p : List Int) : List Int := if sdB xss p then trL xss (fitL fMin p) xss.length else []
noncomputable def bbV (xss : List (List Int)) (p : List Int) : Int := if sdB xss p then worS xss (trL xss (fitL fMin p) xss.length) xss.length else 0
def fullP (xss : List (List Int)) : List Int := List.replicate xss.length ((depD xss : Nat) : Int)
theorem full_sd {xss : List (List Int)} (h : secB xss = true) : sdB xss (fullP xss) = true := by
  unfold sdB
  rw [h, Bool.true_and]
  have S := sec_yes h
  unfold areB fullP
  rw [List.length_replicate, decide_eq_true rfl, Bool.true_and]
  unfold allB
  rw [List.all_eq_true]
  intro t ht
  rw [List.mem_replicate] at ht
  rw [ht.2]
  simp
theorem full_fit {xss : List (List Int)} (h : secB xss = true) : fitL fMin (fullP xss) = fullP xss := by
  have S := sec_yes h
  refine fit_same (by unfold fullP; rw [List.length_replicate]; exact S.n1) (fun i hi => ?_)
  unfold fullP at hi ⊢
  rw [List.length_replicate] at hi
  simp [hi, show i < xss.length by omega]
end Go.Proofs.Ytmkbjkmpincogaa
