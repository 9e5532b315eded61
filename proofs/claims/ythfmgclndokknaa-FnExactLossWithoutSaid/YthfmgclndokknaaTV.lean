/-
Least best pits: plain.
Best pits of some blocks alone: plain.
Closures as sets, the pits that are forced or kept in: plain.
Lists of lists and a list that grow side by side; the best pit of a problem that may have no blocks.
Contract: the best pit of some blocks alone, in the model.
Contract: the greatest closure inside some blocks, in the model.
Contracts: ForcedPit, PitInside, LossWithout, in the model.
Contract: LossWithout, in the model.
Contracts: BestValue and IsBestPit, in the program and in the model.
Contract: a copy of a list of ints (slices.Clone).
Contract: a list of n times a number by slices.Repeat.
Contracts: ForcedPit, PitInside, in the program.
Contract: ForcedPit, in the program.
Contract: LossWithout, in the program.
-/
import Derived.Test.YthfmgclndokknaaTD
import Derived.Deep.RegionWith
import Derived.Lib.BufferMore
import Derived.Laws.CopyOwn
import Derived.BigRegion
namespace Go.Proofs.Ythfmgclndokknaa
set_option linter.unusedVariables false

theorem sumZ_next (f : Nat → Int) (n : Nat) : sumZ f (n + 1) = sumZ f n + f n := rfl
/-! ### The value of a cut of the network -/
def cutX (xs : List Int) (m : Nat) (p : Nat → Bool) : Int := outC (eF xs) (eT xs) (eC xs) m p
theorem cut_left {A B : List Int} (p : Nat → Bool) : ∀ {a : Nat}, a * 3 ≤ A.length → cutX (A ++ B) a p = cutX A a p := fun {a} ha => by
  unfold cutX outC
  refine sumZ_congr fun k hk => ?_
  unfold eF eT eC
  rw [getD_lft (by omega), getD_lft (by omega), getD_lft (by omega)]
theorem cut_app {A B : List Int} {a : Nat} (p : Nat → Bool) (hA : A.length = a * 3) : ∀ b, cutX (A ++ B) (a + b) p = cutX A a p + cutX B b p
  | 0 => by
    rw [Nat.add_zero, cut_left p (by omega)]
    show _ = _ + (0 : Int)
    omega
  | b + 1 => by
    have ih := cut_app (B := B) p hA b
    unfold cutX outC at ih ⊢
    rw [← Nat.add_assoc, sumZ_next, sumZ_next, ih]
    have e1 : eF (A ++ B) (a + b) = eF B b := by unfold eF; rw [getD_rgt (j := b * 3) (by omega)]
    have e2 : eT (A ++ B) (a + b) = eT B b := by unfold eT; rw [getD_rgt (j := b * 3 + 1) (by omega)]
    have e3 : eC (A ++ B) (a + b) = eC B b := by unfold eC; rw [getD_rgt (j := b * 3 + 2) (by omega)]
    rw [e1, e2, e3]
    omega

/-- The weight of some blocks. -/
def wtP (vs : List Int) (P : Nat → Bool) (n : Nat) : Int := sumZ (fun i => vs.getD i 0 * io (P i)) n
def posZ (vs : List Int) (n : Nat) : Int := sumZ (fun i => max (vs.getD i 0) 0) n
/-- How many of the arcs of the first blocks lead out. -/
def vioA (P : Nat → Bool) (i : Nat) (ys : List Int) (t : Nat) : Int := sumZ (fun s => io (P i && !P (ys.getD s 0).toNat)) t
def vio (xss : List (List Int)) (P : Nat → Bool) (k : Nat) : Int := sumZ (fun i => vioA P i (xss.getD i []) (xss.getD i []).length) k

theorem cut_val {n i : Nat} (hi : i < n) (v : Int) (p : Nat → Bool) (h0 : p 0 = true) (hz : p (n + 1) = false) : cutX (vE n i v) (vN v) p = max v 0 - v * io (p (i + 1)) := by
  by_cases c : 0 < v
  · obtain ⟨e1, e2⟩ := vE_pos (n := n) (i := i) c
    rw [e1, e2]
    show (0 : Int) + v * io (p 0 && !p (((i : Int) + 1).toNat)) = _
    rw [show ((i : Int) + 1).toNat = i + 1 by omega, h0]
    cases p (i + 1) <;> simp [io] <;> omega
  · by_cases c2 : v < 0
    · obtain ⟨e1, e2⟩ := vE_neg (n := n) (i := i) c2
      rw [e1, e2]
      show (0 : Int) + -v * io (p (((i : Int) + 1).toNat) && !p (((n : Int) + 1).toNat)) = _
      rw [show ((i : Int) + 1).toNat = i + 1 by omega, show ((n : Int) + 1).toNat = n + 1 by omega, hz]
      cases p (i + 1) <;> simp [io] <;> omega
    · obtain ⟨e1, e2⟩ := vE_zero (n := n) (i := i) c c2
      rw [e1, e2]
      have : v = 0 := by omega
      subst this
      simp [cutX, outC, sumZ]
theorem cut_arcs {i : Nat} {ys : List Int} (hr : risB i ys = true) (p : Nat → Bool) : ∀ t, t ≤ ys.length → cutX (aE i ys t) t p = 1000000000 * vioA (fun u => p (u + 1)) i ys t
  | 0, _ => by simp [cutX, outC, sumZ, vioA]
  | t + 1, ht => by
    obtain ⟨a, b⟩ := ris_box hr (show t < ys.length by omega)
    unfold aE
    rw [cut_app p (aE_len i ys t), cut_arcs hr p t (by omega)]
    have : cutX [(i : Int) + 1, ys.getD t 0 + 1, 1000000000] 1 p = 1000000000 * io (p (i + 1) && !p ((ys.getD t 0).toNat + 1)) := by
      show (0 : Int) + 1000000000 * io (p (((i : Int) + 1).toNat) && !p ((ys.getD t 0 + 1).toNat)) = _
      rw [show ((i : Int) + 1).toNat = i + 1 by omega, show (ys.getD t 0 + 1).toNat = (ys.getD t 0).toNat + 1 by omega]
      omega
    rw [this]
    unfold vioA
    show _ = 1000000000 * (sumZ _ t + io (p (i + 1) && !p ((ys.getD t 0).toNat + 1)))
    rw [Int.mul_add]
theorem cut_net {xss : List (List Int)} (ha : ∀ i, i < xss.length → risB i (xss.getD i []) = true) (vs : List Int) (p : Nat → Bool) (h0 : p 0 = true) (hz : p (xss.length + 1) = false) : ∀ k, k ≤ xss.length →
    cutX (pE xss vs k) (pN xss vs k) p = posZ vs k - wtP vs (fun u => p (u + 1)) k + 1000000000 * vio xss (fun u => p (u + 1)) k
  | 0, _ => by simp [cutX, outC, sumZ, posZ, wtP, vio, pN]
  | k + 1, hk => by
    have ih := cut_net ha vs p h0 hz k (by omega)
    unfold pE pN
    rw [cut_app p (by rw [List.length_append, pE_len, vE_len]; omega), cut_app p (pE_len xss vs k), ih, cut_val (by omega) _ p h0 hz, cut_arcs (ha k (by omega)) p _ (Nat.le_refl _)]
    show _ = (posZ vs k + max (vs.getD k 0) 0) - (wtP vs (fun u => p (u + 1)) k + vs.getD k 0 * io (p (k + 1))) + 1000000000 * (vio xss (fun u => p (u + 1)) k + vioA (fun u => p (u + 1)) k (xss.getD k []) (xss.getD k []).length)
    rw [Int.mul_add]
    omega

/-! ### The least best closure -/
def Clo (xss : List (List Int)) (P : Nat → Bool) : Prop := ∀ i, i < xss.length → P i = true → ∀ t, t < (xss.getD i []).length → P ((xss.getD i []).getD t 0).toNat = true
theorem sumZ_ge {f : Nat → Int} : ∀ {n : Nat}, (∀ k, k < n → 0 ≤ f k) → 0 ≤ sumZ f n := fun {n} h => by
  have := sumZ_le (f := fun _ => 0) (g := f) (n := n) h
  rwa [sumZ_zero (fun _ _ => rfl)] at this
theorem sumZ_one_le {f : Nat → Int} : ∀ {n : Nat}, (∀ k, k < n → 0 ≤ f k) → ∀ {j}, j < n → f j ≤ sumZ f n
  | 0, _, j, hj => by omega
  | n + 1, h, j, hj => by
    rw [sumZ_next]
    have h1 := sumZ_ge (f := f) (n := n) fun k hk => h k (by omega)
    have h2 := h n (by omega)
    by_cases e : j = n
    · subst e; omega
    · have := sumZ_one_le (f := f) (n := n) (fun k hk => h k (by omega)) (j := j) (by omega)
      omega
theorem io_ge (b : Bool) : 0 ≤ io b ∧ io b ≤ 1 := by cases b <;> simp [io]
theorem vioA_ge (P : Nat → Bool) (i : Nat) (ys : List Int) (t : Nat) : 0 ≤ vioA P i ys t := sumZ_ge fun k _ => (io_ge _).1
theorem vio_ge (xss : List (List Int)) (P : Nat → Bool) (k : Nat) : 0 ≤ vio xss P k := sumZ_ge fun i _ => vioA_ge _ _ _ _
theorem vio_clo {xss : List (List Int)} {P : Nat → Bool} (h : Clo xss P) : vio xss P xss.length = 0 := sumZ_zero fun i hi => sumZ_zero fun s hs => by
  cases hp : P i
  · rfl
  · have := h i hi hp s hs
    show io (true && !P ((xss.getD i []).getD s 0).toNat) = 0
    rw [this]
    rfl
theorem clo_vio {xss : List (List Int)} {P : Nat → Bool} (h : vio xss P xss.length < 1) : Clo xss P := fun i hi hp t ht => by
  have h1 := sumZ_one_le (f := fun i => vioA P i (xss.getD i []) (xss.getD i []).length) (n := xss.length) (fun i _ => vioA_ge _ _ _ _) hi
  have h2 := sumZ_one_le (f := fun s => io (P i && !P ((xss.getD i []).getD s 0).toNat)) (n := (xss.getD i []).length) (fun s _ => (io_ge _).1) ht
  unfold vio at h
  unfold vioA at h1 h
  cases hq : P ((xss.getD i []).getD t 0).toNat
  · simp only [hp, hq] at h2
    rw [show io (true && !false) = 1 from rfl] at h2
    simp only [hp] at h1
    omega
  · rfl
theorem wt_pos (vs : List Int) (P : Nat → Bool) (n : Nat) : wtP vs P n ≤ posZ vs n := sumZ_le fun k _ => by
  show _ ≤ max (vs.getD k 0) 0
  cases P k <;> simp [io] <;> omega
/-- Of the closures of greatest weight the one that is in each other. -/
structure LB (xss : List (List Int)) (vs : List Int) (P : Nat → Bool) : Prop where
  clo : Clo xss P
  best : ∀ Q, Clo xss Q → wtP vs Q xss.length ≤ wtP vs P xss.length
  least : ∀ Q, Clo xss Q → wtP vs Q xss.length = wtP vs P xss.length → ∀ i, i < xss.length → P i = true → Q i = true
def liftQ (n : Nat) (Q : Nat → Bool) (u : Nat) : Bool := if u = 0 then true else if u = n + 1 then false else Q (u - 1)
theorem lift_at {n : Nat} (Q : Nat → Bool) {i : Nat} (h : i < n) : liftQ n Q (i + 1) = Q i := by unfold liftQ; rw [if_neg (by omega), if_neg (by omega)]; rfl
theorem wt_congr {vs : List Int} {P Q : Nat → Bool} {n : Nat} (h : ∀ i, i < n → P i = Q i) : wtP vs P n = wtP vs Q n := sumZ_congr fun k hk => by rw [h k hk]
theorem clo_congr {xss : List (List Int)} (ha : ∀ i, i < xss.length → risB i (xss.getD i []) = true) {P Q : Nat → Bool} (h : ∀ i, i < xss.length → P i = Q i) (hP : Clo xss P) : Clo xss Q := fun i hi hq t ht => by
  have h1 := ris_box (ha i hi) ht
  rw [← h _ (by omega)]
  exact hP i hi (by rw [h i hi]; exact hq) t ht
theorem lb_full {xss : List (List Int)} {vs : List Int} {v : Int} {S : Nat → Bool} (ha : ∀ i, i < xss.length → risB i (xss.getD i []) = true) (hp : posZ vs xss.length < 1000000000)
    (h : FullX (xss.length + 2) (pN xss vs xss.length) (pE xss vs xss.length) v S) : LB xss vs (fun i => S (i + 1)) := by
  obtain ⟨R, hr, hv, h0, h1, hs, hl⟩ := h.ex
  rw [show xss.length + 2 - 1 = xss.length + 1 from rfl] at hv h1
  have c1 := net_shut hr hs
  have c2 := hv S h0 h1
  have c3 := cut_net ha vs S h0 h1 _ (Nat.le_refl _)
  unfold cutX at c3
  have key : ∀ Q, Clo xss Q → net (eF (pE xss vs xss.length)) (eT (pE xss vs xss.length)) (pN xss vs xss.length) R (liftQ xss.length Q) = v ∧ outC (eF (pE xss vs xss.length)) (eT (pE xss vs xss.length)) (eC (pE xss vs xss.length)) (pN xss vs xss.length) (liftQ xss.length Q) = posZ vs xss.length - wtP vs Q xss.length ∧ v ≤ posZ vs xss.length - wtP vs Q xss.length := fun Q hQ => by
    have q0 : liftQ xss.length Q 0 = true := rfl
    have q1 : liftQ xss.length Q (xss.length + 1) = false := by unfold liftQ; rw [if_neg (by omega), if_pos rfl]
    have e1 := hv _ q0 q1
    have e2 := @net_le (eF (pE xss vs xss.length)) (eT (pE xss vs xss.length)) _ _ _ hr (liftQ xss.length Q)
    have e3 := cut_net ha vs _ q0 q1 _ (Nat.le_refl _)
    unfold cutX at e3
    have same : ∀ i, i < xss.length → Q i = liftQ xss.length Q (i + 1) := fun i hi => (lift_at Q hi).symm
    rw [wt_congr (P := fun u => liftQ xss.length Q (u + 1)) (Q := Q) (fun i hi => (same i hi).symm), vio_clo (clo_congr ha same hQ)] at e3
    refine ⟨e1, by omega, by omega⟩
  have hclo : Clo xss (fun i => S (i + 1)) := by
    refine clo_vio ?_
    have k0 := (key (fun _ => false) (fun i hi hp => by cases hp)).2.2
    have w0 : wtP vs (fun _ => false) xss.length = 0 := sumZ_zero fun k _ => by simp [io]
    have := wt_pos vs (fun i => S (i + 1)) xss.length
    omega
  have c4 := vio_clo hclo
  refine ⟨hclo, fun Q hQ => ?_, fun Q hQ he i hi hp => ?_⟩
  · have := (key Q hQ).2.2
    omega
  · obtain ⟨k1, k2, k3⟩ := key Q hQ
    have := hl (liftQ xss.length Q) rfl (shut_of_net hr (by omega)) (i + 1) (by omega) hp
    rwa [lift_at Q hi] at this
end Go.Proofs.Ythfmgclndokknaa

namespace Go.Proofs.Ythfmgclndokknaa
set_option linter.unusedVariables false

theorem ris_of {n : Int} {l : List Int} (h : l.Pairwise (· < ·)) (hm : ∀ x ∈ l, 0 ≤ x ∧ x < n) : risB n l = true := ris_true fun k hk => by
  have e : ∀ j, j < l.length → l.getD j 0 ∈ l := fun j hj => getD_memN hj
  refine ⟨?_, (hm _ (e k hk)).2⟩
  match k, hk with
  | 0, hk =>
    have := (hm _ (e 0 hk)).1
    show (-1 : Int) < _
    omega
  | k + 1, hk =>
    show l.getD k 0 < _
    have h1 : k < l.length := by omega
    have := List.pairwise_iff_getElem.1 h k (k + 1) h1 hk (by omega)
    simpa [h1, hk] using this

theorem getD_lst (xs : List Int) (a : Int) : (xs ++ [a]).getD xs.length 0 = a := by simp

/-! ### The place of a block among some -/
def rnk (b : Int → Bool) (i : Nat) : Nat := (sel b i).length
theorem sel_next (b : Int → Bool) (k : Nat) : sel b (k + 1) = sel b k ++ (if b k then [(k : Int)] else []) := rfl
theorem rnk_yes {b : Int → Bool} {i : Nat} (h : b i = true) : rnk b (i + 1) = rnk b i + 1 := by unfold rnk; rw [sel_next, if_pos h]; simp
theorem rnk_no {b : Int → Bool} {i : Nat} (h : ¬ b i = true) : rnk b (i + 1) = rnk b i := by unfold rnk; rw [sel_next, if_neg h]; simp
theorem rnk_le (b : Int → Bool) (i : Nat) : ∀ {k}, i ≤ k → rnk b i ≤ rnk b k := fun {k} h => by
  induction k with
  | zero => obtain rfl : i = 0 := by omega
            omega
  | succ k ih =>
    by_cases e : i = k + 1
    · subst e; omega
    · have := ih (by omega)
      by_cases c : b (k : Int) = true
      · rw [rnk_yes c]; omega
      · rw [rnk_no c]; omega
theorem rnk_lt {b : Int → Bool} {i k : Nat} (h : i < k) (hb : b i = true) : rnk b i < rnk b k := by
  have h1 := rnk_yes hb
  have h2 := rnk_le b (i + 1) (k := k) (by omega)
  omega
theorem sel_rnk {b : Int → Bool} {i : Nat} (hb : b i = true) : ∀ {n}, i < n → (sel b n).getD (rnk b i) 0 = (i : Int) := fun {n} hi => by
  induction n with
  | zero => omega
  | succ n ih =>
    rw [sel_next]
    by_cases e : i = n
    · subst e
      rw [if_pos hb]
      exact (getD_lst _ _)
    · have hl : rnk b i < (sel b n).length := rnk_lt (by omega) hb
      rw [getD_lft hl]
      exact ih (by omega)
theorem sel_place {b : Int → Bool} {n j : Nat} (hj : j < (sel b n).length) : ∃ i : Nat, i < n ∧ b i = true ∧ (sel b n).getD j 0 = (i : Int) ∧ rnk b i = j := by
  have hm := getD_memN hj
  rw [mem_sel] at hm
  unfold inr at hm
  rw [Bool.and_eq_true, decide_eq_true_eq] at hm
  obtain ⟨⟨h1, h2⟩, h3⟩ := hm
  obtain ⟨i, hi⟩ := Int.eq_ofNat_of_zero_le h1
  rw [hi] at h2 h3
  refine ⟨i, by omega, h3, hi, ?_⟩
  have hr : rnk b i < (sel b n).length := rnk_lt (by omega) h3
  have e := sel_rnk h3 (n := n) (by omega)
  have hp := sel_rising b n
  rcases Nat.lt_trichotomy (rnk b i) j with c | c | c
  · have := List.pairwise_iff_getElem.1 hp _ _ hr hj c
    simp only [List.getD_eq_getElem?_getD, List.getElem?_eq_getElem hr, List.getElem?_eq_getElem hj, Option.getD_some] at e hi
    omega
  · exact c
  · have := List.pairwise_iff_getElem.1 hp _ _ hj hr c
    simp only [List.getD_eq_getElem?_getD, List.getElem?_eq_getElem hr, List.getElem?_eq_getElem hj, Option.getD_some] at e hi
    omega
theorem sum_sel2 (b : Int → Bool) (g : Int → Nat → Int) : ∀ n, sumZ (fun j => g ((sel b n).getD j 0) j) (sel b n).length = sumZ (fun i => if b (i : Int) then g i (rnk b i) else 0) n
  | 0 => rfl
  | n + 1 => by
    have ih := sum_sel2 b g n
    rw [sumZ_next, ← ih]
    by_cases c : b (n : Int) = true
    · have el : (sel b (n + 1)).length = (sel b n).length + 1 := rnk_yes c
      have es : sel b (n + 1) = sel b n ++ [(n : Int)] := by rw [sel_next, if_pos c]
      rw [el, sumZ_next, if_pos c]
      congr 1
      · refine sumZ_congr fun j hj => ?_
        rw [es, getD_lft hj]
      · rw [es, getD_lst]
        rfl
    · have es : sel b (n + 1) = sel b n := by rw [sel_next, if_neg c]; simp
      rw [es, if_neg c]
      omega

/-! ### Some blocks alone, in their own numbers -/
def ownL (b : Int → Bool) (ys : List Int) : List Int := (ys.filter b).map fun y => ((rnk b y.toNat : Nat) : Int)
def ownA (xss : List (List Int)) (b : Int → Bool) : List (List Int) := (sel b xss.length).map fun i => ownL b (xss.getD i.toNat [])
def worA (vs : List Int) (b : Int → Bool) (n : Nat) : List Int := (sel b n).map fun i => vs.getD i.toNat 0
theorem ownA_len (xss : List (List Int)) (b : Int → Bool) : (ownA xss b).length = (sel b xss.length).length := by simp [ownA]
theorem worA_len (vs : List Int) (b : Int → Bool) (n : Nat) : (worA vs b n).length = (sel b n).length := by simp [worA]
theorem ownA_at {xss : List (List Int)} {b : Int → Bool} {j : Nat} (hj : j < (sel b xss.length).length) : (ownA xss b).getD j [] = ownL b (xss.getD ((sel b xss.length).getD j 0).toNat []) := by
  simp [ownA, List.getD_eq_getElem?_getD, List.getElem?_eq_getElem hj]
theorem worA_at {vs : List Int} {b : Int → Bool} {n j : Nat} (hj : j < (sel b n).length) : (worA vs b n).getD j 0 = vs.getD ((sel b n).getD j 0).toNat 0 := by
  simp [worA, List.getD_eq_getElem?_getD, List.getElem?_eq_getElem hj]
theorem own_ris {xss : List (List Int)} (ha : ∀ i, i < xss.length → risB i (xss.getD i []) = true) (b : Int → Bool) : ∀ j, j < (ownA xss b).length → risB j ((ownA xss b).getD j []) = true := fun j hj => by
  rw [ownA_len] at hj
  rw [ownA_at hj]
  obtain ⟨i, hi, hb, e, er⟩ := sel_place hj
  rw [e, Int.toNat_natCast]
  have hr := ha i hi
  refine ris_of ?_ fun x hx => ?_
  · unfold ownL
    rw [List.pairwise_map]
    refine (List.Pairwise.filter _ (ris_rising hr)).imp_of_mem fun {x y} hx hy hlt => ?_
    obtain ⟨hx1, hx2⟩ := List.mem_filter.1 hx
    obtain ⟨hy1, hy2⟩ := List.mem_filter.1 hy
    have h1 := ris_mem hr hx1
    have h2 := ris_mem hr hy1
    have : rnk b x.toNat < rnk b y.toNat := rnk_lt (by omega) (by rw [Int.toNat_of_nonneg h1.1]; exact hx2)
    omega
  · unfold ownL at hx
    obtain ⟨y, hy, rfl⟩ := List.mem_map.1 hx
    obtain ⟨hy1, hy2⟩ := List.mem_filter.1 hy
    have h1 := ris_mem hr hy1
    have : rnk b y.toNat < rnk b i := rnk_lt (by omega) (by rw [Int.toNat_of_nonneg h1.1]; exact hy2)
    omega
theorem Clo.mem {xss : List (List Int)} {P : Nat → Bool} (h : Clo xss P) {i : Nat} (hi : i < xss.length) (hp : P i = true) {y : Int} (hy : y ∈ xss.getD i []) : P y.toNat = true := by
  obtain ⟨t, ht, rfl⟩ := mem_getD hy
  exact h i hi hp t ht
theorem Clo.of {xss : List (List Int)} {P : Nat → Bool} (h : ∀ i, i < xss.length → P i = true → ∀ y ∈ xss.getD i [], P y.toNat = true) : Clo xss P := fun i hi hp t ht => h i hi hp _ (getD_memN ht)

/-- Closed among some blocks. -/
def Rel (xss : List (List Int)) (b : Int → Bool) (Q : Nat → Bool) : Prop := ∀ i : Nat, i < xss.length → b i = true → Q i = true → ∀ y ∈ xss.getD i [], b y = true → Q y.toNat = true
def wtB (vs : List Int) (b : Int → Bool) (Q : Nat → Bool) (n : Nat) : Int := sumZ (fun i => if b (i : Int) then vs.getD i 0 * io (Q i) else 0) n
def upQ (b : Int → Bool) (Q : Nat → Bool) : Nat → Bool := fun i => b i && Q (rnk b i)
def dnQ (b : Int → Bool) (n : Nat) (Q : Nat → Bool) : Nat → Bool := fun j => Q ((sel b n).getD j 0).toNat
theorem wt_up (vs : List Int) (b : Int → Bool) (n : Nat) (Q : Nat → Bool) : wtP (worA vs b n) Q (sel b n).length = wtB vs b (upQ b Q) n := by
  have h := sum_sel2 b (fun i j => vs.getD i.toNat 0 * io (Q j)) n
  unfold wtP wtB
  rw [sumZ_congr (f := fun j => (worA vs b n).getD j 0 * io (Q j)) (g := fun j => vs.getD ((sel b n).getD j 0).toNat 0 * io (Q j)) (fun j hj => by rw [worA_at hj]), h]
  refine sumZ_congr fun i hi => ?_
  unfold upQ
  cases c : b (i : Int)
  · rfl
  · simp
theorem wt_dn (vs : List Int) (b : Int → Bool) (n : Nat) (Q : Nat → Bool) : wtP (worA vs b n) (dnQ b n Q) (sel b n).length = wtB vs b Q n := by
  rw [wt_up]
  refine sumZ_congr fun i hi => ?_
  unfold upQ dnQ
  cases c : b (i : Int)
  · rfl
  · rw [sel_rnk c hi]
    simp
theorem rel_up {xss : List (List Int)} {b : Int → Bool} {Q : Nat → Bool} (ha : ∀ i, i < xss.length → risB i (xss.getD i []) = true) (h : Clo (ownA xss b) Q) : Rel xss b (upQ b Q) := fun i hi hb hq y hy hy2 => by
  have h1 := ris_mem (ha i hi) hy
  have hr : rnk b i < (sel b xss.length).length := rnk_lt hi hb
  unfold upQ at hq ⊢
  rw [hb, Bool.true_and] at hq
  rw [Int.toNat_of_nonneg h1.1, hy2, Bool.true_and]
  have := h.mem (i := rnk b i) (by rw [ownA_len]; exact hr) hq (y := ((rnk b y.toNat : Nat) : Int)) (by
    rw [ownA_at hr, sel_rnk hb hi, Int.toNat_natCast]
    exact List.mem_map.2 ⟨y, List.mem_filter.2 ⟨hy, hy2⟩, rfl⟩)
  rwa [Int.toNat_natCast] at this
theorem clo_dn {xss : List (List Int)} {b : Int → Bool} {Q : Nat → Bool} (ha : ∀ i, i < xss.length → risB i (xss.getD i []) = true) (h : Rel xss b Q) : Clo (ownA xss b) (dnQ b xss.length Q) := Clo.of fun j hj hp x hx => by
  rw [ownA_len] at hj
  rw [ownA_at hj] at hx
  obtain ⟨i, hi, hb, e, er⟩ := sel_place hj
  unfold dnQ at hp
  rw [e, Int.toNat_natCast] at hp hx
  unfold ownL at hx
  obtain ⟨y, hy, rfl⟩ := List.mem_map.1 hx
  obtain ⟨hy1, hy2⟩ := List.mem_filter.1 hy
  have h1 := ris_mem (ha i hi) hy1
  have := h i hi hb hp y hy1 hy2
  unfold dnQ
  rw [Int.toNat_natCast, sel_rnk (by rw [Int.toNat_of_nonneg h1.1]; exact hy2) (by omega), Int.toNat_natCast]
  exact this
/-- Among some blocks, of the closed ones of greatest weight the one that is in each other. -/
structure SB (xss : List (List Int)) (vs : List Int) (b : Int → Bool) (P : Nat → Bool) : Prop where
  rel : Rel xss b P
  best : ∀ Q, Rel xss b Q → wtB vs b Q xss.length ≤ wtB vs b P xss.length
  least : ∀ Q, Rel xss b Q → wtB vs b Q xss.length = wtB vs b P xss.length → ∀ i : Nat, i < xss.length → b i = true → P i = true → Q i = true
theorem sb_of {xss : List (List Int)} {vs : List Int} {b : Int → Bool} {P : Nat → Bool} (ha : ∀ i, i < xss.length → risB i (xss.getD i []) = true) (h : LB (ownA xss b) (worA vs b xss.length) P) : SB xss vs b (upQ b P) := by
  have wu := wt_up vs b xss.length
  have wd := wt_dn vs b xss.length
  have hl := ownA_len xss b
  refine ⟨rel_up ha h.clo, fun Q hQ => ?_, fun Q hQ he i hi hb hp => ?_⟩
  · have := h.best _ (clo_dn ha hQ)
    rw [hl, wd, wu] at this
    exact this
  · have hr : rnk b i < (sel b xss.length).length := rnk_lt hi hb
    unfold upQ at hp
    rw [hb, Bool.true_and] at hp
    have := h.least _ (clo_dn ha hQ) (by rw [hl, wd, wu]; exact he) (rnk b i) (by rw [hl]; exact hr) hp
    unfold dnQ at this
    rwa [sel_rnk hb hi, Int.toNat_natCast] at this

/-! ### What is forced -/
theorem forced_eq {xss : List (List Int)} {vs lf : List Int} {f : Int → Bool} {P1 P2 : Nat → Bool} (ha : ∀ i, i < xss.length → risB i (xss.getD i []) = true) (hf : Clo xss (fun i => f i)) (hlf : ∀ i : Nat, i < xss.length → lf.getD i 0 = if f i then 0 else vs.getD i 0)
    (h1 : LB xss lf P1) (h2 : SB xss vs (fun x => !f x) P2) : ∀ i : Nat, i < xss.length → f i = false → P1 i = P2 i := by
  have wt : ∀ Q, wtP lf Q xss.length = wtB vs (fun x => !f x) Q xss.length := fun Q => sumZ_congr fun i hi => by
    show lf.getD i 0 * _ = (if (!f (i : Int)) = true then vs.getD i 0 * io (Q i) else 0)
    rw [hlf i hi]
    cases f (i : Int) <;> simp
  have wtc : ∀ Q, wtB vs (fun x => !f x) (fun i => f i || Q i) xss.length = wtB vs (fun x => !f x) Q xss.length := fun Q => sumZ_congr fun i hi => by
    show (if (!f (i : Int)) = true then vs.getD i 0 * io (f (i : Int) || Q i) else 0) = (if (!f (i : Int)) = true then vs.getD i 0 * io (Q i) else 0)
    cases f (i : Int) <;> simp
  have rel1 : Rel xss (fun x => !f x) P1 := fun i hi _ hp y hy _ => h1.clo.mem hi hp hy
  have clo2 : Clo xss (fun i => f i || P2 i) := Clo.of fun i hi hp y hy => by
    have hb := ris_mem (ha i hi) hy
    show (f ((y.toNat : Nat) : Int) || P2 y.toNat) = true
    rw [Int.toNat_of_nonneg hb.1]
    cases c : f y
    · rw [Bool.false_or]
      cases c2 : f (i : Int)
      · have hp' : (f (i : Int) || P2 i) = true := hp
        rw [c2, Bool.false_or] at hp'
        exact h2.rel i hi (by show (!f (i : Int)) = true; rw [c2]; rfl) hp' y hy (by show (!f y) = true; rw [c]; rfl)
      · have := hf.mem hi c2 hy
        have e : f ((y.toNat : Nat) : Int) = true := this
        rw [Int.toNat_of_nonneg hb.1, c] at e
        cases e
    · rfl
  have b1 := h2.best P1 rel1
  have b2 := h1.best _ clo2
  rw [wt, wt, wtc] at b2
  intro i hi hfi
  have hb : (!f (i : Int)) = true := by rw [hfi]; rfl
  cases c1 : P1 i
  · cases c2 : P2 i
    · rfl
    · have := h2.least P1 rel1 (by omega) i hi hb c2
      rw [c1] at this
      cases this
  · have : (f (i : Int) || P2 i) = true := h1.least _ clo2 (by rw [wt, wt, wtc]; omega) i hi c1
    rw [hfi, Bool.false_or] at this
    exact this.symm

/-! ### What is kept in -/
theorem inside_eq {xss : List (List Int)} {vs ls : List Int} {l g : Int → Bool} {P1 P2 : Nat → Bool} (ha : ∀ i, i < xss.length → risB i (xss.getD i []) = true) (hls : ∀ i : Nat, i < xss.length → ls.getD i 0 = if l i then vs.getD i 0 else -1000000000)
    (hp : posZ ls xss.length < 1000000000) (hg : Clo xss (fun i => g i)) (hgl : ∀ i : Nat, i < xss.length → g i = true → l i = true) (hgm : ∀ Q : Nat → Bool, Clo xss Q → (∀ i : Nat, i < xss.length → Q i = true → l i = true) → ∀ i : Nat, i < xss.length → Q i = true → g i = true)
    (h1 : LB xss ls P1) (h2 : SB xss vs g P2) : ∀ i : Nat, i < xss.length → P1 i = (g i && P2 i) := by
  have w0 : wtP ls (fun _ => false) xss.length = 0 := sumZ_zero fun k _ => by simp [io]
  have w1 : 0 ≤ wtP ls P1 xss.length := by
    have := h1.best (fun _ => false) (fun i hi hp => by cases hp)
    omega
  have in1 : ∀ i : Nat, i < xss.length → P1 i = true → l i = true := fun i hi hpi => by
    cases c : l (i : Int)
    · exfalso
      have hle : sumZ (fun k => ls.getD k 0 * io (P1 k) - (if k = i then -1000000000 else 0)) xss.length ≤ posZ ls xss.length := sumZ_le fun k hk => by
        show _ ≤ max (ls.getD k 0) 0
        by_cases e : k = i
        · subst e
          rw [if_pos rfl, hls k hk, c, hpi]
          simp [io]
          omega
        · rw [if_neg e]
          cases P1 k <;> simp [io] <;> omega
      have hone := sumZ_one (f := fun k => ls.getD k 0 * io (P1 k)) (g := fun k => ls.getD k 0 * io (P1 k) - (if k = i then -1000000000 else 0)) hi (fun k hk hne => by simp [hne])
      rw [if_pos rfl] at hone
      unfold wtP at w1
      omega
    · rfl
  have sub1 : ∀ i : Nat, i < xss.length → P1 i = true → g i = true := hgm P1 h1.clo in1
  have wt : ∀ Q : Nat → Bool, wtP ls (fun i => g i && Q i) xss.length = wtB vs g Q xss.length := fun Q => sumZ_congr fun i hi => by
    show ls.getD i 0 * io (g (i : Int) && Q i) = _
    cases c : g (i : Int)
    · simp [io]
    · rw [hls i hi, hgl i hi c]
      simp
  have same : wtP ls P1 xss.length = wtP ls (fun i => g i && P1 i) xss.length := wt_congr fun i hi => by
    cases c : P1 i
    · simp
    · rw [sub1 i hi c]; rfl
  have rel1 : Rel xss g P1 := fun i hi _ hp y hy _ => h1.clo.mem hi hp hy
  have clo2 : Clo xss (fun i => g i && P2 i) := Clo.of fun i hi hp y hy => by
    have hb := ris_mem (ha i hi) hy
    have hp' : (g (i : Int) && P2 i) = true := hp
    rw [Bool.and_eq_true] at hp'
    have e : g ((y.toNat : Nat) : Int) = true := hg.mem hi hp'.1 hy
    rw [Int.toNat_of_nonneg hb.1] at e
    show (g ((y.toNat : Nat) : Int) && P2 y.toNat) = true
    rw [Int.toNat_of_nonneg hb.1, e, Bool.true_and]
    exact h2.rel i hi hp'.1 hp'.2 y hy e
  have b1 := h2.best P1 rel1
  have b2 := h1.best _ clo2
  rw [wt, same, wt] at b2
  intro i hi
  cases c1 : P1 i
  · cases c2 : g (i : Int)
    · rfl
    · cases c3 : P2 i
      · rfl
      · have := h2.least P1 rel1 (by omega) i hi c2 c3
        rw [c1] at this
        cases this
  · have : (g (i : Int) && P2 i) = true := h1.least _ clo2 (by rw [wt, same, wt]; omega) i hi c1
    rw [this]
end Go.Proofs.Ythfmgclndokknaa

namespace Go.Proofs.Ythfmgclndokknaa
open Go.RowKit
set_option linter.unusedVariables false

/-! ### The least closure with some blocks -/
theorem dnS_next (xss : List (List Int)) (p : Int → Bool) (t : Nat) : dnS xss p (t + 1) = if dnS xss p t ((xss.length - 1 - t : Nat) : Int) = true then addL (xss.getD (xss.length - 1 - t) []) (dnS xss p t) else dnS xss p t := rfl
theorem dnS_up (xss : List (List Int)) (p : Int → Bool) (t : Nat) (y : Int) (h : dnS xss p t y = true) : dnS xss p (t + 1) y = true := by
  rw [dnS_next]
  split
  · unfold addL
    rw [h, Bool.or_true]
  · exact h
theorem dnS_inv {xss : List (List Int)} (ha : ∀ i, i < xss.length → risB i (xss.getD i []) = true) (p : Int → Bool) : ∀ t, t ≤ xss.length → ∀ i : Nat, i < xss.length → xss.length - t ≤ i → dnS xss p t i = true → ∀ y ∈ xss.getD i [], dnS xss p t y = true
  | 0, _, i, hi, hk, _, _, _ => by omega
  | t + 1, ht, i, hi, hk, hd, y, hy => by
    by_cases e : i = xss.length - 1 - t
    · by_cases c : dnS xss p t ((xss.length - 1 - t : Nat) : Int) = true
      · rw [dnS_next, if_pos c]
        unfold addL
        rw [← e]
        have : (xss.getD i []).contains y = true := by simpa using hy
        rw [this, Bool.true_or]
      · rw [dnS_next, if_neg c, e] at hd
        exact absurd hd c
    · have hd2 : dnS xss p t i = true := by
        rw [dnS_next] at hd
        split at hd
        · unfold addL at hd
          rw [Bool.or_eq_true] at hd
          rcases hd with h | h
          · have hm : (i : Int) ∈ xss.getD (xss.length - 1 - t) [] := by simpa using h
            have := ris_mem (ha _ (by omega)) hm
            omega
          · exact h
        · exact hd
      exact dnS_up xss p t y (dnS_inv ha p t (by omega) i hi (by omega) hd2 y hy)
theorem clo_dnS {xss : List (List Int)} (ha : ∀ i, i < xss.length → risB i (xss.getD i []) = true) (p : Int → Bool) : Clo xss (fun i => dnS xss p xss.length i) := Clo.of fun i hi hp y hy => by
  have hb := ris_mem (ha i hi) hy
  show dnS xss p xss.length ((y.toNat : Nat) : Int) = true
  rw [Int.toNat_of_nonneg hb.1]
  exact dnS_inv ha p _ (Nat.le_refl _) i hi (by omega) hp y hy

/-! ### The greatest closure inside some blocks -/
theorem insS_far (xss : List (List Int)) (p : Int → Bool) (y : Int) : ∀ (k m : Nat), (∀ j : Nat, k ≤ j → j < k + m → y ≠ (j : Int)) → insS xss p (k + m) y = insS xss p k y
  | k, 0, _ => rfl
  | k, m + 1, h => by
    show (if y = ((k + m : Nat) : Int) then _ else insS xss p (k + m) y) = _
    rw [if_neg (h (k + m) (by omega) (by omega))]
    exact insS_far xss p y k m fun j h1 h2 => h j h1 (by omega)
theorem insS_end {xss : List (List Int)} (ha : ∀ i, i < xss.length → risB i (xss.getD i []) = true) (p : Int → Bool) {i : Nat} (hi : i < xss.length) : insS xss p xss.length i = (p i && (xss.getD i []).all (insS xss p xss.length)) := by
  have e : ∀ y : Int, 0 ≤ y → y < (i : Int) → insS xss p xss.length y = insS xss p i y := fun y h0 h1 => by
    have := insS_far xss p y i (xss.length - i) (fun j h2 h3 => by omega)
    rwa [show i + (xss.length - i) = xss.length by omega] at this
  have e1 := insS_far xss p i (i + 1) (xss.length - (i + 1)) (fun j h2 h3 => by omega)
  rw [show i + 1 + (xss.length - (i + 1)) = xss.length by omega] at e1
  rw [e1]
  show (if (i : Int) = (i : Int) then insS xss p i i && (xss.getD i []).all (insS xss p i) else _) = _
  rw [if_pos rfl, insS_ge _ _ _ _ (Int.le_refl _)]
  congr 1
  rw [Bool.eq_iff_iff, List.all_eq_true, List.all_eq_true]
  constructor
  · intro h y hy
    have hb := ris_mem (ha i hi) hy
    rw [e y hb.1 hb.2]
    exact h y hy
  · intro h y hy
    have hb := ris_mem (ha i hi) hy
    rw [← e y hb.1 hb.2]
    exact h y hy
theorem clo_insS {xss : List (List Int)} (ha : ∀ i, i < xss.length → risB i (xss.getD i []) = true) (p : Int → Bool) : Clo xss (fun i => insS xss p xss.length i) := Clo.of fun i hi hp y hy => by
  have hb := ris_mem (ha i hi) hy
  show insS xss p xss.length ((y.toNat : Nat) : Int) = true
  rw [Int.toNat_of_nonneg hb.1]
  have hp' : insS xss p xss.length i = true := hp
  rw [insS_end ha p hi, Bool.and_eq_true, List.all_eq_true] at hp'
  exact hp'.2 y hy
theorem insS_sub {xss : List (List Int)} (ha : ∀ i, i < xss.length → risB i (xss.getD i []) = true) (p : Int → Bool) {i : Nat} (hi : i < xss.length) (h : insS xss p xss.length i = true) : p i = true := by
  rw [insS_end ha p hi, Bool.and_eq_true] at h
  exact h.1
theorem insS_most {xss : List (List Int)} (ha : ∀ i, i < xss.length → risB i (xss.getD i []) = true) (p : Int → Bool) (Q : Nat → Bool) (hQ : Clo xss Q) (hp : ∀ i : Nat, i < xss.length → Q i = true → p i = true) : ∀ (m i : Nat), i < m → i < xss.length → Q i = true → insS xss p xss.length i = true
  | 0, i, h, _, _ => by omega
  | m + 1, i, h, hi, hq => by
    rw [insS_end ha p hi, Bool.and_eq_true, List.all_eq_true]
    refine ⟨hp i hi hq, fun y hy => ?_⟩
    have hb := ris_mem (ha i hi) hy
    have := insS_most ha p Q hQ hp m y.toNat (by omega) (by omega) (hQ.mem hi hq hy)
    rwa [Int.toNat_of_nonneg hb.1] at this

/-! ### Sets and lists -/
theorem sel_map (b q : Int → Bool) (N : Nat) : ∀ n, n ≤ N → (sel q (rnk b n)).map (fun k => (sel b N).getD k.toNat 0) = sel (fun x => b x && q ((rnk b x.toNat : Nat) : Int)) n
  | 0, _ => rfl
  | n + 1, h => by
    have ih := sel_map b q N n (by omega)
    by_cases c : b (n : Int) = true
    · rw [rnk_yes c, sel_next, List.map_append, ih, sel_next]
      congr 1
      rw [Int.toNat_natCast, c, Bool.true_and]
      by_cases d : q ((rnk b n : Nat) : Int) = true
      · rw [if_pos d, if_pos d, List.map_singleton, Int.toNat_natCast, sel_rnk c (by omega)]
      · rw [if_neg d, if_neg d]; rfl
    · rw [rnk_no c, ih, sel_next, if_neg (by simp [c])]
      simp
theorem sel_same {p q : Int → Bool} : ∀ {n : Nat}, (∀ i : Nat, i < n → p i = q i) → sel p n = sel q n
  | 0, _ => rfl
  | n + 1, h => by rw [sel_next, sel_next, sel_same (fun i hi => h i (by omega)), h n (by omega)]
theorem clos_sel {xss : List (List Int)} (ha : ∀ i, i < xss.length → risB i (xss.getD i []) = true) {p : Int → Bool} (h : Clo xss (fun i => p i)) : closB xss (sel p xss.length) = true := by
  unfold closB
  rw [List.all_eq_true]
  intro x hx
  rw [mem_sel] at hx
  unfold inr at hx
  rw [Bool.and_eq_true, decide_eq_true_eq] at hx
  obtain ⟨⟨h1, h2⟩, h3⟩ := hx
  rw [List.all_eq_true]
  intro y hy
  rw [inL_iff, mem_sel]
  unfold inr
  have hi : x.toNat < xss.length := by omega
  have hb := ris_mem (ha _ hi) hy
  have e : p ((y.toNat : Nat) : Int) = true := h.mem hi (by show p ((x.toNat : Nat) : Int) = true; rw [Int.toNat_of_nonneg h1]; exact h3) hy
  rw [Int.toNat_of_nonneg hb.1] at e
  rw [Bool.and_eq_true, decide_eq_true_eq]
  exact ⟨by omega, e⟩

/-! ### The answers -/
noncomputable def bpP (xss : List (List Int)) (vs : List Int) : Int → Bool := fun i => lcP (xss.length + 2) (pN xss vs xss.length) (pE xss vs xss.length) (i + 1)
theorem bpL_sel (xss : List (List Int)) (vs : List Int) : bpL xss vs = sel (bpP xss vs) xss.length := rfl
/-- The pit of some blocks alone, in the numbers of all. -/
noncomputable def onP (xss : List (List Int)) (vs : List Int) (b : Int → Bool) : Int → Bool := fun x => b x && bpP (ownA xss b) (worA vs b xss.length) ((rnk b x.toNat : Nat) : Int)
theorem on_map (xss : List (List Int)) (vs : List Int) (b : Int → Bool) : (bpL (ownA xss b) (worA vs b xss.length)).map (fun k => (sel b xss.length).getD k.toNat 0) = sel (onP xss vs b) xss.length := by
  rw [bpL_sel, ownA_len]
  exact sel_map b _ _ _ (Nat.le_refl _)
theorem posZ_le {vs : List Int} {n : Nat} {c : Int} (hc : 0 ≤ c) (h : ∀ k, k < n → vs.getD k 0 ≤ c) : posZ vs n ≤ n * c := sumZ_bound hc fun k hk => by
  have := h k hk
  show max (vs.getD k 0) 0 ≤ c
  omega
theorem worA_le {vs : List Int} {n : Nat} {b : Int → Bool} (h : ∀ k, k < n → -1000000 ≤ vs.getD k 0 ∧ vs.getD k 0 ≤ 1000000) : ∀ k, k < (sel b n).length → -1000000 ≤ (worA vs b n).getD k 0 ∧ (worA vs b n).getD k 0 ≤ 1000000 := fun k hk => by
  rw [worA_at hk]
  obtain ⟨i, hi, _, e, _⟩ := sel_place hk
  rw [e, Int.toNat_natCast]
  exact h i hi
theorem full_gc (w : World) {n m : Nat} {xs : List Int} (hn : netW n m xs = true) (hx : xs.length = m * 3) : FullX n m xs (gfV n m xs) (gcS n m xs) := by
  have h1 := (gc_ends w hn hx).1
  by_cases h : ∃ v S, FullX n m xs v S
  · unfold gfV gcS
    rw [dif_pos h, dif_pos h]
    exact h.choose_spec.choose_spec
  · unfold gcS at h1
    rw [dif_neg h] at h1
    cases h1
theorem lb_bp (w : World) {xss : List (List Int)} {vs : List Int} (ha : ∀ i, i < xss.length → risB i (xss.getD i []) = true) (hp : posZ vs xss.length < 1000000000) (hn : netW ((xss.length + 2 : Nat) : Int) (pN xss vs xss.length) (pE xss vs xss.length) = true) : LB xss vs (fun i => bpP xss vs i) :=
  lb_full ha hp (full_gc w hn (pE_len xss vs xss.length))

/-- The pit with some blocks forced. -/
noncomputable def fpL (xss : List (List Int)) (vs l : List Int) : List Int := sel (fun x => dnS xss (inL l) xss.length x || onP xss vs (fun y => !dnS xss (inL l) xss.length y) x) xss.length
/-- The values with what is forced at 0. -/
def lfV (xss : List (List Int)) (vs l : List Int) : List Int := (List.range xss.length).map fun (i : Nat) => if dnS xss (inL l) xss.length (i : Int) then 0 else vs.getD i 0
/-- The values with what is out at -1000000000. -/
def lsV (n : Nat) (vs l : List Int) : List Int := (List.range n).map fun (i : Nat) => if inL l (i : Int) then vs.getD i 0 else -1000000000
noncomputable def piL (xss : List (List Int)) (vs l : List Int) : List Int := sel (onP xss vs (insS xss (inL l) xss.length)) xss.length
theorem lfV_at {xss : List (List Int)} {vs l : List Int} {i : Nat} (hi : i < xss.length) : (lfV xss vs l).getD i 0 = if dnS xss (inL l) xss.length (i : Int) then 0 else vs.getD i 0 := by
  unfold lfV
  rw [List.getD_eq_getElem?_getD, List.getElem?_map, List.getElem?_range hi]
  rfl
theorem lsV_at {n : Nat} {vs l : List Int} {i : Nat} (hi : i < n) : (lsV n vs l).getD i 0 = if inL l (i : Int) then vs.getD i 0 else -1000000000 := by
  unfold lsV
  rw [List.getD_eq_getElem?_getD, List.getElem?_map, List.getElem?_range hi]
  rfl
theorem lf_pit {xss : List (List Int)} {vs l : List Int} (hp : pgB xss vs = true) : PitOk xss (lfV xss vs l) := by
  obtain ⟨ha, hv⟩ := pg_true hp
  have hw := val_wide hv
  refine ⟨ha, by simp [lfV], fun k hk => ?_⟩
  rw [lfV_at hk]
  have := hw k (by omega)
  split <;> omega
theorem ls_pit {xss : List (List Int)} {vs l : List Int} (hp : pgB xss vs = true) : PitOk xss (lsV xss.length vs l) := by
  obtain ⟨ha, hv⟩ := pg_true hp
  have hw := val_wide hv
  refine ⟨ha, by simp [lsV], fun k hk => ?_⟩
  rw [lsV_at hk]
  have := hw k (by omega)
  split <;> omega
theorem vs_box {xss : List (List Int)} {vs : List Int} (hp : pgB xss vs = true) : ∀ k, k < xss.length → -1000000 ≤ vs.getD k 0 ∧ vs.getD k 0 ≤ 1000000 := fun k hk => by
  obtain ⟨ha, hv⟩ := pg_true hp
  obtain ⟨e, _, _, hw⟩ := val_yes hv
  exact wall_at hw (by omega)
theorem own_net {xss : List (List Int)} {vs : List Int} (hp : pgB xss vs = true) (b : Int → Bool) : netW (((ownA xss b).length + 2 : Nat) : Int) (pN (ownA xss b) (worA vs b xss.length) (ownA xss b).length) (pE (ownA xss b) (worA vs b xss.length) (ownA xss b).length) = true := by
  obtain ⟨ha, _⟩ := pg_true hp
  have hl := arc_len ha
  have hb := worA_le (b := b) (vs_box hp)
  have hm : (ownA xss b).length ≤ 120 := by rw [ownA_len]; have := sel_len b xss.length; omega
  rcases Nat.eq_zero_or_pos (ownA xss b).length with h0 | h0
  · rw [h0]
    rfl
  · have ha2 : arcB (ownA xss b) = true := arc_true ⟨h0, hm⟩ (fun i hi => own_ris (fun i hi => arcB_at ha hi) b i hi)
    exact pE_net ha2 fun k hk => by
      rw [ownA_len] at hk
      have := hb k hk
      omega
theorem sb_on (w : World) {xss : List (List Int)} {vs : List Int} (hp : pgB xss vs = true) (b : Int → Bool) : SB xss vs b (fun i => onP xss vs b i) := by
  obtain ⟨ha, _⟩ := pg_true hp
  have hl := arc_len ha
  have hb := worA_le (b := b) (vs_box hp)
  have hm : (sel b xss.length).length ≤ 120 := by have := sel_len b xss.length; omega
  have h1 := posZ_le (c := 1000000) (by omega) fun k hk => (hb k hk).2
  have := sb_of (fun i hi => arcB_at ha hi) (lb_bp w (own_ris (fun i hi => arcB_at ha hi) b) (by rw [ownA_len]; omega) (own_net hp b))
  exact this
theorem fp_eq (w : World) {xss : List (List Int)} {vs l : List Int} (hp : pgB xss vs = true) : sel (addL (bpL xss (lfV xss vs l)) (inL (clL xss l))) xss.length = fpL xss vs l := by
  obtain ⟨ha, _⟩ := pg_true hp
  have hl := arc_len ha
  have hw := vs_box hp
  have ar : ∀ i, i < xss.length → risB i (xss.getD i []) = true := fun i hi => arcB_at ha hi
  have hpos := posZ_le (vs := lfV xss vs l) (n := xss.length) (c := 1000000) (by omega) fun k hk => by
    rw [lfV_at hk]
    have := hw k hk
    split <;> omega
  have hpit := lf_pit (l := l) hp
  have h1 := lb_bp w (vs := lfV xss vs l) ar (by omega) (pE_net ha hpit.wide)
  have h2 := sb_on w hp (fun y => !dnS xss (inL l) xss.length y)
  have key := forced_eq ar (clo_dnS ar (inL l)) (fun i hi => lfV_at hi) h1 h2
  refine sel_same fun i hi => ?_
  have e1 : inL (clL xss l) (i : Int) = dnS xss (inL l) xss.length i := by
    rw [Bool.eq_iff_iff, inL_iff]
    unfold clL
    rw [mem_sel]
    unfold inr
    rw [Bool.and_eq_true, decide_eq_true_eq]
    exact ⟨fun h => h.2, fun h => ⟨by omega, h⟩⟩
  have e2 : (bpL xss (lfV xss vs l)).contains (i : Int) = bpP xss (lfV xss vs l) i := by
    rw [bpL_sel, Bool.eq_iff_iff, List.contains_iff_mem, mem_sel]
    unfold inr
    rw [Bool.and_eq_true, decide_eq_true_eq]
    exact ⟨fun h => h.2, fun h => ⟨by omega, h⟩⟩
  show ((bpL xss (lfV xss vs l)).contains (i : Int) || inL (clL xss l) (i : Int)) = _
  rw [e1, e2]
  cases c : dnS xss (inL l) xss.length (i : Int)
  · rw [key i hi c, Bool.or_false, Bool.false_or]
  · simp
theorem pi_eq (w : World) {xss : List (List Int)} {vs l : List Int} (hp : pgB xss vs = true) : bpL xss (lsV xss.length vs l) = piL xss vs l := by
  obtain ⟨ha, _⟩ := pg_true hp
  have hl := arc_len ha
  have hw := vs_box hp
  have ar : ∀ i, i < xss.length → risB i (xss.getD i []) = true := fun i hi => arcB_at ha hi
  have hpos := posZ_le (vs := lsV xss.length vs l) (n := xss.length) (c := 1000000) (by omega) fun k hk => by
    rw [lsV_at hk]
    have := hw k hk
    split <;> omega
  have hpit := ls_pit (l := l) hp
  have h1 := lb_bp w (vs := lsV xss.length vs l) ar (by omega) (pE_net ha hpit.wide)
  have h2 := sb_on w hp (insS xss (inL l) xss.length)
  have key := inside_eq ar (fun i hi => lsV_at hi) (by omega) (clo_insS ar (inL l)) (fun i hi h => insS_sub ar _ hi h) (fun Q hQ hq i hi h => insS_most ar _ Q hQ hq (i + 1) i (by omega) hi h) h1 h2
  rw [bpL_sel]
  refine sel_same fun i hi => ?_
  rw [key i hi]
  unfold onP
  cases insS xss (inL l) xss.length (i : Int) <;> simp
end Go.Proofs.Ythfmgclndokknaa

namespace Go.Proofs.Ythfmgclndokknaa
open Go.RowKit
set_option linter.unusedVariables false

/-- Lists of lists, and a list apart from them. -/
structure OwnW (w : World) (B U : Nat) (o q : Value) (O : List (List Int)) (W : List Int) (vs : List Value) : Prop where
  rows : RowsV w B U o O vs
  row : Row w B q W
  qtop : ∀ k, q.ownBlock = some k → k < U
  far : ∀ i, i < O.length → ∀ k, (vs.getD i (.slice none 0 0)).ownBlock = some k → q.ownBlock ≠ some k
theorem OwnW.nil (w : World) (B U : Nat) : OwnW w B U (.slice none 0 0) (.slice none 0 0) [] [] [] :=
  ⟨⟨rfl, World.ownsRow_nil _ _ _ _, fun k hk => by simp [Value.ownBlock] at hk, fun i hi => by simp at hi, fun i k hi => by simp at hi, fun i j hi => by simp at hi⟩, Row.nil _ _, fun k hk => by simp [Value.ownBlock] at hk, fun i hi => by simp at hi⟩
theorem OwnW.below {w w' : World} {B U N : Nat} {o q : Value} {O : List (List Int)} {W : List Int} {vs : List Value} (h : OwnW w B U o q O W vs) (hb : Below N w w') (hU : U ≤ N) : OwnW w' B U o q O W vs :=
  ⟨h.rows.stays fun k _ hk => hb.block k (by omega), own_stays h.row fun k hk => hb.block k (by have := h.qtop k hk; omega), h.qtop, h.far⟩
theorem OwnW.push {w w4 : World} {B U : Nat} {o o' q p : Value} {O : List (List Int)} {W ys : List Int} {vs : List Value} (h : OwnW w B U o q O W vs) (hp : Row w B p ys) (hpo : ∀ k, p.ownBlock = some k → U ≤ k)
    (ho : w4.ownsRow B 23 1 o' (O.length + 1) (vs ++ [p])) (hg : w.grownBy w4 o.ownBlock) : OwnW w4 B w4.heap.size o' q (O ++ [ys]) W (vs ++ [p]) := by
  have hr := h.rows.push hp hpo ho hg
  have hq := World.ownsRow.kept h.row hg (h.rows.apart_row h.row)
  refine ⟨hr, hq, fun k hk => (World.ownsRow.lt hq k hk).2, fun i hi k hk => ?_⟩
  have hl := h.rows.len
  rw [List.length_append, List.length_singleton] at hi
  by_cases e : i < O.length
  · rw [getD_app (by omega)] at hk
    exact h.far i e k hk
  · obtain rfl : i = O.length := by omega
    rw [← hl, getD_end] at hk
    intro hq2
    have h1 := hpo k hk
    have h2 := h.qtop k hq2
    omega
theorem OwnW.add {w w4 : World} {B U : Nat} {o q q' : Value} {O : List (List Int)} {W W' : List Int} {vs : List Value} (h : OwnW w B U o q O W vs) (hU : U ≤ w.heap.size) (hq : Row w4 B q' W') (hg : w.grownBy w4 q.ownBlock) (hb : q'.ownBlock = q.ownBlock ∨ q'.ownBlock = some w.heap.size) :
    OwnW w4 B w4.heap.size o q' O W' vs := by
  have hs := hg.size
  have hno : o.ownBlock = none ∨ o.ownBlock ≠ q.ownBlock := by
    cases e : o.ownBlock with
    | none => exact .inl rfl
    | some k => exact .inr fun e' => own_types h.rows.own h.row (by decide) e e'.symm
  refine ⟨⟨h.rows.len, World.ownsRow.kept h.rows.own hg hno, fun k hk => by have := h.rows.top k hk; omega, fun i hi => World.ownsRow.kept (h.rows.row i hi) hg ?_, fun i k hi hk => by have := h.rows.rtop i k hi hk; omega, h.rows.apart⟩, hq, fun k hk => (World.ownsRow.lt hq k hk).2, fun i hi k hk e => ?_⟩
  · cases e : (vs.getD i (.slice none 0 0)).ownBlock with
    | none => exact .inl rfl
    | some k => exact .inr fun e' => h.far i hi k e e'.symm
  · rcases hb with e' | e'
    · rw [e'] at e
      exact h.far i hi k hk e
    · have h1 := h.rows.rtop i k hi hk
      rw [e'] at e
      injection e with e
      omega

set_option maxHeartbeats 1000000 in
theorem c_paEdges0 (A A2 : Option Addr) (c c2 : Nat) (w : World) : Calls Try.prog 28 #[.slice A 0 c, .slice A2 0 c2] w (GivesP w 0 []) := by
  go_enter Try.func28, Try.ntmps28
  go_wp2
  go_loopw [5, 13] (fun o i wr => o = .slice none 0 0 ∧ i = .int .i64 ((0 : Nat) : Int) ∧ Below w.heap.size w wr) (fun _ _ _ => 0)
  case atStart => exact ⟨rfl, rfl, Below.refl _ _⟩
  case round =>
    obtain ⟨rfl, rfl, hb⟩ := hrel
    have HB := Lib.hid hb
    clear hb
    go_wp2
    go_ret
    exact ⟨_, rfl, World.ownsRow_nil _ _ _ _, HB.out⟩

set_option maxHeartbeats 1000000 in
theorem c_paFindA (xss : List (List Int)) (vs : List Int) (b : Int → Bool) (v u : Value) (w : World) (hp : pgB xss vs = true) (h : SeenL w v (ownA xss b)) (hu : Seen w u (worA vs b xss.length)) :
    Calls Try.prog 47 #[v, u] w (GivesRow w (bpL (ownA xss b) (worA vs b xss.length))) := by
  obtain ⟨ha, _⟩ := pg_true hp
  have hb := worA_le (b := b) (vs_box hp)
  have hl := arc_len ha
  have hm : (ownA xss b).length ≤ 120 := by rw [ownA_len]; have := sel_len b xss.length; omega
  have hlw : (worA vs b xss.length).length = (ownA xss b).length := by rw [worA_len, ownA_len]
  rcases Nat.eq_zero_or_pos (ownA xss b).length with h0 | h0
  · have e1 : ownA xss b = [] := List.eq_nil_of_length_eq_zero h0
    have e2 : worA vs b xss.length = [] := List.eq_nil_of_length_eq_zero (by omega)
    rw [e1] at h
    rw [e2] at hu
    rw [e1, e2]
    have HN : Hid (netW ((0 + 2 : Nat) : Int) 0 [] = true) := by show _ = _; rfl
    have HE := Lib.hid (lc_ends w (N := 0) (m := 0) (xs := []) (by rfl) rfl)
    have HX : Hid (bpL [] [] = sel (fun i => lcP (0 + 2) 0 [] (i + 1)) 0) := rfl
    obtain ⟨A, c, rfl, hm⟩ := h.shape
    obtain ⟨A2, c2, rfl⟩ := hu.shape
    have C0 := Lib.hid (c_paEdges0 A A2 c c2 w)
    rw [HX.out]
    clear h hu hp ha hb hl hm hlw h0 e1 e2
    go_enter Try.func47, Try.ntmps47
    go_wp2_with fail
    refine C0.out.mono ?_
    rintro e w1 ⟨v1, rfl, hr, hb⟩
    have HB := Lib.hid hb
    have CL := Lib.hid (c_mfLeast (0 + 2) 0 [] v1 w1 HN.out hr.seen)
    obtain ⟨A1, c1, rfl⟩ := hr.shape
    clear hr hb C0
    rw [show ((0 + 2 : Nat) : Int) = 2 by omega] at CL
    go_wp2_with fail
    refine CL.out.mono ?_
    rintro e w2 ⟨v2, rfl, hr, hb⟩
    have HB2 : Hid (Below w.heap.size w w2) := HB.out.trans (hb.mono HB.out.size)
    have CO := Lib.hid (c_paOf 0 (lcP (0 + 2) 0 []) _ v2 w2 (by omega) HE.out.1 HE.out.2 hr)
    obtain ⟨A3, c3, rfl⟩ := hr.shape
    clear hr hb CL
    go_wp2_with fail
    refine CO.out.mono ?_
    rintro e w3 ⟨v3, rfl, hr, hb⟩
    have HB3 : Hid (Below w.heap.size w w3) := HB2.out.trans (hb.mono HB2.out.size)
    have HR3 := Lib.hid (hr.mono HB2.out.size)
    clear hr hb
    go_wp2
    go_ret
    exact ⟨_, rfl, HR3.out, HB3.out⟩
  · have ha2 : arcB (ownA xss b) = true := arc_true ⟨h0, hm⟩ (fun i hi => own_ris (fun i hi => arcB_at ha hi) b i hi)
    exact c_paFind _ _ v u w ⟨ha2, hlw, fun k hk => by
      rw [ownA_len] at hk
      have := hb k hk
      omega⟩ h hu
end Go.Proofs.Ythfmgclndokknaa

namespace Go.Proofs.Ythfmgclndokknaa
open Go.RowKit
set_option linter.unusedVariables false

/-- The places of the first j blocks, one up. -/
def atT (b : Int → Bool) (n j : Nat) : List Int := (List.range n).map fun (i : Nat) => if b (i : Int) && decide (rnk b i < j) then ((rnk b i : Nat) : Int) + 1 else 0
theorem atT_len (b : Int → Bool) (n j : Nat) : (atT b n j).length = n := by simp [atT]
theorem atT_at (b : Int → Bool) {n j i : Nat} (hi : i < n) : (atT b n j).getD i 0 = if b (i : Int) && decide (rnk b i < j) then ((rnk b i : Nat) : Int) + 1 else 0 := by
  unfold atT
  rw [List.getD_eq_getElem?_getD, List.getElem?_map, List.getElem?_range hi]
  rfl
theorem atT_zero (b : Int → Bool) (n : Nat) : atT b n 0 = List.replicate n 0 := by
  refine List.ext_getElem (by simp [atT]) fun i h1 h2 => ?_
  simp [atT]
theorem atT_set (b : Int → Bool) {n j i : Nat} (hi : i < n) (hb : b (i : Int) = true) (hr : rnk b i = j) : (atT b n j).set i ((j : Int) + 1) = atT b n (j + 1) := by
  refine List.ext_getElem (by simp [atT]) fun k h1 h2 => ?_
  rw [List.length_set, atT_len] at h1
  rw [List.getElem_set]
  by_cases e : i = k
  · subst e
    rw [if_pos rfl]
    simp [atT, hb, hr]
  · rw [if_neg e]
    simp only [atT, List.getElem_map, List.getElem_range]
    by_cases c : b (k : Int) = true
    · have : rnk b k ≠ j := fun e2 => by
        rcases Nat.lt_trichotomy i k with l | l | l
        · have := rnk_lt l hb; omega
        · exact e l
        · have := rnk_lt l c; omega
      by_cases d : rnk b k < j
      · simp [c, d]; omega
      · simp [c, d]; omega
    · simp [c]
theorem atT_all (b : Int → Bool) {n i : Nat} (hi : i < n) : (atT b n (sel b n).length).getD i 0 = if b (i : Int) then ((rnk b i : Nat) : Int) + 1 else 0 := by
  rw [atT_at b hi]
  cases c : b (i : Int)
  · rfl
  · have : rnk b i < (sel b n).length := rnk_lt hi c
    simp [this]
theorem own_yes {b : Int → Bool} {ys : List Int} {t : Nat} (ht : t < ys.length) (h : b (ys.getD t 0) = true) : ownL b (ys.take (t + 1)) = ownL b (ys.take t) ++ [((rnk b (ys.getD t 0).toNat : Nat) : Int)] := by
  unfold ownL
  have e : ys.getD t 0 = ys[t] := by simp [ht]
  rw [List.take_succ_eq_append_getElem ht, List.filter_append, List.map_append, ← e, List.filter_cons_of_pos h]
  rfl
theorem own_no {b : Int → Bool} {ys : List Int} {t : Nat} (ht : t < ys.length) (h : b (ys.getD t 0) = false) : ownL b (ys.take (t + 1)) = ownL b (ys.take t) := by
  unfold ownL
  have e : ys.getD t 0 = ys[t] := by simp [ht]
  rw [List.take_succ_eq_append_getElem ht, List.filter_append, List.map_append, ← e, List.filter_cons_of_neg (by rw [h]; exact Bool.false_ne_true)]
  simp
theorem own_slen (b : Int → Bool) (ys : List Int) (t : Nat) : (ownL b (ys.take t)).length ≤ ys.length := by
  unfold ownL
  rw [List.length_map]
  have h1 := List.length_filter_le b (ys.take t)
  rw [List.length_take] at h1
  omega

theorem row_cellT {w : World} {B g c n : Nat} {xs : List Int} (h : Row w B (.slice (some ⟨g, 0, none⟩) n c) xs) (hn : n = xs.length) (k : Nat) (hk : k < xs.length) : w.cell? ⟨g, k, none⟩ = some (.int .i64 (xs.getD k 0)) := by subst hn; exact h.cell k hk
theorem row_frozenT {w : World} {B g c n : Nat} {xs : List Int} (h : Row w B (.slice (some ⟨g, 0, none⟩) n c) xs) (hn : n = xs.length) (k : Nat) : w.frozen? ⟨g, k, none⟩ = false := by subst hn; exact h.frozen k
theorem new_one (w : World) (x : Value) (e : TypeId) : ∀ j u, [x][j]? = some u → (w.alloc (.cells #[x] e)).cell? ((⟨w.heap.size, 0, none⟩ : Addr).add j) = some u := by
  intro j u hj
  match j, hj with
  | 0, hj => simp at hj; subst hj; simp [Addr.add]
theorem src_new (w : World) (x : Value) (e : TypeId) : Src (w.alloc (.cells #[x] e)) 1 (some ⟨w.heap.size, 0, none⟩) 1 1 [x] := ⟨rfl, fun h => (by cases h), fun _ => ⟨_, rfl, new_one w x e⟩⟩

set_option maxHeartbeats 8000000 in
set_option maxRecDepth 100000 in
theorem c_paOnly (xss : List (List Int)) (vs : List Int) (b : Int → Bool) (v u z : Value) (w : World) (hp : pgB xss vs = true) (h : SeenL w v xss) (hu : Seen w u vs) (hz : Seen w z (sel b xss.length)) :
    Calls Try.prog 36 #[v, u, z] w (GivesRow w (sel (onP xss vs b) xss.length)) := by
  obtain ⟨ha, hvv⟩ := pg_true hp
  have hN := arc_len ha
  have hvl : vs.length = xss.length := by have := (val_yes hvv).1; omega
  obtain ⟨i0, hi0, hz0, hz1, hz2⟩ := info_parts list_info
  obtain ⟨j0, hj0, hy0, hy1, hy2⟩ := info_parts int_info
  have hmk : (Instr.makeSlice 23 (.int .i64 (xss.length : Int)) (.int .i64 (xss.length : Int))).run Try.prog w = .ok (.slice (some ⟨w.heap.size, 0, none⟩) xss.length xss.length) (w.alloc (.cells (madeCells #[.int .i64 0] xss.length) 3)) := by
    have := run_make (P := Try.prog) w 23 3 j0 (.int .i64 0) Try.underlying23 hj0 hy0 .i64 .i64 (xss.length : Int) (xss.length : Int) (by omega) (by omega) (by rw [hy2]; omega) (by omega)
    simpa [hy1, Value.cells] using this
  have HI := Lib.hid hi0
  have HJ := Lib.hid hj0
  clear hi0 hj0
  have CF : Hid (∀ (v1 u1 : Value) (w1 : World), SeenL w1 v1 (ownA xss b) → Seen w1 u1 (worA vs b xss.length) → Calls Try.prog 47 #[v1, u1] w1 (GivesRow w1 (bpL (ownA xss b) (worA vs b xss.length)))) := fun v1 u1 w1 h1 h2 => c_paFindA xss vs b v1 u1 w1 hp h1 h2
  have HM := Lib.hid (on_map xss vs b)
  have hml : (sel b xss.length).length ≤ xss.length := sel_len b xss.length
  have EB : Hid (∀ j, j < (sel b xss.length).length → ∃ i : Nat, i < xss.length ∧ (sel b xss.length).getD j 0 = (i : Int) ∧ (atT b xss.length j).set i ((j : Int) + 1) = atT b xss.length (j + 1) ∧ (ownA xss b).take (j + 1) = (ownA xss b).take j ++ [ownL b ((xss.getD i []).take (xss.getD i []).length)] ∧ (worA vs b xss.length).take (j + 1) = (worA vs b xss.length).take j ++ [vs.getD i 0]) := fun j hj => by
    obtain ⟨i, hi, hb, e, er⟩ := sel_place hj
    refine ⟨i, hi, e, atT_set b hi hb er, ?_, ?_⟩
    · rw [List.take_succ_eq_append_getElem (by rw [ownA_len]; exact hj), List.take_length]
      have := ownA_at (xss := xss) (b := b) hj
      rw [e, Int.toNat_natCast] at this
      rw [← this]
      simp [ownA_len, hj]
    · rw [List.take_succ_eq_append_getElem (by rw [worA_len]; exact hj)]
      have := worA_at (vs := vs) (b := b) hj
      rw [e, Int.toNat_natCast] at this
      rw [← this]
      simp [worA_len, hj]
  have TA : Hid (∀ i, i < xss.length → (atT b xss.length (sel b xss.length).length).getD i 0 = if b (i : Int) then ((rnk b i : Nat) : Int) + 1 else 0) := fun i hi => atT_all b hi
  have TL : Hid (∀ j, (atT b xss.length j).length = xss.length) := atT_len b xss.length
  have T0 : Hid (atT b xss.length 0 = List.replicate xss.length 0) := atT_zero b xss.length
  have OL : Hid (∀ j, j ≤ (sel b xss.length).length → ((ownA xss b).take j).length = j ∧ ((worA vs b xss.length).take j).length = j) := fun j hj => ⟨by rw [List.length_take, ownA_len]; omega, by rw [List.length_take, worA_len]; omega⟩
  have OE : Hid ((ownA xss b).take (sel b xss.length).length = ownA xss b ∧ (worA vs b xss.length).take (sel b xss.length).length = worA vs b xss.length) := ⟨List.take_of_length_le (by rw [ownA_len]; exact Nat.le_refl _), List.take_of_length_le (by rw [worA_len]; exact Nat.le_refl _)⟩
  have HR : Hid (∀ t, t < (bpL (ownA xss b) (worA vs b xss.length)).length → 0 ≤ (bpL (ownA xss b) (worA vs b xss.length)).getD t 0 ∧ (bpL (ownA xss b) (worA vs b xss.length)).getD t 0 < ((sel b xss.length).length : Int)) := fun t ht => by
    rw [bpL_sel, ownA_len] at ht ⊢
    exact sel_at ht
  have HRl : (bpL (ownA xss b) (worA vs b xss.length)).length ≤ 120 := by rw [bpL_sel, ownA_len]; have := sel_len (bpP (ownA xss b) (worA vs b xss.length)) (sel b xss.length).length; omega
  have EI : Hid (∀ i, i < xss.length → ∀ t, t < (xss.getD i []).length → 0 ≤ (xss.getD i []).getD t 0 ∧ (xss.getD i []).getD t 0 < (i : Int)) := fun i hi t ht => arc_mem ha hi (getD_memN ht)
  have EL : Hid (∀ i, i < xss.length → (xss.getD i []).length ≤ 120) := fun i hi => arc_slen ha hi
  obtain ⟨A, c, rfl, _⟩ := h.shape
  obtain ⟨A2, c2, rfl⟩ := hu.shape
  obtain ⟨A3, c3, rfl⟩ := hz.shape
  have ER : Hid (∀ k, k < xss.length → ∃ b off A' c', A = some ⟨b, off, none⟩ ∧ ∀ u, Below w.heap.size w u → u.cell? ⟨b, off + k, none⟩ = some (.slice A' (xss.getD k []).length c') ∧ Seen u (.slice A' (xss.getD k []).length c') (xss.getD k [])) := fun k hk => h.row2 hk
  have EV : Hid (∀ k, k < xss.length → ∃ b off, A2 = some ⟨b, off, none⟩ ∧ ∀ u, Below w.heap.size w u → u.cell? ⟨b, off + k, none⟩ = some (.int .i64 (vs.getD k 0))) := fun k hk => by
    obtain ⟨b, off, e, hb, hc⟩ := hu.at2 (k := k) (by omega)
    exact ⟨b, off, e, fun u hu => by rw [hu.cell (p := ⟨b, off + k, none⟩) hb]; exact hc⟩
  have EZ : Hid (∀ k, k < (sel b xss.length).length → ∃ b2 off, A3 = some ⟨b2, off, none⟩ ∧ ∀ u, Below w.heap.size w u → u.cell? ⟨b2, off + k, none⟩ = some (.int .i64 ((sel b xss.length).getD k 0))) := fun k hk => by
    obtain ⟨b2, off, e, hb, hc⟩ := hz.at2 (k := k) (by omega)
    exact ⟨b2, off, e, fun u hu => by rw [hu.cell (p := ⟨b2, off + k, none⟩) hb]; exact hc⟩
  rw [hvl]
  clear h hu hz ha hvv hp hvl
  rw [← HM.out]
  clear HM
  generalize bpL (ownA xss b) (worA vs b xss.length) = R at *
  obtain ⟨O, hO⟩ : ∃ O : Nat → List (List Int), O = fun j => (ownA xss b).take j := ⟨_, rfl⟩
  obtain ⟨WW, hW⟩ : ∃ WW : Nat → List Int, WW = fun j => (worA vs b xss.length).take j := ⟨_, rfl⟩
  have O0 : Hid (O 0 = [] ∧ WW 0 = []) := by rw [hO, hW]; exact ⟨rfl, rfl⟩
  simp only [show ∀ j, (ownA xss b).take j = O j from fun j => by rw [hO], show ∀ j, (worA vs b xss.length).take j = WW j from fun j => by rw [hW]] at EB OL OE
  clear hO hW
  generalize worA vs b xss.length = WF at *
  generalize ownA xss b = OF at *
  generalize atT b xss.length = T at *
  generalize sel b xss.length = bs at *
  generalize hn : xss.length = N at *
  clear hn
  go_enter Try.func36, Try.ntmps36
  go_wp2_with fail
  have HT0 : Hid (Row (w.alloc (.cells (madeCells #[.int .i64 0] N) 3)) w.heap.size (.slice (some ⟨w.heap.size, 0, none⟩) N N) (T 0)) := by rw [T0.out]; exact row_zeros w N (by unfold maxLen; omega)
  have HB1 : Hid (Below w.heap.size w (w.alloc (.cells (madeCells #[.int .i64 0] N) 3))) := (Below.refl _ _).alloc (Nat.le_refl _) _
  clear hmk
  generalize w.alloc (.cells (madeCells #[.int .i64 0] N) 3) = w1 at *
  go_loopw [25] (fun i wr => ∃ j : Nat, j ≤ bs.length ∧ i = .int .i64 j ∧ Row wr w.heap.size (.slice (some ⟨w.heap.size, 0, none⟩) N N) (T j) ∧ Below w.heap.size w wr) (fun i _ => bs.length - (RowKit.intOf i).toNat)
  case atStart => exact ⟨0, Nat.zero_le _, rfl, HT0.out, HB1.out⟩
  case round =>
    obtain ⟨j, hj, rfl, hr, hb⟩ := hrel
    have HBj := Lib.hid hb
    by_cases hlt : j < bs.length
    · obtain ⟨b2, off, rfl, hE⟩ := EZ.out j hlt
      have q1 := hE wr HBj.out
      obtain ⟨i, hi, e, hT, _, _⟩ := EB.out j hlt
      rw [e] at q1
      have tl := TL.out j
      have st := Row.set_ tl.symm hr i ((j : Int) + 1)
      rw [hT] at st
      have R1 := Lib.hid st.1
      have R2 : Hid (Below w.heap.size w (wr.setCell ⟨w.heap.size, i, none⟩ (.int .i64 ((j : Int) + 1)))) := HBj.out.setCell (p := ⟨w.heap.size, i, none⟩) (Nat.le_refl _) _
      have c1 := row_cellT hr tl.symm i (by omega)
      have f1 := row_frozenT hr tl.symm i
      have d1 : (0 : Int) ≤ (j : Int) := by omega
      have d2 : (j : Int) < (bs.length : Int) := by omega
      have d3 : (0 : Int) ≤ (i : Int) := by omega
      have d4 : (i : Int) < (N : Int) := by omega
      clear hr hb hE e hT st
      go_wp2
      exact ⟨⟨j + 1, by omega, by go_num, R1.out, R2.out⟩, by simp [RowKit.intOf]; omega⟩
    · obtain rfl : j = bs.length := by omega
      have HTA := Lib.hid hr
      obtain ⟨w2, ew2⟩ : ∃ u, u = wr := ⟨_, rfl⟩
      subst ew2
      clear hr hb HT0 HB1
      go_wp2_with fail
      go_loopw [10, 11, 38] (fun o q i wr => ∃ (j : Nat) (ps : List Value), j ≤ bs.length ∧ i = .int .i64 j ∧ OwnW wr w2.heap.size wr.heap.size o q (O j) (WW j) ps ∧ Below w2.heap.size w2 wr) (fun _ _ i _ => bs.length - (RowKit.intOf i).toNat)
      case atStart => exact ⟨0, [], Nat.zero_le _, rfl, by rw [O0.out.1, O0.out.2]; exact OwnW.nil _ _ _, Below.refl _ _⟩
      case round =>
        obtain ⟨j, ps, hj, rfl, ho, hb⟩ := hrel
        obtain ⟨wo, ewo⟩ : ∃ u, u = wr := ⟨_, rfl⟩
        subst ewo
        obtain ⟨AO, CO, hso⟩ := Rows.shape ⟨_, ho.rows⟩
        obtain ⟨AQ, CQ, hsq⟩ := ho.row.shape
        obtain ⟨l1, l2⟩ := OL.out j hj
        rw [l1] at hso
        rw [l2] at hsq
        subst hso
        subst hsq
        have HO := Lib.hid ho
        have HBo := Lib.hid hb
        have HBw : Hid (Below w.heap.size w wo) := HBj.out.trans (hb.mono HBj.out.size)
        clear ho hb
        by_cases hlt : j < bs.length
        · obtain ⟨b3, off3, rfl, hE3⟩ := EZ.out j hlt
          have q3 := hE3 wo HBw.out
          obtain ⟨i, hi, e, _, hO1, hW1⟩ := EB.out j hlt
          rw [e] at q3
          obtain ⟨b4, off4, A4, c4, rfl, hE4⟩ := ER.out i hi
          have q4 := (hE4 wo HBw.out).1
          have HE4 := Lib.hid hE4
          obtain ⟨b5, off5, rfl, hE5⟩ := EV.out i hi
          have HE5 := Lib.hid hE5
          have EIi := Lib.hid (EI.out i hi)
          have ELi := EL.out i hi
          have HO1 := Lib.hid hO1
          have HW1 := Lib.hid hW1
          have d1 : (0 : Int) ≤ (j : Int) := by omega
          have d2 : (j : Int) < (bs.length : Int) := by omega
          have d3 : (0 : Int) ≤ (i : Int) := by omega
          have d4 : (i : Int) < (N : Int) := by omega
          clear hE3 e hO1 hW1 hE4 hE5
          generalize xss.getD i [] = ys at *
          have KY : Hid (∀ t, t < ys.length → b (ys.getD t 0) = true → ownL b (ys.take (t + 1)) = ownL b (ys.take t) ++ [((rnk b (ys.getD t 0).toNat : Nat) : Int)]) := fun t => own_yes
          have KN : Hid (∀ t, t < ys.length → b (ys.getD t 0) = false → ownL b (ys.take (t + 1)) = ownL b (ys.take t)) := fun t => own_no
          have KL : Hid (∀ t, (ownL b (ys.take t)).length ≤ ys.length) := own_slen b ys
          have K0 : Hid (ownL b (ys.take 0) = []) := rfl
          obtain ⟨K, hK⟩ : ∃ K : Nat → List Int, K = fun t => ownL b (ys.take t) := ⟨_, rfl⟩
          simp only [show ∀ t, ownL b (ys.take t) = K t from fun t => by rw [hK]] at KY KN KL K0 HO1
          clear hK
          go_wp2_with fail
          go_loopw [14, 47] (fun l x wz => ∃ t : Nat, t ≤ ys.length ∧ x = .int .i64 t ∧ Row wz wo.heap.size l (K t) ∧ Below wo.heap.size wo wz) (fun _ x _ => ys.length - (RowKit.intOf x).toNat)
          case atStart => exact ⟨0, Nat.zero_le _, rfl, by rw [K0.out]; exact Row.nil _ _, Below.refl _ _⟩
          case round =>
            obtain ⟨t, ht, rfl, hr, hb⟩ := hrel
            obtain ⟨wi, ewi⟩ : ∃ u, u = wr := ⟨_, rfl⟩
            subst ewi
            obtain ⟨AK, CK, hsk⟩ := hr.shape
            subst hsk
            have HRK := Lib.hid hr
            have HBi := Lib.hid hb
            clear hr hb
            have HB2 : Hid (Below w2.heap.size w2 wi) := HBo.out.trans (HBi.out.mono HBo.out.size)
            have HBv : Hid (Below w.heap.size w wi) := HBw.out.trans (HBi.out.mono HBw.out.size)
            have kl := KL.out t
            by_cases htl : t < ys.length
            · have HSi := Lib.hid (HE4.out _ HBv.out).2
              obtain ⟨bY, oY, rfl, _, q6⟩ := HSi.out.at2 htl
              obtain ⟨s0, s1⟩ := EIi.out t htl
              have KYt := Lib.hid (KY.out t htl)
              have KNt := Lib.hid (KN.out t htl)
              have e1 : (0 : Int) ≤ (t : Int) := by omega
              have e2 : (t : Int) < (ys.length : Int) := by omega
              generalize ys.getD t 0 = y at *
              obtain ⟨y', rfl⟩ := Int.eq_ofNat_of_zero_le s0
              have hy' : y' < N := by omega
              rw [Int.toNat_natCast] at KYt
              have HTi : Row wi w.heap.size (.slice (some ⟨w.heap.size, 0, none⟩) N N) (T bs.length) := own_stays HTA.out fun k hk => HB2.out.block k (World.ownsRow.lt HTA.out k hk).2
              have q7 := row_cellT HTi (TL.out _).symm y' (by rw [TL.out]; exact hy')
              rw [TA.out y' hy'] at q7
              clear HTi
              have f1 : (0 : Int) ≤ (y' : Int) := by omega
              have f2 : (y' : Int) < (N : Int) := by omega
              cases hby : b (y' : Int)
              · have G := Lib.hid (KNt.out hby)
                rw [hby] at q7
                simp only [Bool.false_eq_true, if_false] at q7
                clear hby KYt KNt
                go_wp2
                exact ⟨⟨t + 1, by omega, by go_num, by rw [G.out]; exact HRK.out, HBi.out⟩, by simp [RowKit.intOf]; omega⟩
              · have G := Lib.hid (KYt.out hby)
                rw [hby] at q7
                simp only [if_true] at q7
                have rl : rnk b y' ≤ 120 := by have := sel_len b y'; unfold rnk; omega
                clear hby KYt KNt
                generalize rnk b y' = r at *
                have r1 : ((r : Int) + 1) > 0 := by omega
                have r2 : (r : Int) + 1 - 1 = (r : Int) := by omega
                have sw := HBi.out.size
                generalize K t = kt at *
                go_wp2_with (at_builtin; refine wpList_append_own _ rfl _ _ 23 rfl (wo.heap.size) 3 j0 (.int .i64 0) 1 8 Try.underlying23 HJ.out hy0 hy1 hy2 rfl (by decide) _ _ _ rfl (World.ownsRow.alloc HRK.out _) ⟨wi.heap.size, 0, none⟩ 1 1 [.int .i64 (r : Int)] rfl rfl ?e1 ?e2 ?e3 ?e4 ?e5 ?_)
                case e1 =>
                  intro j u hj
                  match j, hj with
                  | 0, hj => simp at hj; subst hj; simp [Addr.add]
                case e2 => intro u hu; simp at hu; subst hu; rfl
                case e3 => unfold maxLen; omega
                case e4 => omega
                case e5 => simp; omega
                intro v' w5 hown' hgrow _
                have R1 : Hid (Row w5 wo.heap.size v' (K (t + 1))) := by rw [G.out]; exact row_more hown'
                have R2 : Hid (Below wo.heap.size wo w5) := (HBi.out.alloc sw _).grown hgrow (by simp; omega) (fun g hg => (World.ownsRow.lt HRK.out g hg).1)
                clear hown' hgrow
                go_wp2
                exact ⟨⟨t + 1, by omega, by go_num, R1.out, R2.out⟩, by simp [RowKit.intOf]; omega⟩
            · obtain rfl : t = ys.length := by omega
              have hlen := (OL.out j hj).1
              have hlenW := (OL.out j hj).2
              have q8 := HE5.out wi HBv.out
              generalize vs.getD i 0 = val at *
              have sw := HBi.out.size
              have HOi := Lib.hid (HO.out.below HBi.out (Nat.le_refl _))
              generalize K ys.length = kt at *
              have hbb : Below wi.heap.size wi (wi.alloc (.cells #[.slice AK kt.length CK] 23)) := (Below.refl _ _).alloc (Nat.le_refl _) _
              have HP6 := Lib.hid ((HRK.out.mono HBo.out.size).below hbb)
              have HO6 := Lib.hid (HOi.out.below hbb HBi.out.size)
              have HB6 : Hid (Below w2.heap.size w2 (wi.alloc (.cells #[.slice AK kt.length CK] 23))) := HB2.out.trans (hbb.mono HB2.out.size)
              have hpo : Hid (∀ m, (Value.slice AK kt.length CK).ownBlock = some m → wo.heap.size ≤ m) := fun m hm => (World.ownsRow.lt HRK.out m hm).1
              have s2 := HB2.out.size
              have s3 := HBj.out.size
              clear hbb
              have HLN := Lib.hid hlen
              have HLW := Lib.hid hlenW
              clear hlen hlenW
              have hown : Hid ((wi.alloc (.cells #[.slice AK kt.length CK] 23)).ownsRow w2.heap.size 23 1 (.slice AO j CO) j ps) := by
                have := HO6.out.rows.own
                rw [HLN.out] at this
                exact this
              go_wp2_with (at_builtin; refine wpList_append_own _ rfl _ _ 22 rfl w2.heap.size 23 i0 (.slice none 0 0) 1 24 Try.underlying22 HI.out hz0 hz1 hz2 rfl (by decide) _ _ _ rfl hown.out ⟨wi.heap.size, 0, none⟩ 1 1 [.slice AK kt.length CK] rfl rfl ?e1 ?e2 ?e3 ?e4 ?e5 ?_)
              case e1 =>
                intro q u hq
                match q, hq with
                | 0, hq => simp at hq; subst hq; simp [Addr.add]
              case e2 => intro u hu; simp at hu; subst hu; rfl
              case e3 => unfold maxLen; omega
              case e4 => omega
              case e5 => simp; omega
              intro v' w7 hown' hgrow _
              have N1 : Hid (OwnW w7 w2.heap.size w7.heap.size v' (.slice AQ j CQ) (O (j + 1)) (WW j) (ps ++ [.slice AK kt.length CK])) := by
                have := HO6.out.push HP6.out (fun m hm => hpo.out m hm) (by rw [HLN.out]; exact hown') hgrow
                rw [← HO1.out] at this
                exact this
              have N2 : Hid (Below w2.heap.size w2 w7) := HB6.out.grown hgrow (by simp; omega) (fun g hg => (World.ownsRow.lt hown.out g hg).1)
              have N3 : Hid (Below w.heap.size w w7) := HBj.out.trans (N2.out.mono s3)
              have q9 := HE5.out w7 N3.out
              have s4 := N2.out.size
              clear hown' hgrow hown q8
              have hbc : Below w7.heap.size w7 (w7.alloc (.cells #[.int .i64 val] 3)) := (Below.refl _ _).alloc (Nat.le_refl _) _
              have M1 := Lib.hid (N1.out.below hbc (Nat.le_refl _))
              have M2 : Hid (Below w2.heap.size w2 (w7.alloc (.cells #[.int .i64 val] 3))) := N2.out.trans (hbc.mono s4)
              clear hbc
              have hown2 : Hid ((w7.alloc (.cells #[.int .i64 val] 3)).ownsRow w2.heap.size 3 1 (.slice AQ j CQ) j (ints (WW j))) := by
                have := M1.out.row
                unfold Row at this
                rw [HLW.out] at this
                exact this
              go_wp2_with (at_builtin; refine wpList_append_src rfl _ _ 23 rfl (base := w2.heap.size) (e := 3) (i := j0) (z := .int .i64 0) (size := 1) (bytes := 8) Try.underlying23 HJ.out hy0 hy1 hy2 rfl (by decide) rfl hown2.out rfl (src_new w7 (.int .i64 val) 3) ?f2 ?f3 ?f4 ?f5 ?_)
              case f2 => intro u hu; simp at hu; subst hu; rfl
              case f3 => unfold maxLen; omega
              case f4 => omega
              case f5 => simp; omega
              intro v2 w9 hown' hgrow hbk
              have hrow : Row w9 w2.heap.size v2 (WW (j + 1)) := by
                rw [HW1.out]
                unfold Row
                rw [List.length_append, HLW.out]
                have e : ints (WW j ++ [val]) = ints (WW j) ++ [.int .i64 val] := by simp [ints]
                rw [e]
                exact hown'
              have P1 : Hid (OwnW w9 w2.heap.size w9.heap.size v' v2 (O (j + 1)) (WW (j + 1)) (ps ++ [.slice AK kt.length CK])) := M1.out.add (by simp) hrow hgrow (by rw [World.size_alloc]; exact hbk)
              have P2 : Hid (Below w2.heap.size w2 w9) := M2.out.grown hgrow (by simp; omega) (fun g hg => (World.ownsRow.lt hown2.out g hg).1)
              clear hown' hgrow hbk hrow
              go_wp2
              exact ⟨⟨j + 1, _, by omega, by go_num, P1.out, P2.out⟩, by simp [RowKit.intOf]; omega⟩
        · obtain rfl : j = bs.length := by omega
          have G1 : Hid (SeenL wo (.slice AO bs.length CO) OF) := by have := Rows.seen ⟨_, HO.out.rows⟩; rwa [OE.out.1] at this
          have G2 : Hid (Seen wo (.slice AQ bs.length CQ) WF) := by have := HO.out.row.seen; rwa [OE.out.2] at this
          have C1 := Lib.hid (CF.out _ _ wo G1.out G2.out)
          clear G1 G2 HO
          go_wp2_with fail
          refine C1.out.mono ?_
          rintro e w4 ⟨vR, rfl, hr, hb⟩
          obtain ⟨AR, CR, hsr⟩ := hr.shape
          subst hsr
          have HRs := Lib.hid hr.seen
          have HB4 : Hid (Below w.heap.size w w4) := HBw.out.trans (hb.mono HBw.out.size)
          have s4 := HB4.out.size
          clear hr hb C1
          have X0 : Hid ((R.take 0).map (fun k => bs.getD k.toNat 0) = []) := rfl
          have X1 : Hid (∀ t, t < R.length → (R.take (t + 1)).map (fun k => bs.getD k.toNat 0) = (R.take t).map (fun k => bs.getD k.toNat 0) ++ [bs.getD (R.getD t 0).toNat 0]) := fun t ht => by
            have e : R.getD t 0 = R[t] := by simp [ht]
            rw [List.take_succ_eq_append_getElem ht, List.map_append, e]
            rfl
          have X2 : Hid ((R.take R.length).map (fun k => bs.getD k.toNat 0) = R.map (fun k => bs.getD k.toNat 0)) := by show _ = _; rw [List.take_length]
          have X3 : Hid (∀ t, ((R.take t).map (fun k => bs.getD k.toNat 0)).length ≤ R.length) := fun t => by rw [List.length_map, List.length_take]; omega
          obtain ⟨X, hX⟩ : ∃ X : Nat → List Int, X = fun t => (R.take t).map (fun k => bs.getD k.toNat 0) := ⟨_, rfl⟩
          simp only [show ∀ t, (R.take t).map (fun k => bs.getD k.toNat 0) = X t from fun t => by rw [hX]] at X0 X1 X2 X3
          clear hX
          go_wp2_with fail
          go_loopw [17, 81] (fun l x wz => ∃ t : Nat, t ≤ R.length ∧ x = .int .i64 t ∧ Row wz w4.heap.size l (X t) ∧ Below w4.heap.size w4 wz) (fun _ x _ => R.length - (RowKit.intOf x).toNat)
          case atStart => exact ⟨0, Nat.zero_le _, rfl, by rw [X0.out]; exact Row.nil _ _, Below.refl _ _⟩
          case round =>
            obtain ⟨t, ht, rfl, hr, hb⟩ := hrel
            obtain ⟨AX, CX, hsx⟩ := hr.shape
            subst hsx
            have HRX := Lib.hid hr
            have HBX := Lib.hid hb
            have HB5 : Hid (Below w.heap.size w wr) := HB4.out.trans (hb.mono s4)
            clear hr hb
            by_cases htl : t < R.length
            · have HSi := Lib.hid (HRs.out.below HBX.out)
              obtain ⟨bY, oY, rfl, _, q6⟩ := HSi.out.at2 htl
              obtain ⟨s0, s1⟩ := HR.out t htl
              have X1t := Lib.hid (X1.out t htl)
              have xl := X3.out t
              have e1 : (0 : Int) ≤ (t : Int) := by omega
              have e2 : (t : Int) < (R.length : Int) := by omega
              generalize R.getD t 0 = y at *
              obtain ⟨y', rfl⟩ := Int.eq_ofNat_of_zero_le s0
              have hy' : y' < bs.length := by omega
              rw [Int.toNat_natCast] at X1t
              obtain ⟨b6, off6, rfl, hE6⟩ := EZ.out y' hy'
              have q7 := hE6 wr HB5.out
              have f1 : (0 : Int) ≤ (y' : Int) := by omega
              have f2 : (y' : Int) < (bs.length : Int) := by omega
              have s5 := HBX.out.size
              clear hE6
              generalize bs.getD y' 0 = val at *
              generalize X t = xt at *
              go_wp2_with (at_builtin; refine wpList_append_own _ rfl _ _ 23 rfl (w4.heap.size) 3 j0 (.int .i64 0) 1 8 Try.underlying23 HJ.out hy0 hy1 hy2 rfl (by decide) _ _ _ rfl (World.ownsRow.alloc HRX.out _) ⟨wr.heap.size, 0, none⟩ 1 1 [.int .i64 val] rfl rfl ?e1 ?e2 ?e3 ?e4 ?e5 ?_)
              case e1 =>
                intro j u hj
                match j, hj with
                | 0, hj => simp at hj; subst hj; simp [Addr.add]
              case e2 => intro u hu; simp at hu; subst hu; rfl
              case e3 => unfold maxLen; omega
              case e4 => omega
              case e5 => simp; omega
              intro v' w5 hown' hgrow _
              have R1 : Hid (Row w5 w4.heap.size v' (X (t + 1))) := by rw [X1t.out]; exact row_more hown'
              have R2 : Hid (Below w4.heap.size w4 w5) := (HBX.out.alloc s5 _).grown hgrow (by simp; omega) (fun g hg => (World.ownsRow.lt HRX.out g hg).1)
              clear hown' hgrow
              go_wp2
              exact ⟨⟨t + 1, by omega, by go_num, R1.out, R2.out⟩, by simp [RowKit.intOf]; omega⟩
            · obtain rfl : t = R.length := by omega
              have G : Hid (Row wr w.heap.size (.slice AX (X R.length).length CX) (R.map (fun k => bs.getD k.toNat 0))) := by
                have := HRX.out.mono s4
                rw [← X2.out]
                exact this
              generalize (X R.length).length = lx at *
              go_wp2
              go_ret
              exact ⟨_, rfl, G.out, HB5.out⟩
end Go.Proofs.Ythfmgclndokknaa

namespace Go.Proofs.Ythfmgclndokknaa
open Go.RowKit
set_option linter.unusedVariables false

set_option maxHeartbeats 4000000 in
set_option maxRecDepth 100000 in
theorem c_clInside (xss : List (List Int)) (l : List Int) (v u : Value) (w : World) (ha : arcB xss = true) (hr : InN xss.length l) (hl : l.length ≤ 4000000) (h : SeenL w v xss) (hs : Seen w u l) :
    Calls Try.prog 43 #[v, u] w (GivesRow w (sel (insS xss (inL l) xss.length) xss.length)) := by
  have hN := arc_len ha
  have C1 := Lib.hid (c_clMarks xss.length l u w (by omega) (by omega) hl hr hs)
  obtain ⟨A, c, rfl, _⟩ := h.shape
  obtain ⟨A2, c2, rfl⟩ := hs.shape
  have ER : Hid (∀ k, k < xss.length → ∃ b off A' c', A = some ⟨b, off, none⟩ ∧ ∀ u, Below w.heap.size w u → u.cell? ⟨b, off + k, none⟩ = some (.slice A' (xss.getD k []).length c') ∧ Seen u (.slice A' (xss.getD k []).length c') (xss.getD k [])) := fun k hk => h.row2 hk
  have EI : Hid (∀ i, i < xss.length → ∀ t, t < (xss.getD i []).length → 0 ≤ (xss.getD i []).getD t 0 ∧ (xss.getD i []).getD t 0 < (i : Int)) := fun i hi t ht => arc_mem ha hi (getD_memN ht)
  have EL : Hid (∀ i, i < xss.length → (xss.getD i []).length ≤ 120) := fun i hi => arc_slen ha hi
  have E0 : Hid (insS xss (inL l) 0 = inL l) := rfl
  have T0 : Hid (∀ k, inT (insS xss (inL l) k) k (xss.getD k []) 0 = insS xss (inL l) k) := fun k => inT_zero _ _ _
  have TE : Hid (∀ k, inT (insS xss (inL l) k) k (xss.getD k []) (xss.getD k []).length = insS xss (inL l) (k + 1)) := fun k => inT_all _ _ _
  clear h hs hr ha
  generalize insS xss (inL l) = S at *
  generalize hn : xss.length = N at *
  clear hn
  go_enter Try.func43, Try.ntmps43
  go_wp2_with fail
  refine C1.out.mono ?_
  rintro e w1 ⟨rfl, hm, hb⟩
  rw [← E0.out] at hm
  have HM := Lib.hid hm
  have HB := Lib.hid hb
  have hw1 : w.heap.size < w1.heap.size := hm.lt (by omega)
  clear hm hb
  go_wp2_with fail
  go_loopw [15] (fun i wr => ∃ k : Nat, k ≤ N ∧ i = .int .i64 k ∧ MarkB wr w.heap.size N (S k) ∧ Below w.heap.size w wr) (fun i _ => N - (RowKit.intOf i).toNat)
  case atStart => exact ⟨0, Nat.zero_le _, rfl, HM.out, HB.out⟩
  case round =>
    obtain ⟨k, hk, rfl, hm, hb⟩ := hrel
    obtain ⟨wo, ewo⟩ : ∃ u, u = wr := ⟨_, rfl⟩
    subst ewo
    have HM := Lib.hid hm
    have HB := Lib.hid hb
    clear hm hb
    by_cases hlt : k < N
    · obtain ⟨b, off, A', c', rfl, hE⟩ := ER.out k hlt
      have HE := Lib.hid hE
      obtain ⟨q1, _⟩ := hE wo HB.out
      have EIk := Lib.hid (EI.out k hlt)
      have ELk := EL.out k hlt
      have T0k := Lib.hid (T0.out k)
      have TEk := Lib.hid (TE.out k)
      have b1 : (0 : Int) ≤ (k : Int) := by omega
      have b2 : (k : Int) < (N : Int) := by omega
      clear hE
      generalize xss.getD k [] = ys at *
      have MP : Hid (∀ t : Nat, t < ys.length → ∀ j : Nat, inT (S k) k ys (t + 1) j = if j = k then (inT (S k) k ys t k && S k (ys.getD t 0)) else inT (S k) k ys t j) := fun t ht => inT_put _ ht
      have MO : Hid (∀ t x : Nat, x < k → inT (S k) k ys t x = S k x) := fun t x hx => inT_other _ hx
      generalize inT (S k) k ys = M at *
      go_wp2_with fail
      go_loopw [23] (fun x wz => ∃ t : Nat, t ≤ ys.length ∧ x = .int .i64 t ∧ MarkB wz w.heap.size N (M t) ∧ Below w.heap.size w wz) (fun x _ => ys.length - (RowKit.intOf x).toNat)
      case atStart => exact ⟨0, Nat.zero_le _, rfl, by rw [T0k.out]; exact HM.out, HB.out⟩
      case round =>
        obtain ⟨t, ht, rfl, hmz, hbz⟩ := hrel
        have HMz := Lib.hid hmz
        have HBz := Lib.hid hbz
        clear hmz hbz
        by_cases htl : t < ys.length
        · obtain ⟨bY, oY, rfl, _, q2⟩ := (HE.out _ HBz.out).2.at2 htl
          obtain ⟨s0, s1⟩ := EIk.out t htl
          have MPt := Lib.hid (MP.out t htl)
          generalize ys.getD t 0 = x at *
          obtain ⟨i, rfl⟩ := Int.eq_ofNat_of_zero_le s0
          have hiN : i < N := by omega
          have q3 := HMz.out.cell k hlt
          have q4 := HMz.out.cell i hiN
          rw [MO.out t i (by omega)] at q4
          have q5 := HMz.out.frozen k
          have c1 : (0 : Int) ≤ (t : Int) := by omega
          have c2 : (t : Int) < (ys.length : Int) := by omega
          have c3 : (0 : Int) ≤ (i : Int) := by omega
          have c4 : (i : Int) < (N : Int) := by omega
          have N1 := Lib.hid (HMz.out.put (b := M t k && S k i) hlt (fun j _ => MPt.out j))
          have NB : Hid (Below w.heap.size w (wr.setCell ⟨w.heap.size, k, none⟩ (.bool (M t k && S k i)))) := HBz.out.setCell (Nat.le_refl _) _
          generalize M t (k : Int) = z1 at *
          generalize S k (i : Int) = z2 at *
          cases z1
          · simp only [Bool.false_and] at N1 NB
            go_wp2
            go_roundw
            case rel => exact ⟨t + 1, by omega, by go_num, N1.out.1, NB.out⟩
            case measure => simp [RowKit.intOf]; omega
          · simp only [Bool.true_and] at N1 NB
            go_wp2
            go_roundw
            case rel => exact ⟨t + 1, by omega, by go_num, N1.out.1, NB.out⟩
            case measure => simp [RowKit.intOf]; omega
        · obtain rfl : t = ys.length := by omega
          have HP := Lib.hid HMz.out
          rw [TEk.out] at HP
          go_wp2
          go_roundw
          case rel => exact ⟨k + 1, by omega, by go_num, HP.out, HBz.out⟩
          case measure => simp [RowKit.intOf]; omega
    · obtain rfl : k = N := by omega
      go_wp2_with fail
      refine (c_clList w.heap.size k (S k) wo (by omega) HM.out).mono ?_
      rintro e w2 ⟨q, rfl, hq, hb2⟩
      have HQ := Lib.hid (hq.mono HB.out.size)
      have HB2 : Hid (Below w.heap.size w w2) := HB.out.trans (hb2.mono HB.out.size)
      clear hq hb2
      go_wp2
      go_ret
      exact ⟨_, rfl, HQ.out, HB2.out⟩

end Go.Proofs.Ythfmgclndokknaa

namespace Go.Proofs.Ythfmgclndokknaa
open Go.RowKit
set_option linter.unusedVariables false

def plB (xss : List (List Int)) (vs l : List Int) : Bool := pgB xss vs && risB xss.length l
noncomputable def fpA (xss : List (List Int)) (vs l : List Int) : List Int := if plB xss vs l then fpL xss vs l else []
noncomputable def piA (xss : List (List Int)) (vs l : List Int) : List Int := if plB xss vs l then piL xss vs l else []
theorem pl_true {xss : List (List Int)} {vs l : List Int} (h : plB xss vs l = true) : pgB xss vs = true ∧ arcB xss = true ∧ risB xss.length l = true := by
  unfold plB at h
  rw [Bool.and_eq_true] at h
  exact ⟨h.1, (pg_true h.1).1, h.2⟩
theorem fpA_len (xss : List (List Int)) (vs l : List Int) : (fpA xss vs l).length ≤ 4000000 := by
  unfold fpA
  split
  · rename_i h
    have h1 := arc_len (pl_true h).2.1
    have h2 := sel_len (fun x => dnS xss (inL l) xss.length x || onP xss vs (fun y => !dnS xss (inL l) xss.length y) x) xss.length
    unfold fpL
    omega
  · simp
theorem piA_len (xss : List (List Int)) (vs l : List Int) : (piA xss vs l).length ≤ 4000000 := by
  unfold piA
  split
  · rename_i h
    have h1 := arc_len (pl_true h).2.1
    have h2 := sel_len (onP xss vs (insS xss (inL l) xss.length)) xss.length
    unfold piL
    omega
  · simp

set_option maxHeartbeats 1000000 in
theorem c_paList (xss : List (List Int)) (vs l : List Int) (v u z : Value) (w : World) (hs : ShortL xss) (hl : vs.length ≤ 4000000) (hl2 : l.length ≤ 4000000) (h : SeenL w v xss) (hu : Seen w u vs) (hz : Seen w z l) :
    Calls Try.prog 33 #[v, u, z] w fun e w' => e = .returned (.bool (plB xss vs l)) ∧ w = w' := by
  have C1 := Lib.hid (c_paGood xss vs v u w hs hl h hu)
  have HV : Hid (plB xss vs l = (pgB xss vs && risB xss.length l)) := rfl
  have hl1 := hs.1
  have C2 := Lib.hid (c_l1Rising xss.length l z w (by omega) (by omega) hl2 hz)
  obtain ⟨A, c, rfl, _⟩ := h.shape
  obtain ⟨A2, c2, rfl⟩ := hu.shape
  obtain ⟨A3, c3, rfl⟩ := hz.shape
  clear h hs hl hu hz
  generalize plB xss vs l = V at *
  cases ha : pgB xss vs
  · rw [ha] at C1 HV
    clear ha C2
    go_enter Try.func33, Try.ntmps33
    go_wp2_with fail
    refine C1.out.mono ?_
    rintro e w1 ⟨rfl, rfl⟩
    go_wp2
    go_ret
    exact ⟨ret_bool (by rw [HV.out]; rfl), rfl⟩
  · rw [ha] at C1 HV
    clear ha
    generalize risB xss.length l = R at *
    go_enter Try.func33, Try.ntmps33
    go_wp2_with fail
    refine C1.out.mono ?_
    rintro e w1 ⟨rfl, rfl⟩
    go_wp2_with fail
    refine C2.out.mono ?_
    rintro e w1 ⟨rfl, rfl⟩
    go_wp2
    go_ret
    exact ⟨ret_bool (by rw [HV.out]; simp), rfl⟩

set_option maxHeartbeats 2000000 in
theorem c_PitInsideS (xss : List (List Int)) (vs l : List Int) (v u z : Value) (w : World) (hs : ShortL xss) (hl : vs.length ≤ 4000000) (hl2 : l.length ≤ 4000000) (h : SeenL w v xss) (hu : Seen w u vs) (hz : Seen w z l) :
    Calls Try.prog 22 #[v, u, z] w (GivesRow2 w (piA xss vs l) (plB xss vs l)) := by
  have C0 := Lib.hid (c_paList xss vs l v u z w hs hl hl2 h hu hz)
  have C1 : Hid (plB xss vs l = true → Calls Try.prog 43 #[v, z] w (GivesRow w (sel (insS xss (inL l) xss.length) xss.length))) := fun hp => by
    obtain ⟨_, ha, hr⟩ := pl_true hp
    exact c_clInside xss l v z w ha (fun x hx => ris_mem hr hx) hl2 h hz
  have C2 : Hid (plB xss vs l = true → ∀ (w' : World) (y : Value), Below w.heap.size w w' → Seen w' y (sel (insS xss (inL l) xss.length) xss.length) → Calls Try.prog 36 #[v, u, y] w' (GivesRow w' (piL xss vs l))) := fun hp w' y hb hy =>
    c_paOnly xss vs (insS xss (inL l) xss.length) v u y w' (pl_true hp).1 (h.below hb) (hu.below hb) hy
  obtain ⟨A, c, rfl, _⟩ := h.shape
  obtain ⟨A2, c2, rfl⟩ := hu.shape
  obtain ⟨A3, c3, rfl⟩ := hz.shape
  unfold piA
  clear h hs hl hl2 hu hz
  cases hp : plB xss vs l
  · rw [hp] at C0
    clear C1 C2
    go_enter Try.func22, Try.ntmps22
    go_wp2_with fail
    refine C0.out.mono ?_
    rintro e w1 ⟨rfl, rfl⟩
    go_wp2
    go_ret2
    exact ⟨_, rfl, Row.nil _ _, Below.refl _ _⟩
  · rw [hp] at C0
    have D1 := Lib.hid (C1.out hp)
    have D2 := Lib.hid (C2.out hp)
    rw [if_pos rfl]
    clear hp C1 C2
    generalize piL xss vs l = R at *
    generalize sel (insS xss (inL l) xss.length) xss.length = G at *
    go_enter Try.func22, Try.ntmps22
    go_wp2_with fail
    refine C0.out.mono ?_
    rintro e w1 ⟨rfl, rfl⟩
    go_wp2_with fail
    refine D1.out.mono ?_
    rintro e w2 ⟨v2, rfl, hr, hb⟩
    have HB := Lib.hid hb
    have C3 := Lib.hid (D2.out _ _ hb hr.seen)
    obtain ⟨A4, c4, rfl⟩ := hr.shape
    clear hr hb D1 D2
    go_wp2_with fail
    refine C3.out.mono ?_
    rintro e w3 ⟨v3, rfl, hr, hb⟩
    have HB3 : Hid (Below w.heap.size w w3) := HB.out.trans (hb.mono HB.out.size)
    have HR3 := Lib.hid (hr.mono HB.out.size)
    clear hr hb
    go_wp2
    go_ret2
    exact ⟨_, rfl, HR3.out, HB3.out⟩

set_option maxHeartbeats 4000000 in
set_option maxRecDepth 100000 in
theorem c_ForcedPitS (xss : List (List Int)) (vs l : List Int) (v u z : Value) (w : World) (hs : ShortL xss) (hl : vs.length ≤ 4000000) (hl2 : l.length ≤ 4000000) (h : SeenL w v xss) (hu : Seen w u vs) (hz : Seen w z l) :
    Calls Try.prog 19 #[v, u, z] w (GivesRow2 w (fpA xss vs l) (plB xss vs l)) := by
  have C0 := Lib.hid (c_paList xss vs l v u z w hs hl hl2 h hu hz)
  obtain ⟨j0, hj0, hy0, hy1, hy2⟩ := info_parts int_info
  have HJ := Lib.hid hj0
  clear hj0
  cases hp : plB xss vs l
  · rw [hp] at C0
    obtain ⟨A, c, rfl, _⟩ := h.shape
    obtain ⟨A2, c2, rfl⟩ := hu.shape
    obtain ⟨A3, c3, rfl⟩ := hz.shape
    unfold fpA
    rw [hp]
    clear hp h hs hl hl2 hu hz
    go_enter Try.func19, Try.ntmps19
    go_wp2_with fail
    refine C0.out.mono ?_
    rintro e w1 ⟨rfl, rfl⟩
    go_wp2
    go_ret2
    exact ⟨_, rfl, Row.nil _ _, Below.refl _ _⟩
  · rw [hp] at C0
    obtain ⟨hpg, ha, hr⟩ := pl_true hp
    have hN := arc_len ha
    have C1 := Lib.hid (c_clLeast xss l v z w ha (fun x hx => ris_mem hr hx) hl2 h hz)
    have C2 : Hid (∀ (w' : World) (y : Value), Below w.heap.size w w' → Seen w' y (sel (fun y => !dnS xss (inL l) xss.length y) xss.length) → Calls Try.prog 36 #[v, u, y] w' (GivesRow w' (sel (onP xss vs (fun y => !dnS xss (inL l) xss.length y)) xss.length))) := fun w' y hb hy =>
      c_paOnly xss vs _ v u y w' hpg (h.below hb) (hu.below hb) hy
    have HL : Hid (fpA xss vs l = fpL xss vs l) := by show _ = _; unfold fpA; rw [hp]; rfl
    rw [HL.out]
    unfold fpL
    have EH : Hid (∀ k : Nat, k < xss.length → hasI (clL xss l) (k : Int) = dnS xss (inL l) xss.length k) := fun k hk => by
      rw [hasI_inL, Bool.eq_iff_iff, inL_iff]
      unfold clL
      rw [mem_sel]
      unfold inr
      rw [Bool.and_eq_true, decide_eq_true_eq]
      exact ⟨fun h => h.2, fun h => ⟨by omega, h⟩⟩
    have HC : Hid (clL xss l = sel (dnS xss (inL l) xss.length) xss.length) := rfl
    have HCl := clL_len xss l
    obtain ⟨A, c, rfl, _⟩ := h.shape
    obtain ⟨A2, c2, rfl⟩ := hu.shape
    obtain ⟨A3, c3, rfl⟩ := hz.shape
    clear h hs hl hl2 hu hz hp hpg ha hr HL
    generalize clL xss l = CL at *
    generalize dnS xss (inL l) xss.length = F at *
    have SL : Hid (∀ k, (sel (fun y => !F y) k).length ≤ k) := sel_len _
    have SH : Hid (∀ k : Nat, F (k : Int) = false → sel (fun y => !F y) (k + 1) = sel (fun y => !F y) k ++ [(k : Int)]) := fun k hk => sel_hit (by show (!F (k : Int)) = true; rw [hk]; rfl)
    have SM : Hid (∀ k : Nat, F (k : Int) = true → sel (fun y => !F y) (k + 1) = sel (fun y => !F y) k) := fun k hk => sel_miss (by show (!F (k : Int)) = false; rw [hk]; rfl)
    have S0 : Hid (sel (fun y => !F y) 0 = []) := rfl
    have HR : Hid (∀ t, t < (sel (onP xss vs (fun y => !F y)) xss.length).length → 0 ≤ (sel (onP xss vs (fun y => !F y)) xss.length).getD t 0 ∧ (sel (onP xss vs (fun y => !F y)) xss.length).getD t 0 < (xss.length : Int)) := fun t ht => sel_at ht
    have HRl := sel_len (onP xss vs (fun y => !F y)) xss.length
    have HU : Hid (∀ t, t < (sel (onP xss vs (fun y => !F y)) xss.length).length → putI (sel (fun y => ((sel (onP xss vs (fun y => !F y)) xss.length).take t).contains y || F y) xss.length) ((sel (onP xss vs (fun y => !F y)) xss.length).getD t 0) = sel (fun y => ((sel (onP xss vs (fun y => !F y)) xss.length).take (t + 1)).contains y || F y) xss.length) := fun t ht => by
      obtain ⟨a, b⟩ := HR.out t ht
      rw [putI_sel a b]
      congr 1
      funext y
      generalize sel (onP xss vs (fun y => !F y)) xss.length = R at *
      rw [List.take_succ_eq_append_getElem ht]
      have e : R.getD t 0 = R[t] := by simp [ht]
      rw [e]
      simp only [List.contains_eq_mem, List.mem_append, List.mem_singleton, Bool.decide_or]
      by_cases c : y = R[t]
      · simp [c]
      · have : (y == R[t]) = false := by simpa using c
        simp [this, c]
    have HUE : Hid (sel (fun y => ((sel (onP xss vs (fun y => !F y)) xss.length).take (sel (onP xss vs (fun y => !F y)) xss.length).length).contains y || F y) xss.length = sel (fun x => F x || onP xss vs (fun y => !F y) x) xss.length) := by
      show _ = _
      refine sel_same fun i hi => ?_
      rw [List.take_length]
      have : (sel (onP xss vs (fun y => !F y)) xss.length).contains (i : Int) = onP xss vs (fun y => !F y) i := by
        rw [Bool.eq_iff_iff, List.contains_iff_mem, mem_sel]
        unfold inr
        rw [Bool.and_eq_true, decide_eq_true_eq]
        exact ⟨fun h => h.2, fun h => ⟨by omega, h⟩⟩
      rw [this, Bool.or_comm]
    have HU0 : Hid (CL = sel (fun y => ((sel (onP xss vs (fun y => !F y)) xss.length).take 0).contains y || F y) xss.length) := by
      show _ = _
      rw [HC.out]
      exact sel_same fun i hi => by simp
    have HUl : Hid (∀ t, (sel (fun y => ((sel (onP xss vs (fun y => !F y)) xss.length).take t).contains y || F y) xss.length).length ≤ xss.length) := fun t => sel_len _ _
    rw [← HUE.out]
    clear HUE HC
    generalize sel (onP xss vs (fun y => !F y)) xss.length = R at *
    obtain ⟨U, hU⟩ : ∃ U : Nat → List Int, U = fun t => sel (fun y => (R.take t).contains y || F y) xss.length := ⟨_, rfl⟩
    simp only [show ∀ t, sel (fun y => (R.take t).contains y || F y) xss.length = U t from fun t => by rw [hU]] at HU HU0 HUl ⊢
    clear hU
    generalize sel (fun y => !F y) = X at *
    generalize xss.length = N at *
    go_enter Try.func19, Try.ntmps19
    go_wp2_with fail
    refine C0.out.mono ?_
    rintro e w1 ⟨rfl, rfl⟩
    go_wp2_with fail
    refine C1.out.mono ?_
    rintro e w3 ⟨vC, rfl, hr, hb⟩
    have HBC := Lib.hid hb
    have HRC := Lib.hid hr
    obtain ⟨AC, cC, rfl⟩ := hr.shape
    clear hr hb C1
    have s3 := HBC.out.size
    go_wp2_with fail
    go_loopw [9, 23] (fun q i wr => ∃ k : Nat, k ≤ N ∧ i = .int .i64 k ∧ Row wr w3.heap.size q (X k) ∧ Below w3.heap.size w3 wr) (fun _ i _ => N - (RowKit.intOf i).toNat)
    case atStart => exact ⟨0, Nat.zero_le _, rfl, by rw [S0.out]; exact Row.nil _ _, Below.refl _ _⟩
    case round =>
      obtain ⟨k, hk, rfl, hr, hb⟩ := hrel
      obtain ⟨AX, CX, hsx⟩ := hr.shape
      subst hsx
      have HRX := Lib.hid hr
      have HBX := Lib.hid hb
      have HBw : Hid (Below w.heap.size w wr) := HBC.out.trans (hb.mono s3)
      clear hr hb
      by_cases hlt : k < N
      · have c1 := Lib.hid (c_l1Has CL (k : Int) (.slice AC CL.length cC) wr (by omega) (HRC.out.below HBX.out).seen)
        rw [EH.out k hlt] at c1
        have SHk := Lib.hid (SH.out k)
        have SMk := Lib.hid (SM.out k)
        have sl := SL.out k
        have b1 : (0 : Int) ≤ (k : Int) := by omega
        have b2 : (k : Int) < (N : Int) := by omega
        have s4 := HBX.out.size
        generalize X k = xk at *
        cases hF : F (k : Int)
        · rw [hF] at c1
          have G := Lib.hid (SHk.out hF)
          clear hF SHk SMk
          go_wp2_with fail
          refine c1.out.mono ?_
          rintro e w5 ⟨rfl, rfl⟩
          go_wp2_with (at_builtin; refine wpList_append_own _ rfl _ _ 23 rfl (w3.heap.size) 3 j0 (.int .i64 0) 1 8 Try.underlying23 HJ.out hy0 hy1 hy2 rfl (by decide) _ _ _ rfl (World.ownsRow.alloc HRX.out _) ⟨wr.heap.size, 0, none⟩ 1 1 [.int .i64 (k : Int)] rfl rfl ?e1 ?e2 ?e3 ?e4 ?e5 ?_)
          case e1 =>
            intro j u hj
            match j, hj with
            | 0, hj => simp at hj; subst hj; simp [Addr.add]
          case e2 => intro u hu; simp at hu; subst hu; rfl
          case e3 => unfold maxLen; omega
          case e4 => omega
          case e5 => simp; omega
          intro v' w5 hown' hgrow _
          have R1 : Hid (Row w5 w3.heap.size v' (X (k + 1))) := by rw [G.out]; exact row_more hown'
          have R2 : Hid (Below w3.heap.size w3 w5) := (HBX.out.alloc s4 _).grown hgrow (by simp; omega) (fun g hg => (World.ownsRow.lt HRX.out g hg).1)
          clear hown' hgrow
          go_wp2
          exact ⟨⟨k + 1, by omega, by go_num, R1.out, R2.out⟩, by simp [RowKit.intOf]; omega⟩
        · rw [hF] at c1
          have G := Lib.hid (SMk.out hF)
          clear hF SHk SMk
          go_wp2_with fail
          refine c1.out.mono ?_
          rintro e w5 ⟨rfl, rfl⟩
          go_wp2
          exact ⟨⟨k + 1, by omega, by go_num, by rw [G.out]; exact HRX.out, HBX.out⟩, by simp [RowKit.intOf]; omega⟩
      · obtain rfl : k = N := by omega
        have C3 := Lib.hid (C2.out _ _ HBw.out HRX.out.seen)
        have HRC2 := Lib.hid (HRC.out.below HBX.out)
        go_wp2_with fail
        refine C3.out.mono ?_
        rintro e w6 ⟨vR, rfl, hr, hb⟩
        obtain ⟨AR, CR, hsr⟩ := hr.shape
        subst hsr
        have HRs := Lib.hid hr.seen
        have HB6 : Hid (Below w.heap.size w w6) := HBw.out.trans (hb.mono HBw.out.size)
        have HRC6 : Hid (Row w6 w.heap.size (.slice AC CL.length cC) (U 0)) := by rw [← HU0.out]; exact HRC2.out.below hb
        have s6 := HB6.out.size
        clear hr hb C3 HRC2
        go_wp2_with fail
        go_loopw [8, 40] (fun q x wz => ∃ t : Nat, t ≤ R.length ∧ x = .int .i64 t ∧ Row wz w.heap.size q (U t) ∧ Below w6.heap.size w6 wz) (fun _ x _ => R.length - (RowKit.intOf x).toNat)
        case atStart => exact ⟨0, Nat.zero_le _, rfl, HRC6.out, Below.refl _ _⟩
        case round =>
          obtain ⟨t, ht, rfl, hr, hb⟩ := hrel
          obtain ⟨AY, CY, hsy⟩ := hr.shape
          subst hsy
          have HRY := Lib.hid hr
          have HBY := Lib.hid hb
          have HB7 : Hid (Below w.heap.size w wr) := HB6.out.trans (hb.mono s6)
          clear hr hb
          by_cases htl : t < R.length
          · have HSi := Lib.hid (HRs.out.below HBY.out)
            obtain ⟨bY, oY, rfl, _, q6⟩ := HSi.out.at2 htl
            have HUt := Lib.hid (HU.out t htl)
            have ul := HUl.out t
            have c2 := Lib.hid (c_l1Put (U t) (R.getD t 0) _ w.heap.size wr HRY.out HB7.out.size (by omega))
            rw [HUt.out] at c2
            have e1 : (0 : Int) ≤ (t : Int) := by omega
            have e2 : (t : Int) < (R.length : Int) := by omega
            generalize R.getD t 0 = y at *
            go_wp2_with fail
            refine c2.out.mono ?_
            rintro e w8 ⟨v8, rfl, hr, hb⟩
            have R1 := Lib.hid hr
            have R2 : Hid (Below w6.heap.size w6 w8) := HBY.out.trans (hb.mono HBY.out.size)
            clear hr hb
            go_wp2
            exact ⟨⟨t + 1, by omega, by go_num, R1.out, R2.out⟩, by simp [RowKit.intOf]; omega⟩
          · obtain rfl : t = R.length := by omega
            generalize (U R.length).length = lx at *
            go_wp2
            go_ret2
            exact ⟨_, rfl, HRY.out, HB7.out⟩
end Go.Proofs.Ythfmgclndokknaa

namespace Go.Proofs.Ythfmgclndokknaa
open Go.RowKit
set_option linter.unusedVariables false

def lwB (xss : List (List Int)) (vs : List Int) (i : Int) : Bool := pgB xss vs && decide (0 ≤ i ∧ i < (xss.length : Int))
/-- All blocks but one. -/
def othL (n : Nat) (i : Int) : List Int := sel (fun k => !(k == i)) n
noncomputable def lwA (xss : List (List Int)) (vs : List Int) (i : Int) : Int := if lwB xss vs i then sumN (valF vs (bpL xss vs)) (bpL xss vs).length - sumN (valF vs (piL xss vs (othL xss.length i))) (piL xss vs (othL xss.length i)).length else 0

set_option maxHeartbeats 4000000 in
set_option maxRecDepth 100000 in
theorem c_LossWithoutS (xss : List (List Int)) (vs : List Int) (i : Int) (v u : Value) (w : World) (hs : ShortL xss) (hl : vs.length ≤ 4000000) (h : SeenL w v xss) (hu : Seen w u vs) :
    Calls Try.prog 24 #[v, u, .int .i64 i] w fun e w' => e = .returned (.tuple #[.int .i64 (lwA xss vs i), .bool (lwB xss vs i)]) ∧ Below w.heap.size w w' := by
  have C0 := Lib.hid (c_paGood xss vs v u w hs hl h hu)
  have hl1 := hs.1
  have hl3 : (xss.length : Int) - 1 ≤ 9223372036854775807 := by omega
  have C1 := Lib.hid (c_l1InD i 0 ((xss.length : Int) - 1) w)
  obtain ⟨j0, hj0, hy0, hy1, hy2⟩ := info_parts int_info
  have HJ := Lib.hid hj0
  clear hj0
  cases hp : pgB xss vs
  · rw [hp] at C0
    obtain ⟨A, c, rfl, _⟩ := h.shape
    obtain ⟨A2, c2, rfl⟩ := hu.shape
    have HB : Hid (lwB xss vs i = false) := by show _ = _; unfold lwB; rw [hp]; rfl
    have HA : Hid (lwA xss vs i = 0) := by show _ = _; unfold lwA; rw [HB.out]; rfl
    rw [HB.out, HA.out]
    clear hp h hs hl hu C1
    go_enter Try.func24, Try.ntmps24
    go_wp2_with fail
    refine C0.out.mono ?_
    rintro e w1 ⟨rfl, rfl⟩
    go_wp2
    go_ret2
    exact ⟨rfl, Below.refl _ _⟩
  · rw [hp] at C0
    by_cases hin : 0 ≤ i ∧ i ≤ (xss.length : Int) - 1
    case neg =>
      rw [decide_eq_false hin] at C1
      obtain ⟨A, c, rfl, _⟩ := h.shape
      obtain ⟨A2, c2, rfl⟩ := hu.shape
      have HB : Hid (lwB xss vs i = false) := by show _ = _; unfold lwB; rw [decide_eq_false (by omega), Bool.and_false]
      have HA : Hid (lwA xss vs i = 0) := by show _ = _; unfold lwA; rw [HB.out]; rfl
      rw [HB.out, HA.out]
      clear hp h hs hl hu hin
      go_enter Try.func24, Try.ntmps24
      go_wp2_with fail
      refine C0.out.mono ?_
      rintro e w1 ⟨rfl, rfl⟩
      go_wp2_with fail
      refine C1.out.mono ?_
      rintro e w1 ⟨rfl, rfl⟩
      go_wp2
      go_ret2
      exact ⟨rfl, Below.refl _ _⟩
    case pos =>
      rw [decide_eq_true hin] at C1
      have HB : Hid (lwB xss vs i = true) := by show _ = _; unfold lwB; rw [hp, decide_eq_true (by omega)]; rfl
      have HA : Hid (lwA xss vs i = sumN (valF vs (bpL xss vs)) (bpL xss vs).length - sumN (valF vs (piL xss vs (othL xss.length i))) (piL xss vs (othL xss.length i)).length) := by show _ = _; unfold lwA; rw [HB.out]; rfl
      rw [HB.out, HA.out]
      obtain ⟨ha, hv⟩ := pg_true hp
      have hN := arc_len ha
      have hro : risB (xss.length : Int) (othL xss.length i) = true := sel_risB _ rfl
      have hlo : (othL xss.length i).length ≤ xss.length := sel_len _ _
      have hr1 : risB (xss.length : Int) (bpL xss vs) = true := sel_risB _ rfl
      have hr2 : risB (xss.length : Int) (piL xss vs (othL xss.length i)) = true := sel_risB _ rfl
      have hb1 := val_box hv hr1
      have hb2 := val_box hv hr2
      have hl1 : (bpL xss vs).length ≤ 4000000 := by have := sel_len (bpP xss vs) xss.length; rw [bpL_sel]; omega
      have hl2 : (piL xss vs (othL xss.length i)).length ≤ 4000000 := by have := sel_len (onP xss vs (insS xss (inL (othL xss.length i)) xss.length)) xss.length; unfold piL; omega
      have C2 : Hid (∀ (w' : World) (y : Value), Below w.heap.size w w' → Seen w' y (othL xss.length i) → Calls Try.prog 43 #[v, y] w' (GivesRow w' (sel (insS xss (inL (othL xss.length i)) xss.length) xss.length))) := fun w' y hb hy =>
        c_clInside xss (othL xss.length i) v y w' ha (fun x hx => ris_mem hro hx) (by omega) (h.below hb) hy
      have C3 : Hid (∀ (w' : World) (y : Value), Below w.heap.size w w' → Seen w' y (sel (insS xss (inL (othL xss.length i)) xss.length) xss.length) → Calls Try.prog 36 #[v, u, y] w' (GivesRow w' (piL xss vs (othL xss.length i)))) := fun w' y hb hy =>
        c_paOnly xss vs _ v u y w' hp (h.below hb) (hu.below hb) hy
      have C4 : Hid (∀ (w' : World), Below w.heap.size w w' → Calls Try.prog 47 #[v, u] w' (GivesRow w' (bpL xss vs))) := fun w' hb => c_paFind xss vs v u w' (PitOk.of hp) (h.below hb) (hu.below hb)
      have C5 : Hid (∀ (w' : World) (y : Value), Below w.heap.size w w' → Seen w' y (bpL xss vs) → Calls Try.prog 46 #[u, y] w' fun e w'' => e = .returned (.int .i64 (sumN (valF vs (bpL xss vs)) (bpL xss vs).length)) ∧ w' = w'') := fun w' y hb hy => c_vaSum vs u _ y _ w' hl hl1 (hu.below hb) hy hv hr1
      have C6 : Hid (∀ (w' : World) (y : Value), Below w.heap.size w w' → Seen w' y (piL xss vs (othL xss.length i)) → Calls Try.prog 46 #[u, y] w' fun e w'' => e = .returned (.int .i64 (sumN (valF vs (piL xss vs (othL xss.length i))) (piL xss vs (othL xss.length i)).length)) ∧ w' = w'') := fun w' y hb hy => c_vaSum vs u _ y _ w' hl hl2 (hu.below hb) hy hv hr2
      obtain ⟨A, c, rfl, _⟩ := h.shape
      obtain ⟨A2, c2, rfl⟩ := hu.shape
      clear h hs hl hu hp ha hv hro hr1 hr2 hl1 hl2 HB HA
      generalize sumN (valF vs (bpL xss vs)) (bpL xss vs).length = S1 at *
      generalize sumN (valF vs (piL xss vs (othL xss.length i))) (piL xss vs (othL xss.length i)).length = S2 at *
      generalize piL xss vs (othL xss.length i) = R2 at *
      generalize bpL xss vs = R1 at *
      generalize sel (insS xss (inL (othL xss.length i)) xss.length) xss.length = G at *
      unfold othL at *
      have SL : Hid (∀ k, (sel (fun k => !(k == i)) k).length ≤ k) := sel_len _
      have SH : Hid (∀ k : Nat, (k : Int) ≠ i → sel (fun k => !(k == i)) (k + 1) = sel (fun k => !(k == i)) k ++ [(k : Int)]) := fun k hk => sel_hit (by simpa using hk)
      have SM : Hid (∀ k : Nat, (k : Int) = i → sel (fun k => !(k == i)) (k + 1) = sel (fun k => !(k == i)) k) := fun k hk => sel_miss (by simpa using hk)
      have S0 : Hid (sel (fun k => !(k == i)) 0 = []) := rfl
      generalize sel (fun k => !(k == i)) = X at *
      generalize xss.length = N at *
      go_enter Try.func24, Try.ntmps24
      go_wp2_with fail
      refine C0.out.mono ?_
      rintro e w1 ⟨rfl, rfl⟩
      go_wp2_with fail
      refine C1.out.mono ?_
      rintro e w1 ⟨rfl, rfl⟩
      go_wp2_with fail
      go_loopw [8, 25] (fun q x wr => ∃ k : Nat, k ≤ N ∧ x = .int .i64 k ∧ Row wr w.heap.size q (X k) ∧ Below w.heap.size w wr) (fun _ x _ => N - (RowKit.intOf x).toNat)
      case atStart => exact ⟨0, Nat.zero_le _, rfl, by rw [S0.out]; exact Row.nil _ _, Below.refl _ _⟩
      case round =>
        obtain ⟨k, hk, rfl, hr, hb⟩ := hrel
        obtain ⟨AX, CX, hsx⟩ := hr.shape
        subst hsx
        have HRX := Lib.hid hr
        have HBX := Lib.hid hb
        clear hr hb
        by_cases hlt : k < N
        · have SHk := Lib.hid (SH.out k)
          have SMk := Lib.hid (SM.out k)
          have sl := SL.out k
          have b1 : (0 : Int) ≤ (k : Int) := by omega
          have b2 : (k : Int) < (N : Int) := by omega
          have s4 := HBX.out.size
          generalize X k = xk at *
          by_cases hF : (k : Int) = i
          · have G := Lib.hid (SMk.out hF)
            have hne : ((k : Int) != i) = false := by simpa using hF
            clear SHk SMk
            go_wp2
            exact ⟨⟨k + 1, by omega, by go_num, by rw [G.out]; exact HRX.out, HBX.out⟩, by simp [RowKit.intOf]; omega⟩
          · have G := Lib.hid (SHk.out hF)
            have hne : ((k : Int) != i) = true := by simpa using hF
            clear SHk SMk
            go_wp2_with (at_builtin; refine wpList_append_own _ rfl _ _ 23 rfl (w.heap.size) 3 j0 (.int .i64 0) 1 8 Try.underlying23 HJ.out hy0 hy1 hy2 rfl (by decide) _ _ _ rfl (World.ownsRow.alloc HRX.out _) ⟨wr.heap.size, 0, none⟩ 1 1 [.int .i64 (k : Int)] rfl rfl ?e1 ?e2 ?e3 ?e4 ?e5 ?_)
            case e1 =>
              intro j u hj
              match j, hj with
              | 0, hj => simp at hj; subst hj; simp [Addr.add]
            case e2 => intro u hu; simp at hu; subst hu; rfl
            case e3 => unfold maxLen; omega
            case e4 => omega
            case e5 => simp; omega
            intro v' w5 hown' hgrow _
            have R1 : Hid (Row w5 w.heap.size v' (X (k + 1))) := by rw [G.out]; exact row_more hown'
            have R2 : Hid (Below w.heap.size w w5) := (HBX.out.alloc s4 _).grown hgrow (by simp; omega) (fun g hg => (World.ownsRow.lt HRX.out g hg).1)
            clear hown' hgrow
            go_wp2
            exact ⟨⟨k + 1, by omega, by go_num, R1.out, R2.out⟩, by simp [RowKit.intOf]; omega⟩
        · obtain rfl : k = N := by omega
          have D2 := Lib.hid (C2.out _ _ HBX.out HRX.out.seen)
          have s4 := HBX.out.size
          go_wp2_with fail
          refine D2.out.mono ?_
          rintro e w5 ⟨v5, rfl, hr, hb⟩
          have HB5 : Hid (Below w.heap.size w w5) := HBX.out.trans (hb.mono s4)
          have D3 := Lib.hid (C3.out _ _ HB5.out hr.seen)
          obtain ⟨A5, c5, rfl⟩ := hr.shape
          clear hr hb D2
          go_wp2_with fail
          refine D3.out.mono ?_
          rintro e w6 ⟨v6, rfl, hr, hb⟩
          have s5 := HB5.out.size
          have HB6 : Hid (Below w.heap.size w w6) := HB5.out.trans (hb.mono s5)
          have HR6 := Lib.hid hr
          obtain ⟨A6, c6, rfl⟩ := hr.shape
          clear hr hb D3
          go_wp2_with fail
          refine (C4.out _ HB6.out).mono ?_
          rintro e w7 ⟨v7, rfl, hr, hb⟩
          have s6 := HB6.out.size
          have HB7 : Hid (Below w.heap.size w w7) := HB6.out.trans (hb.mono s6)
          have HR7 := Lib.hid (HR6.out.below hb)
          have D5 := Lib.hid (C5.out _ _ HB7.out hr.seen)
          have D6 := Lib.hid (C6.out _ _ HB7.out HR7.out.seen)
          obtain ⟨A7, c7, rfl⟩ := hr.shape
          clear hr hb
          go_wp2_with fail
          refine D5.out.mono ?_
          rintro e w8 ⟨rfl, rfl⟩
          go_wp2_with fail
          refine D6.out.mono ?_
          rintro e w8 ⟨rfl, rfl⟩
          go_wp2
          go_ret2
          exact ⟨by go_num, HB7.out⟩
end Go.Proofs.Ythfmgclndokknaa

namespace Go.Proofs.Ythfmgclndokknaa
open Go.RowKit
set_option linter.unusedVariables false

theorem bpL_ris (xss : List (List Int)) (vs : List Int) : risB (xss.length : Int) (bpL xss vs) = true := sel_risB _ rfl
theorem bpL_short (xss : List (List Int)) (vs : List Int) (h : arcB xss = true) : (bpL xss vs).length ≤ 120 := by
  have h1 := arc_len h
  have h2 := sel_len (fun i => lcP (xss.length + 2) (pN xss vs xss.length) (pE xss vs xss.length) (i + 1)) xss.length
  unfold bpL
  omega
/-- The value of a best pit. -/
noncomputable def bvV (xss : List (List Int)) (vs : List Int) : Int := sumN (valF vs (bpL xss vs)) (bpL xss vs).length
noncomputable def bvA (xss : List (List Int)) (vs : List Int) : Int := if pgB xss vs then bvV xss vs else 0
theorem sumv_at_pg {xss : List (List Int)} {vs bs : List Int} (h : pgB xss vs = true) : sumvB vs bs = risB (xss.length : Int) bs := by
  have hv := (pg_true h).2
  have e := (val_yes hv).1
  unfold sumvB
  rw [e, hv]
  rfl

set_option maxHeartbeats 1000000 in
theorem c_BestValue (xss : List (List Int)) (vs : List Int) (v u : Value) (w : World) (hs : ShortL xss) (hl : vs.length ≤ 4000000) (h : SeenL w v xss) (hu : Seen w u vs) :
    Calls Try.prog 48 #[v, u] w fun e w' => e = .returned (.tuple #[.int .i64 (bvA xss vs), .bool (pgB xss vs)]) ∧ Below w.heap.size w w' := by
  have C0 := Lib.hid (c_BestPit xss vs v u w hs hl h hu)
  have HU := Lib.hid hu
  obtain ⟨A, c, rfl, hm⟩ := h.shape
  obtain ⟨A2, c2, rfl⟩ := hu.shape
  unfold bvA
  clear h hu hs
  cases hp : pgB xss vs
  · rw [hp] at C0
    rw [if_neg (by simp)]
    clear hp
    generalize bpA xss vs = X at *
    go_enter Try.func48, Try.ntmps48
    go_wp2_with fail
    refine C0.out.mono ?_
    rintro e w1 ⟨v1, rfl, hr, hb⟩
    have HB := Lib.hid hb
    obtain ⟨A3, c3, rfl⟩ := hr.shape
    clear hr hb
    go_wp2
    go_ret2
    exact ⟨rfl, HB.out⟩
  · rw [hp] at C0
    have HA : bpA xss vs = bpL xss vs := by unfold bpA; rw [hp]; rfl
    rw [HA] at C0
    have HS9 : Hid (sumvB vs (bpL xss vs) = true) := (sumv_at_pg hp).trans (bpL_ris xss vs)
    have HX : Hid (sumvV vs (bpL xss vs) = bvV xss vs) := by show _ = _; unfold sumvV; rw [HS9.out]; rfl
    have hbl := bpL_short xss vs (pg_true hp).1
    rw [if_pos rfl]
    clear hp HA
    generalize bvV xss vs = x at *
    generalize bpL xss vs = X at *
    go_enter Try.func48, Try.ntmps48
    go_wp2_with fail
    refine C0.out.mono ?_
    rintro e w1 ⟨v1, rfl, hr, hb⟩
    have CA := Lib.hid (c_SumOfValues vs _ X v1 w1 hl (by omega) (HU.out.below hb) hr.seen)
    rw [HX.out, HS9.out] at CA
    have HB := Lib.hid hb
    obtain ⟨A3, c3, rfl⟩ := hr.shape
    clear hr hb
    go_wp2_with fail
    refine CA.out.mono ?_
    rintro e w2 ⟨rfl, hb⟩
    have HB2 : Hid (Below w.heap.size w w2) := HB.out.trans (hb.mono HB.out.size)
    clear hb
    go_wp2
    go_ret2
    exact ⟨rfl, HB2.out⟩
end Go.Proofs.Ythfmgclndokknaa

namespace Go.Proofs.Ythfmgclndokknaa
open Go.RowKit
set_option linter.unusedVariables false

theorem row_of_allK {w3 : World} {B : Nat} {v' : Value} {xs : List Int} (h : w3.ownsRow B 3 1 v' xs.length (ints [] ++ ints xs)) : Row w3 B v' xs := h
theorem row_noneK (w : World) : (w.alloc (.cells #[] 3)).ownsRow w.heap.size 3 1 (.slice (some ⟨w.heap.size, 0, none⟩) 0 0) 0 [] := by
  have := World.ownsRow_lit (base := w.heap.size) (e := 3) (size := 1) w #[] 0 (Nat.le_refl _) (by unfold maxLen; omega) (by simp)
  simpa using this
theorem ints_atK {xs : List Int} {j : Nat} {u : Value} (h : (ints xs)[j]? = some u) : j < xs.length ∧ u = .int .i64 (xs.getD j 0) := by
  unfold ints at h
  rw [List.getElem?_map] at h
  cases e : xs[j]? with
  | none => rw [e] at h; cases h
  | some t =>
    rw [e] at h
    have hj : j < xs.length := by
      rcases Nat.lt_or_ge j xs.length with hl | hg
      · exact hl
      · rw [List.getElem?_eq_none hg] at e; cases e
    refine ⟨hj, ?_⟩
    rw [List.getD_eq_getElem?_getD, e]
    simpa using h.symm
theorem ints_oneK {xs : List Int} : ∀ u ∈ ints xs, u.oneCell' = true := fun u hu => by
  obtain ⟨_, _, rfl⟩ := List.mem_map.1 hu
  rfl

set_option maxHeartbeats 1000000 in
theorem c_Clone (xs : List Int) (v : Value) (w : World) (hl : xs.length ≤ 4000000) (h0 : 0 < xs.length) (h : Seen w v xs) :
    Calls Try.prog 40 #[v] w (GivesRow w xs) := by
  obtain ⟨i0, hi0, hz0, hz1, hz2⟩ := info_parts int_info
  have HI := Lib.hid hi0
  clear hi0
  obtain ⟨A, c, rfl, hm, hA⟩ := h
  obtain ⟨b, off, rfl, hb, hc⟩ := hA h0
  have HC := Lib.hid hc
  have HN : Hid (Row (w.alloc (.cells #[] 3)) w.heap.size (.slice (some ⟨w.heap.size, 0, none⟩) 0 0) []) := row_noneK w
  clear hm hA hc
  have hnil : ∀ W, (binOp .eql 23 (.slice (some ⟨b, off, none⟩) xs.length c) (.slice none 0 0)).run Try.prog W = .ok (.bool false) W := fun W => Lib.run_eql_slice_some_nil W _ _ _ Try.underlying23
  go_enter Try.func40, Try.ntmps40
  go_wp2_with (at_builtin; refine wpList_append_own _ rfl _ _ 23 rfl w.heap.size 3 i0 (.int .i64 0) 1 8 Try.underlying23 HI.out hz0 hz1 hz2 rfl (by decide) _ _ _ rfl HN.out ⟨b, off, none⟩ xs.length c (ints xs) rfl (by rw [ints_len, Nat.mul_one]) ?c1 ?c2 ?c3 ?c4 ?c5 ?_)
  case c1 =>
    intro j u hj
    obtain ⟨hj1, rfl⟩ := ints_atK hj
    rw [show (Addr.mk b off none).add j = ⟨b, off + j, none⟩ by unfold Addr.add; split; (rename_i e; subst e; rfl); rfl, World.cell?_alloc_lt _ _ _ hb]
    exact HC.out j hj1
  case c2 => exact ints_oneK
  case c3 => simp only [List.length_nil]; unfold maxLen; omega
  case c4 => simp only [List.length_nil]; omega
  case c5 => simp
  intro v' w4 hown' hgrow _
  have R1 : Hid (Row w4 w.heap.size v' xs) := row_of_allK hown'
  have R2 : Hid (Below w.heap.size w w4) := ((Below.refl _ _).alloc (Nat.le_refl _) _).grown hgrow (by simp) (fun g hg => by simp [Value.ownBlock] at hg; omega)
  clear hown' hgrow
  go_wp2
  go_ret
  exact ⟨_, rfl, R1.out, R2.out⟩
end Go.Proofs.Ythfmgclndokknaa

namespace Go.Proofs.Ythfmgclndokknaa
open Go.RowKit
set_option linter.unusedVariables false

/-- The first k of n are X, the others 0. -/
def rxLG (X : Int) (n k : Nat) : List Int := List.replicate k X ++ List.replicate (n - k) 0
theorem rxL_lenG (X : Int) (n k : Nat) (h : k ≤ n) : (rxLG X n k).length = n := by simp [rxLG]; omega
/-- The first k of n are X, as values. -/
def rpLG (X : Int) (n k : Nat) : List Value := ints (rxLG X n k)
theorem rpL_lenG (X : Int) (n k : Nat) (h : k ≤ n) : (rpLG X n k).length = n := by unfold rpLG ints; rw [List.length_map, rxL_lenG X n k h]
theorem rpL_moreG (X : Int) (n k c : Nat) (h : k + c ≤ n) : splice (rpLG X n k) k (List.replicate c (.int .i64 X)) = rpLG X n (k + c) := by
  unfold splice rpLG ints rxLG
  rw [List.length_replicate, List.map_append, List.map_append, List.map_replicate, List.map_replicate, List.map_replicate, List.map_replicate]
  rw [List.take_append_of_le_length (by simp), List.take_of_length_le (by simp), List.drop_append, List.drop_eq_nil_of_le (by simp), List.nil_append, List.drop_replicate, List.length_replicate]
  rw [show k + c - k = c by omega, show n - k - c = n - (k + c) by omega, ← List.append_assoc, List.replicate_append_replicate]
theorem rpL_atG {X : Int} {w : World} {g n k j : Nat} (hg : w.heap[g]? = some (.cells (rpLG X n k).toArray 3 (0, 0))) (hk : k ≤ n) (hj : j < k) : w.cell? ⟨g, j, none⟩ = some (.int .i64 X) := by
  have hl := rpL_lenG X n k hk
  have : (rpLG X n k)[j]? = some (.int .i64 X) := by
    unfold rpLG ints rxLG
    rw [List.map_append, List.getElem?_append_left (by simp; omega)]
    simp [hj]
  simp [World.cell?, hg, this]
theorem rpL_rowG {X : Int} {w : World} {B g n : Nat} (hB : B ≤ g) (hn : n ≤ 130) (hg : w.heap[g]? = some (.cells (rpLG X n n).toArray 3 (0, 0))) : Row w B (.slice (some ⟨g, 0, none⟩) n n) (List.replicate n X) := by
  have e : rpLG X n n = ints (List.replicate n X) := by unfold rpLG rxLG; simp
  have hl := rpL_lenG X n n (Nat.le_refl _)
  unfold Row
  rw [List.length_replicate]
  refine ⟨by unfold ints; simp, .inr ⟨g, n, _, rfl, hB, hg, Nat.le_refl _, by unfold maxLen; omega, by simp [hl], ?_⟩⟩
  rw [e]
  simp [ints]

set_option maxHeartbeats 8000000 in
set_option maxRecDepth 100000 in
theorem c_RepeatG (X : Int) (n bx : Nat) (w : World) (n1 : 1 ≤ n) (n2 : n ≤ 130) (hbx : bx < w.heap.size) (hx : w.cell? ⟨bx, 0, none⟩ = some (.int .i64 X)) :
    Calls Try.prog 44 #[.slice (some ⟨bx, 0, none⟩) 1 1, .int .i64 n] w (GivesRow w (List.replicate n X)) := by
  obtain ⟨i0, hi0, hz0, hz1, hz2⟩ := info_parts int_info
  have HSz : Hid ((Try.prog.info? 3).map (·.size) = some 1) := by show _ = _; rw [hi0]; simp [hz1]
  have hmk : (Instr.makeSlice 23 (.int .i64 (n : Int)) (.int .i64 (n : Int))).run Try.prog w = .ok (.slice (some ⟨w.heap.size, 0, none⟩) n n) (w.alloc (.cells (madeCells #[.int .i64 0] n) 3)) := by
    have := run_make (P := Try.prog) w 23 3 i0 (.int .i64 0) Try.underlying23 hi0 hz0 .i64 .i64 (n : Int) (n : Int) (by omega) (by omega) (by rw [hz2]; omega) (by omega)
    simpa [hz1, Value.cells] using this
  have hmc : madeCells #[.int .i64 0] n = (rpLG X n 0).toArray := by
    apply Array.ext'
    rw [toList_madeCells_one]
    unfold rpLG rxLG ints
    simp
  rw [hmc] at hmk
  have CM : Hid (Calls Try.prog 66 #[.int .u64 1, .int .u64 n] w fun e w' => e = .returned (.tuple #[.int .u64 0, .int .u64 n]) ∧ w' = w) := by
    refine (Try.bits_Mul 1 n (by omega) (by omega) w).mono fun e w' ⟨h1, h2⟩ => ⟨?_, h2⟩
    rw [h1, Nat.one_mul, Nat.div_eq_of_lt (by omega), Nat.mod_eq_of_lt (by omega)]
    rfl
  have HX : Hid ((w.alloc (.cells (rpLG X n 0).toArray 3)).cell? ⟨bx, 0, none⟩ = some (.int .i64 X)) := by
    show _ = _
    rw [(Below.refl w.heap.size w |>.alloc (Nat.le_refl _) (.cells (rpLG X n 0).toArray 3)).cell (p := ⟨bx, 0, none⟩) hbx]
    exact hx
  have HXW : Hid (w.cell? ⟨bx, 0, none⟩ = some (.int .i64 X)) := hx
  have HG : Hid ((w.alloc (.cells (rpLG X n 0).toArray 3)).heap[w.heap.size]? = some (.cells (rpLG X n 0).toArray 3 (0, 0))) := heap_alloc_new w _
  have HB0 : Hid (Below w.heap.size w (w.alloc (.cells (rpLG X n 0).toArray 3))) := (Below.refl _ _).alloc (Nat.le_refl _) _
  have L1 : (rpLG X n 0).length = n := rpL_lenG X n 0 (by omega)
  have b1 : (1 : Int) ≤ (n : Int) := by omega
  have b2 : (n : Int) ≤ 130 := by omega
  clear hi0 hx hmc
  go_enter Try.func44, Try.ntmps44
  go_wp2_with fail
  refine CM.out.mono ?_
  rintro e w1 ⟨rfl, rfl⟩
  clear CM
  have L2 : ([.int .i64 X] : List Value).length = 1 := rfl
  have nb : 1 ≤ n := by omega
  go_wp2_with (with_reducible refine wpList_copy_splice rfl (.tmp 31) (.tmp 32) 23 23 rfl 3 Try.underlying23 HSz.out (some ⟨w1.heap.size, 0, none⟩) (some ⟨bx, 0, none⟩) n n 1 1 rfl rfl w1.heap.size 0 (rpLG X n 0) 3 HG.out [.int .i64 X] ?c1 ?c2 ?c3 ?c4 w1.heap.size w1 HB0.out (Nat.le_refl _) ?_)
  case c1 => simp [Nat.min_eq_left nb]
  case c2 =>
    intro j v hj
    match j, hj with
    | 0, hj => simp at hj; subst hj; simpa [Addr.add] using HXW.out
  case c3 => rw [L1]; simp; omega
  case c4 => intro v hv; simp at hv; subst hv; rfl
  intro w2 hg2 hb2
  have HG2 : Hid (w2.heap[w1.heap.size]? = some (.cells (rpLG X n 1).toArray 3 (0, 0))) := by
    have := rpL_moreG X n 0 1 (by omega)
    show _ = _
    rw [show 0 + 1 = 1 from rfl] at this
    rw [← this]
    exact hg2.out
  have HB2 := Lib.hid hb2
  clear hg2 hb2 HG HB0 HX HXW hmk L1 L2 hbx
  go_wp2_with fail
  go_loopw [8] (fun i wr => ∃ k : Nat, 1 ≤ k ∧ k ≤ n ∧ i = .int .i64 k ∧ wr.heap[w1.heap.size]? = some (.cells (rpLG X n k).toArray 3 (0, 0)) ∧ Below w1.heap.size w1 wr) (fun i _ => n - (intOf i).toNat)
  case atStart => exact ⟨1, Nat.le_refl _, nb, rfl, HG2.out, HB2.out⟩
  case round =>
    obtain ⟨k, k1, hk, rfl, hg, hb⟩ := hrel
    have HG := Lib.hid hg
    have HB := Lib.hid hb
    clear hg hb HG2 HB2
    have b3 : (1 : Int) ≤ (k : Int) := by omega
    by_cases hlt : k < n
    · have b4 : (k : Int) < (n : Int) := by omega
      obtain ⟨c, hc⟩ : ∃ c, c = min k (n - k) := ⟨_, rfl⟩
      have hc1 : c = Nat.min k (n - k) := hc
      have hc2 : k + c ≤ n := by omega
      have hc3 : 1 ≤ c := by omega
      have hc4 : c ≤ k := by omega
      clear hc
      have LK : Hid ((rpLG X n k).length = n) := rpL_lenG X n k hk
      have M : Hid (splice (rpLG X n k) k (List.replicate c (.int .i64 X)) = rpLG X n (k + c)) := rpL_moreG X n k c hc2
      have hnk : ¬ n = k := by omega
      have HGd : Hid (wr.drew.heap[w1.heap.size]? = some (.cells (rpLG X n k).toArray 3 (0, 0))) := HG.out
      have HBd : Hid (Below w1.heap.size w1 wr.drew) := HB.out.drew
      have SRC : Hid (∀ (j : Nat) (v : Value), (List.replicate c (Value.int .i64 X))[j]? = some v → wr.drew.cell? ((⟨w1.heap.size, 0, none⟩ : Addr).add j) = some v) := fun j v hj => by
        rw [List.getElem?_replicate] at hj
        split at hj
        · simp at hj
          subst hj
          have q := rpL_atG (X := X) (n := n) (k := k) (j := j) HGd.out hk (by omega)
          have e : (⟨w1.heap.size, 0, none⟩ : Addr).add j = ⟨w1.heap.size, j, none⟩ := by
            unfold Addr.add
            split
            · rename_i h; subst h; rfl
            · simp
          rw [e]
          exact q
        · simp at hj
      have H1 : Hid (∀ v ∈ List.replicate c (Value.int .i64 X), v.oneCell' = true) := fun v hv => by rw [List.mem_replicate] at hv; rw [hv.2]; rfl
      have CL : Hid ((List.replicate c (Value.int .i64 X)).length = Nat.min k (n - k)) := by show _ = _; rw [List.length_replicate]; exact hc1
      have CF : Hid (k + (List.replicate c (Value.int .i64 X)).length ≤ (rpLG X n k).length) := by show _ ≤ _; rw [LK.out, List.length_replicate]; exact hc2
      have CI : Hid (((List.replicate c (Value.int .i64 X)).length : Int) = c) := by show _ = _; rw [List.length_replicate]
      clear hc1
      generalize List.replicate c (Value.int .i64 X) = cs at *
      go_wp2_with fail
      go_region_law (refine step_copy_splice rfl (.tmp 41) (.tmp 44) 23 23 rfl 3 Try.underlying23 HSz.out (some ⟨w1.heap.size, k, none⟩) (some ⟨w1.heap.size, 0, none⟩) (n - k) (n - k) k n (by simp [Act.eval, Act.put]) (by simp [Act.eval, Act.put]) w1.heap.size k (rpLG X n k) 3 HGd.out cs CL.out (fun _ => ⟨rfl, _, rfl, SRC.out⟩) CF.out H1.out w1.heap.size w1 HBd.out (Nat.le_refl _) ?_; intro w4 hg4 hb4)
      rw [M.out] at hg4
      have CN : cs.length = c := by have := CI.out; omega
      have G4 := Lib.hid hg4.out
      have B4 := Lib.hid hb4
      clear hg4 hb4 HG HB HGd HBd SRC H1 CL CF CI M LK
      rw [CN]
      clear CN
      go_simp
      rw [show IntKind.i64.wrap ((k : Int) + (c : Int)) = ((k + c : Nat) : Int) by rw [IntKind.wrap_i64]; omega]
      go_wp2
      go_roundw
      case rel => exact ⟨k + c, by omega, hc2, rfl, G4.out, B4.out⟩
      case measure => simp [intOf]; omega
    · obtain rfl : k = n := by omega
      have R1 := Lib.hid (rpL_rowG (Nat.le_refl _) n2 HG.out)
      go_wp2
      go_ret
      exact ⟨_, rfl, R1.out, HB.out⟩
end Go.Proofs.Ythfmgclndokknaa

namespace Go.Proofs.Ythfmgclndokknaa
open Go.RowKit
set_option linter.unusedVariables false

/-! ### A list with others' numbers at some places -/
def mT (n : Nat) (L : List Int) (f g : Nat → Int) (t : Nat) : List Int := (List.range n).map fun (i : Nat) => if (L.take t).contains (i : Int) then f i else g i
theorem mT_len (n : Nat) (L : List Int) (f g : Nat → Int) (t : Nat) : (mT n L f g t).length = n := by simp [mT]
theorem mT_set (n : Nat) {L : List Int} (f g : Nat → Int) {t y : Nat} (ht : t < L.length) (hy : L.getD t 0 = (y : Int)) : (mT n L f g t).set y (f y) = mT n L f g (t + 1) := by
  have e : L[t] = (y : Int) := by rw [← hy]; simp [ht]
  refine List.ext_getElem (by simp [mT]) fun k h1 h2 => ?_
  rw [List.length_set, mT_len] at h1
  rw [List.getElem_set]
  simp only [mT, List.getElem_map, List.getElem_range]
  rw [List.take_succ_eq_append_getElem ht, e]
  by_cases c : y = k
  · subst c
    simp
  · rw [if_neg c]
    have : ¬ (k : Int) = (y : Int) := by omega
    simp [this]
theorem mT_zero {n : Nat} (L : List Int) (f : Nat → Int) {vs : List Int} (h : vs.length = n) : mT n L f (fun i => vs.getD i 0) 0 = vs := by
  refine List.ext_getElem (by simp [mT, h]) fun k h1 h2 => ?_
  simp [mT, h2]
theorem mT_rep (n : Nat) (L : List Int) (f : Nat → Int) (c : Int) : mT n L f (fun _ => c) 0 = List.replicate n c := by
  refine List.ext_getElem (by simp [mT]) fun k h1 h2 => ?_
  simp [mT]
theorem mT_forced {xss : List (List Int)} (vs l : List Int) : mT xss.length (clL xss l) (fun _ => 0) (fun i => vs.getD i 0) (clL xss l).length = lfV xss vs l := by
  unfold mT lfV
  rw [List.take_length]
  refine List.map_congr_left fun i hi => ?_
  have hi' := List.mem_range.1 hi
  have : (clL xss l).contains (i : Int) = dnS xss (inL l) xss.length i := by
    rw [Bool.eq_iff_iff, List.contains_iff_mem]
    unfold clL
    rw [mem_sel]
    unfold inr
    rw [Bool.and_eq_true, decide_eq_true_eq]
    exact ⟨fun h => h.2, fun h => ⟨by omega, h⟩⟩
  rw [this]
theorem mT_inside (n : Nat) (vs l : List Int) : mT n l (fun i => vs.getD i 0) (fun _ => -1000000000) l.length = lsV n vs l := by
  unfold mT lsV
  rw [List.take_length]
  rfl
theorem gB_of {xss : List (List Int)} (ha : arcB xss = true) {p : Int → Bool} (h : Clo xss (fun i => p i)) : gB xss (sel p xss.length) = true := by
  unfold gB vB
  rw [ha, sel_risB p rfl, clos_sel (fun i hi => arcB_at ha hi) h]
  rfl

set_option maxHeartbeats 4000000 in
set_option maxRecDepth 100000 in
theorem c_PitInside (xss : List (List Int)) (vs l : List Int) (v u z : Value) (w : World) (hs : ShortL xss) (hl : vs.length ≤ 4000000) (hl2 : l.length ≤ 4000000) (h : SeenL w v xss) (hu : Seen w u vs) (hz : Seen w z l) :
    Calls Try.prog 23 #[v, u, z] w (GivesRow2 w (piA xss vs l) (plB xss vs l)) := by
  have C0 := Lib.hid (c_areArcsAndValues xss vs v u w hs hl h hu)
  have C1 := Lib.hid (c_areBlocksBelow xss.length l z w hl2 hz)
  have HP : Hid (plB xss vs l = (pgB xss vs && risB xss.length l)) := rfl
  cases hp : pgB xss vs
  · rw [hp] at C0 HP
    rw [Bool.false_and] at HP
    have HA : Hid (piA xss vs l = []) := by show _ = _; unfold piA; rw [HP.out]; rfl
    rw [HA.out, HP.out]
    obtain ⟨A, c, rfl, _⟩ := h.shape
    obtain ⟨A2, c2, rfl⟩ := hu.shape
    obtain ⟨A3, c3, rfl⟩ := hz.shape
    clear C1 h hs hl hl2 hu hz hp
    go_enter Try.func23, Try.ntmps23
    go_wp2_with fail
    refine C0.out.mono ?_
    rintro e w1 ⟨rfl, rfl⟩
    go_wp2
    go_ret2
    exact ⟨_, rfl, Row.nil _ _, Below.refl _ _⟩
  rw [hp] at C0 HP
  rw [Bool.true_and] at HP
  cases hr : risB xss.length l
  · rw [hr] at C1 HP
    have HA : Hid (piA xss vs l = []) := by show _ = _; unfold piA; rw [HP.out]; rfl
    rw [HA.out, HP.out]
    obtain ⟨A, c, rfl, _⟩ := h.shape
    obtain ⟨A2, c2, rfl⟩ := hu.shape
    obtain ⟨A3, c3, rfl⟩ := hz.shape
    clear h hs hl hl2 hu hz hp hr
    go_enter Try.func23, Try.ntmps23
    go_wp2_with fail
    refine C0.out.mono ?_
    rintro e w1 ⟨rfl, rfl⟩
    go_wp2_with fail
    refine C1.out.mono ?_
    rintro e w1 ⟨rfl, rfl⟩
    go_wp2
    go_ret2
    exact ⟨_, rfl, Row.nil _ _, Below.refl _ _⟩
  rw [hr] at C1 HP
  have HA : Hid (piA xss vs l = bpL xss (lsV xss.length vs l)) := by show _ = _; unfold piA; rw [HP.out, pi_eq w hp]; rfl
  rw [HA.out, HP.out]
  obtain ⟨ha, hvv⟩ := pg_true hp
  have hN := arc_len ha
  have hvl : vs.length = xss.length := by have := (val_yes hvv).1; omega
  have hll := ris_len hr (by omega)
  have EIl : Hid (∀ t, t < l.length → 0 ≤ l.getD t 0 ∧ l.getD t 0 < (xss.length : Int)) := fun t ht => ris_box hr ht
  have CP : Hid (∀ (A A2 : Option Addr) (c c2 : Nat) (w' : World), Below w.heap.size w w' → v = .slice A xss.length c → Seen w' (.slice A2 xss.length c2) (lsV xss.length vs l) → Calls Try.prog 42 #[.agg #[.slice A xss.length c, .slice A2 xss.length c2]] w' (GivesRow w' (bpL xss (lsV xss.length vs l)))) := fun A A2 c c2 w' hb e hs => by
    subst e
    exact c_leastPit xss _ A A2 c c2 w' (ls_pit hp) (h.below hb) hs
  have MS : Hid (∀ t y : Nat, t < l.length → l.getD t 0 = (y : Int) → (mT xss.length l (fun i => vs.getD i 0) (fun _ => -1000000000) t).set y (vs.getD y 0) = mT xss.length l (fun i => vs.getD i 0) (fun _ => -1000000000) (t + 1)) := fun t y ht hy => mT_set xss.length (fun i => vs.getD i 0) (fun _ => -1000000000) ht hy
  have ML : Hid (∀ t, (mT xss.length l (fun i => vs.getD i 0) (fun _ => -1000000000) t).length = xss.length) := mT_len _ _ _ _
  have M0 : Hid (mT xss.length l (fun i => vs.getD i 0) (fun _ => -1000000000) 0 = List.replicate xss.length (-1000000000)) := mT_rep _ _ _ _
  have ME : Hid (mT xss.length l (fun i => vs.getD i 0) (fun _ => -1000000000) l.length = lsV xss.length vs l) := mT_inside _ _ _
  obtain ⟨A, c, rfl, _⟩ := h.shape
  obtain ⟨A2, c2, rfl⟩ := hu.shape
  obtain ⟨A3, c3, rfl⟩ := hz.shape
  have EV : Hid (∀ k, k < xss.length → ∃ b off, A2 = some ⟨b, off, none⟩ ∧ ∀ u, Below w.heap.size w u → u.cell? ⟨b, off + k, none⟩ = some (.int .i64 (vs.getD k 0))) := fun k hk => by
    obtain ⟨b, off, e, hb, hc⟩ := hu.at2 (k := k) (by omega)
    exact ⟨b, off, e, fun u hu => by rw [hu.cell (p := ⟨b, off + k, none⟩) hb]; exact hc⟩
  have EZ : Hid (∀ k, k < l.length → ∃ b off, A3 = some ⟨b, off, none⟩ ∧ ∀ u, Below w.heap.size w u → u.cell? ⟨b, off + k, none⟩ = some (.int .i64 (l.getD k 0))) := fun k hk => by
    obtain ⟨b, off, e, hb, hc⟩ := hz.at2 (k := k) hk
    exact ⟨b, off, e, fun u hu => by rw [hu.cell (p := ⟨b, off + k, none⟩) hb]; exact hc⟩
  rw [hvl] at C0 ⊢
  clear h hs hl hl2 hu hz hp hr ha hvv hvl HA HP
  generalize mT xss.length l (fun i => vs.getD i 0) (fun _ => -1000000000) = M at *
  generalize lsV xss.length vs l = LS at *
  generalize bpL xss LS = R at *
  generalize xss.length = N at *
  go_enter Try.func23, Try.ntmps23
  go_wp2_with fail
  refine C0.out.mono ?_
  rintro e w1 ⟨rfl, rfl⟩
  go_wp2_with fail
  refine C1.out.mono ?_
  rintro e w1 ⟨rfl, rfl⟩
  go_wp2_with fail
  refine (c_RepeatG (-1000000000) N w.heap.size (w.alloc (.cells #[.int .i64 (-1000000000)] 3)) (by omega) (by omega) (by simp) (by simp)).mono ?_
  rintro e w2 ⟨v2, rfl, hr, hb⟩
  have HB2 : Hid (Below w.heap.size w w2) := ((Below.refl _ _).alloc (Nat.le_refl _) _).trans (hb.mono (by simp))
  rw [← M0.out] at hr
  obtain ⟨g, cg, e, hg1, hg2⟩ := World.ownsRow.form hr (by rw [ML.out]; omega)
  rw [ML.out] at e
  subst e
  have hg : w.heap.size ≤ g := by simp at hg1; omega
  have HR2 : Hid (Row w2 w.heap.size (.slice (some ⟨g, 0, none⟩) N cg) (M 0)) := hr.mono (by simp)
  clear hr hb hg1 hg2
  go_wp2_with fail
  go_loopw [28] (fun i wr => ∃ t : Nat, t ≤ l.length ∧ i = .int .i64 t ∧ Row wr w.heap.size (.slice (some ⟨g, 0, none⟩) N cg) (M t) ∧ Below w.heap.size w wr) (fun i _ => l.length - (RowKit.intOf i).toNat)
  case atStart => exact ⟨0, Nat.zero_le _, rfl, HR2.out, HB2.out⟩
  case round =>
    obtain ⟨t, ht, rfl, hr, hb⟩ := hrel
    have HRt := Lib.hid hr
    have HBt := Lib.hid hb
    clear hr hb
    by_cases htl : t < l.length
    · obtain ⟨b3, off3, rfl, hE3⟩ := EZ.out t htl
      have q3 := hE3 wr HBt.out
      obtain ⟨s0, s1⟩ := EIl.out t htl
      have MSt := Lib.hid (MS.out t)
      generalize l.getD t 0 = y at *
      obtain ⟨y', rfl⟩ := Int.eq_ofNat_of_zero_le s0
      have hy' : y' < N := by omega
      have MSy := Lib.hid (MSt.out y' htl rfl)
      obtain ⟨b4, off4, rfl, hE4⟩ := EV.out y' hy'
      have q4 := hE4 wr HBt.out
      have ml := ML.out t
      have st := Row.set_ ml.symm HRt.out y' (vs.getD y' 0)
      rw [MSy.out] at st
      have R1 := Lib.hid st.1
      have c1 := row_cellT HRt.out ml.symm y' (by omega)
      have f1 := row_frozenT HRt.out ml.symm y'
      have R2 : Hid (Below w.heap.size w (wr.setCell ⟨g, y', none⟩ (.int .i64 (vs.getD y' 0)))) := HBt.out.setCell (p := ⟨g, y', none⟩) hg _
      have d1 : (0 : Int) ≤ (t : Int) := by omega
      have d2 : (t : Int) < (l.length : Int) := by omega
      have d3 : (0 : Int) ≤ (y' : Int) := by omega
      have d4 : (y' : Int) < (N : Int) := by omega
      clear hE3 hE4 st MSt MSy
      generalize vs.getD y' 0 = val at *
      go_wp2
      exact ⟨⟨t + 1, by omega, by go_num, R1.out, R2.out⟩, by simp [RowKit.intOf]; omega⟩
    · obtain rfl : t = l.length := by omega
      have G : Seen wr (.slice (some ⟨g, 0, none⟩) N cg) LS := by
        have := HRt.out.seen
        rwa [ME.out] at this
      have C2 := Lib.hid (CP.out A (some ⟨g, 0, none⟩) c cg wr HBt.out rfl G)
      clear G CP
      go_wp2_with fail
      refine C2.out.mono ?_
      rintro e w4 ⟨v4, rfl, hr, hb⟩
      have HB4 : Hid (Below w.heap.size w w4) := HBt.out.trans (hb.mono HBt.out.size)
      have HR4 := Lib.hid (hr.mono HBt.out.size)
      clear hr hb
      go_wp2
      go_ret2
      exact ⟨_, rfl, HR4.out, HB4.out⟩
end Go.Proofs.Ythfmgclndokknaa

namespace Go.Proofs.Ythfmgclndokknaa
open Go.RowKit
set_option linter.unusedVariables false

theorem joA_forced (w : World) {xss : List (List Int)} {vs l : List Int} (hp : pgB xss vs = true) : joA xss (clL xss l) (bpL xss (lfV xss vs l)) = fpL xss vs l ∧ (gB xss (clL xss l) && gB xss (bpL xss (lfV xss vs l))) = true := by
  obtain ⟨ha, _⟩ := pg_true hp
  have hl := arc_len ha
  have hw := vs_box hp
  have ar : ∀ i, i < xss.length → risB i (xss.getD i []) = true := fun i hi => arcB_at ha hi
  have hpos := posZ_le (vs := lfV xss vs l) (n := xss.length) (c := 1000000) (by omega) fun k hk => by
    rw [lfV_at hk]
    have := hw k hk
    split <;> omega
  have h1 := lb_bp w (vs := lfV xss vs l) ar (by omega) (pE_net ha (lf_pit (l := l) hp).wide)
  have g1 : gB xss (clL xss l) = true := gB_of ha (clo_dnS ar (inL l))
  have g2 : gB xss (bpL xss (lfV xss vs l)) = true := gB_of ha h1.clo
  have g : (gB xss (clL xss l) && gB xss (bpL xss (lfV xss vs l))) = true := by rw [g1, g2]; rfl
  refine ⟨?_, g⟩
  unfold joA
  rw [if_pos g]
  exact fp_eq w hp

set_option maxHeartbeats 4000000 in
set_option maxRecDepth 100000 in
theorem c_ForcedPit (xss : List (List Int)) (vs l : List Int) (v u z : Value) (w : World) (hs : ShortL xss) (hl : vs.length ≤ 4000000) (hl2 : l.length ≤ 4000000) (h : SeenL w v xss) (hu : Seen w u vs) (hz : Seen w z l) :
    Calls Try.prog 20 #[v, u, z] w (GivesRow2 w (fpA xss vs l) (plB xss vs l)) := by
  have C0 := Lib.hid (c_areArcsAndValues xss vs v u w hs hl h hu)
  have C1 := Lib.hid (c_areBlocksBelow xss.length l z w hl2 hz)
  have HP : Hid (plB xss vs l = (pgB xss vs && risB xss.length l)) := rfl
  cases hp : pgB xss vs
  · rw [hp] at C0 HP
    rw [Bool.false_and] at HP
    have HA : Hid (fpA xss vs l = []) := by show _ = _; unfold fpA; rw [HP.out]; rfl
    rw [HA.out, HP.out]
    obtain ⟨A, c, rfl, _⟩ := h.shape
    obtain ⟨A2, c2, rfl⟩ := hu.shape
    obtain ⟨A3, c3, rfl⟩ := hz.shape
    clear C1 h hs hl hl2 hu hz hp
    go_enter Try.func20, Try.ntmps20
    go_wp2_with fail
    refine C0.out.mono ?_
    rintro e w1 ⟨rfl, rfl⟩
    go_wp2
    go_ret2
    exact ⟨_, rfl, Row.nil _ _, Below.refl _ _⟩
  rw [hp] at C0 HP
  rw [Bool.true_and] at HP
  cases hr : risB xss.length l
  · rw [hr] at C1 HP
    have HA : Hid (fpA xss vs l = []) := by show _ = _; unfold fpA; rw [HP.out]; rfl
    rw [HA.out, HP.out]
    obtain ⟨A, c, rfl, _⟩ := h.shape
    obtain ⟨A2, c2, rfl⟩ := hu.shape
    obtain ⟨A3, c3, rfl⟩ := hz.shape
    clear h hs hl hl2 hu hz hp hr
    go_enter Try.func20, Try.ntmps20
    go_wp2_with fail
    refine C0.out.mono ?_
    rintro e w1 ⟨rfl, rfl⟩
    go_wp2_with fail
    refine C1.out.mono ?_
    rintro e w1 ⟨rfl, rfl⟩
    go_wp2
    go_ret2
    exact ⟨_, rfl, Row.nil _ _, Below.refl _ _⟩
  rw [hr] at C1 HP
  obtain ⟨hj1, hj2⟩ := joA_forced w (l := l) hp
  have HA : Hid (fpA xss vs l = fpL xss vs l) := by show _ = _; unfold fpA; rw [HP.out]; rfl
  rw [HA.out, HP.out]
  obtain ⟨ha, hvv⟩ := pg_true hp
  have hN := arc_len ha
  have hvl : vs.length = xss.length := by have := (val_yes hvv).1; omega
  have hcl := clL_len xss l
  have hbl : (bpL xss (lfV xss vs l)).length ≤ 4000000 := by have := sel_len (bpP xss (lfV xss vs l)) xss.length; rw [bpL_sel]; omega
  have EIl : Hid (∀ t, t < (clL xss l).length → 0 ≤ (clL xss l).getD t 0 ∧ (clL xss l).getD t 0 < (xss.length : Int)) := fun t ht => sel_at ht
  have C2 := Lib.hid (c_closeList xss l v z w ha (fun x hx => ris_mem hr hx) hl2 h hz)
  have C3 : Hid (∀ w' : World, Below w.heap.size w w' → Calls Try.prog 40 #[u] w' (GivesRow w' vs)) := fun w' hb => c_Clone vs u w' hl (by omega) (hu.below hb)
  have CP : Hid (∀ (A A2 : Option Addr) (c c2 : Nat) (w' : World), Below w.heap.size w w' → v = .slice A xss.length c → Seen w' (.slice A2 xss.length c2) (lfV xss vs l) → Calls Try.prog 42 #[.agg #[.slice A xss.length c, .slice A2 xss.length c2]] w' (GivesRow w' (bpL xss (lfV xss vs l)))) := fun A A2 c c2 w' hb e hs => by
    subst e
    exact c_leastPit xss _ A A2 c c2 w' (lf_pit hp) (h.below hb) hs
  have CJ : Hid (∀ (ua ub : Value) (w' : World), Below w.heap.size w w' → Seen w' ua (clL xss l) → Seen w' ub (bpL xss (lfV xss vs l)) → Calls Try.prog 41 #[v, ua, ub] w' (GivesRow2 w' (fpL xss vs l) true)) := fun ua ub w' hb h1 h2 => by
    have := c_JoinClosures xss (clL xss l) (bpL xss (lfV xss vs l)) v ua ub w' hs (by omega) hbl (h.below hb) h1 h2
    rwa [hj1, hj2] at this
  have MS : Hid (∀ t y : Nat, t < (clL xss l).length → (clL xss l).getD t 0 = (y : Int) → (mT xss.length (clL xss l) (fun _ => 0) (fun i => vs.getD i 0) t).set y 0 = mT xss.length (clL xss l) (fun _ => 0) (fun i => vs.getD i 0) (t + 1)) := fun t y ht hy => mT_set xss.length (fun _ => 0) (fun i => vs.getD i 0) ht hy
  have ML : Hid (∀ t, (mT xss.length (clL xss l) (fun _ => 0) (fun i => vs.getD i 0) t).length = xss.length) := mT_len _ _ _ _
  have M0 : Hid (mT xss.length (clL xss l) (fun _ => 0) (fun i => vs.getD i 0) 0 = vs) := mT_zero _ _ hvl
  have ME : Hid (mT xss.length (clL xss l) (fun _ => 0) (fun i => vs.getD i 0) (clL xss l).length = lfV xss vs l) := mT_forced _ _
  obtain ⟨A, c, rfl, _⟩ := h.shape
  obtain ⟨A2, c2, rfl⟩ := hu.shape
  obtain ⟨A3, c3, rfl⟩ := hz.shape
  rw [hvl] at C0 C3 ⊢
  clear h hs hl hl2 hu hz hp hr ha hj1 hj2 HA HP hbl
  generalize mT xss.length (clL xss l) (fun _ => 0) (fun i => vs.getD i 0) = M at *
  generalize lfV xss vs l = LF at *
  generalize bpL xss LF = R at *
  generalize fpL xss vs l = FP at *
  generalize clL xss l = CL at *
  generalize xss.length = N at *
  go_enter Try.func20, Try.ntmps20
  go_wp2_with fail
  refine C0.out.mono ?_
  rintro e w1 ⟨rfl, rfl⟩
  go_wp2_with fail
  refine C1.out.mono ?_
  rintro e w1 ⟨rfl, rfl⟩
  go_wp2_with fail
  refine C2.out.mono ?_
  rintro e w2 ⟨vC, rfl, hr, hb⟩
  have HBC := Lib.hid hb
  have HRC := Lib.hid hr
  obtain ⟨AC, cC, rfl⟩ := hr.shape
  clear hr hb C2
  have s2 := HBC.out.size
  go_wp2_with fail
  refine (C3.out _ HBC.out).mono ?_
  rintro e w3 ⟨v3, rfl, hr, hb⟩
  have HB3 : Hid (Below w.heap.size w w3) := HBC.out.trans (hb.mono s2)
  have HRC3 := Lib.hid (HRC.out.below hb)
  obtain ⟨g, cg, e, hg1, hg2⟩ := World.ownsRow.form hr (by rw [hvl]; omega)
  rw [hvl] at e
  subst e
  rw [← M0.out] at hr
  have HR3 := Lib.hid hr
  have HB23 := Lib.hid hb
  clear hr hb C3 HB3 HRC3
  go_wp2_with fail
  go_loopw [30] (fun i wr => ∃ t : Nat, t ≤ CL.length ∧ i = .int .i64 t ∧ Row wr w2.heap.size (.slice (some ⟨g, 0, none⟩) N cg) (M t) ∧ Below w2.heap.size w2 wr) (fun i _ => CL.length - (RowKit.intOf i).toNat)
  case atStart => exact ⟨0, Nat.zero_le _, rfl, HR3.out, HB23.out⟩
  case round =>
    obtain ⟨t, ht, rfl, hr, hb⟩ := hrel
    have HRt := Lib.hid hr
    have HBt := Lib.hid hb
    have HBw : Hid (Below w.heap.size w wr) := HBC.out.trans (hb.mono s2)
    have HRCt := Lib.hid (HRC.out.below hb)
    clear hr hb
    by_cases htl : t < CL.length
    · obtain ⟨bY, oY, e, _, q3⟩ := HRCt.out.seen.at2 htl
      cases e
      obtain ⟨s0, s1⟩ := EIl.out t htl
      have MSt := Lib.hid (MS.out t)
      generalize CL.getD t 0 = y at *
      obtain ⟨y', rfl⟩ := Int.eq_ofNat_of_zero_le s0
      have hy' : y' < N := by omega
      have MSy := Lib.hid (MSt.out y' htl rfl)
      have ml := ML.out t
      have st := Row.set_ ml.symm HRt.out y' 0
      rw [MSy.out] at st
      have R1 := Lib.hid st.1
      have c1 := row_cellT HRt.out ml.symm y' (by omega)
      have f1 := row_frozenT HRt.out ml.symm y'
      have R2 : Hid (Below w2.heap.size w2 (wr.setCell ⟨g, y', none⟩ (.int .i64 0))) := HBt.out.setCell (p := ⟨g, y', none⟩) hg1 _
      have d1 : (0 : Int) ≤ (t : Int) := by omega
      have d2 : (t : Int) < (CL.length : Int) := by omega
      have d3 : (0 : Int) ≤ (y' : Int) := by omega
      have d4 : (y' : Int) < (N : Int) := by omega
      clear st MSt MSy
      go_wp2
      exact ⟨⟨t + 1, by omega, by go_num, R1.out, R2.out⟩, by simp [RowKit.intOf]; omega⟩
    · obtain rfl : t = CL.length := by omega
      have G : Seen wr (.slice (some ⟨g, 0, none⟩) N cg) LF := by
        have := HRt.out.seen
        rwa [ME.out] at this
      have C2 := Lib.hid (CP.out A (some ⟨g, 0, none⟩) c cg wr HBw.out rfl G)
      clear G CP
      go_wp2_with fail
      refine C2.out.mono ?_
      rintro e w4 ⟨v4, rfl, hr, hb⟩
      have HB4 : Hid (Below w.heap.size w w4) := HBw.out.trans (hb.mono HBw.out.size)
      have C5 := Lib.hid (CJ.out _ _ _ HB4.out (HRCt.out.below hb).seen hr.seen)
      obtain ⟨A4, c4, rfl⟩ := hr.shape
      clear hr hb C2
      go_wp2_with fail
      refine C5.out.mono ?_
      rintro e w5 ⟨v5, rfl, hr, hb⟩
      have HB5 : Hid (Below w.heap.size w w5) := HB4.out.trans (hb.mono HB4.out.size)
      have HR5 := Lib.hid (hr.mono HB4.out.size)
      clear hr hb
      go_wp2
      go_ret2
      exact ⟨_, rfl, HR5.out, HB5.out⟩
end Go.Proofs.Ythfmgclndokknaa

namespace Go.Proofs.Ythfmgclndokknaa
open Go.RowKit
set_option linter.unusedVariables false

theorem ls_one {n : Nat} {vs : List Int} (h : vs.length = n) (i' : Nat) : vs.set i' (-1000000000) = lsV n vs (othL n (i' : Int)) := by
  refine List.ext_getElem (by simp [lsV, h]) fun k h1 h2 => ?_
  rw [List.length_set] at h1
  rw [List.getElem_set]
  have e : inL (othL n (i' : Int)) (k : Int) = !((k : Int) == (i' : Int)) := by
    rw [Bool.eq_iff_iff, inL_iff]
    unfold othL
    rw [mem_sel]
    unfold inr
    rw [Bool.and_eq_true, decide_eq_true_eq]
    exact ⟨fun h => h.2, fun h => ⟨by omega, h⟩⟩
  simp only [lsV, List.getElem_map, List.getElem_range, e]
  by_cases c : i' = k
  · subst c
    simp
  · have : ¬ (k : Int) = (i' : Int) := by omega
    simp [c, this, h1]

set_option maxHeartbeats 4000000 in
set_option maxRecDepth 100000 in
theorem c_LossWithout (xss : List (List Int)) (vs : List Int) (i : Int) (v u : Value) (w : World) (hs : ShortL xss) (hl : vs.length ≤ 4000000) (h : SeenL w v xss) (hu : Seen w u vs) :
    Calls Try.prog 25 #[v, u, .int .i64 i] w fun e w' => e = .returned (.tuple #[.int .i64 (lwA xss vs i), .bool (lwB xss vs i)]) ∧ Below w.heap.size w w' := by
  have C0 := Lib.hid (c_BestValue xss vs v u w hs hl h hu)
  cases hp : pgB xss vs
  · rw [hp] at C0
    obtain ⟨A, c, rfl, _⟩ := h.shape
    obtain ⟨A2, c2, rfl⟩ := hu.shape
    have HB : Hid (lwB xss vs i = false) := by show _ = _; unfold lwB; rw [hp]; rfl
    have HA : Hid (lwA xss vs i = 0) := by show _ = _; unfold lwA; rw [HB.out]; rfl
    rw [HB.out, HA.out]
    clear hp h hs hl hu
    go_enter Try.func25, Try.ntmps25
    go_wp2_with fail
    refine C0.out.mono ?_
    rintro e w1 ⟨rfl, hb⟩
    have HB1 := Lib.hid hb
    clear hb
    go_wp2
    go_ret2
    exact ⟨rfl, HB1.out⟩
  rw [hp] at C0
  by_cases hin : 0 ≤ i ∧ i < (xss.length : Int)
  case neg =>
    obtain ⟨A, c, rfl, _⟩ := h.shape
    obtain ⟨A2, c2, rfl⟩ := hu.shape
    have HB : Hid (lwB xss vs i = false) := by show _ = _; unfold lwB; rw [decide_eq_false hin, Bool.and_false]
    have HA : Hid (lwA xss vs i = 0) := by show _ = _; unfold lwA; rw [HB.out]; rfl
    rw [HB.out, HA.out]
    clear hp h hs hl hu
    by_cases h1 : i < 0
    · clear hin
      go_enter Try.func25, Try.ntmps25
      go_wp2_with fail
      refine C0.out.mono ?_
      rintro e w1 ⟨rfl, hb⟩
      have HB1 := Lib.hid hb
      clear hb
      go_wp2
      go_ret2
      exact ⟨rfl, HB1.out⟩
    · have h2 : i ≥ (xss.length : Int) := by omega
      clear hin
      go_enter Try.func25, Try.ntmps25
      go_wp2_with fail
      refine C0.out.mono ?_
      rintro e w1 ⟨rfl, hb⟩
      have HB1 := Lib.hid hb
      clear hb
      go_wp2
      go_ret2
      exact ⟨rfl, HB1.out⟩
  case pos =>
    obtain ⟨i', rfl⟩ := Int.eq_ofNat_of_zero_le hin.1
    have hi' : i' < xss.length := by omega
    have HB : Hid (lwB xss vs (i' : Int) = true) := by show _ = _; unfold lwB; rw [hp, decide_eq_true hin]; rfl
    obtain ⟨ha, hvv⟩ := pg_true hp
    have hN := arc_len ha
    have hvl : vs.length = xss.length := by have := (val_yes hvv).1; omega
    have hpi := pi_eq w (l := othL xss.length (i' : Int)) hp
    have hls := ls_one hvl i'
    have hr2 := bpL_ris xss (lsV xss.length vs (othL xss.length (i' : Int)))
    have hsh := bpL_short xss (lsV xss.length vs (othL xss.length (i' : Int))) ha
    have sb := sumv_at_pg (bs := bpL xss (lsV xss.length vs (othL xss.length (i' : Int)))) hp
    rw [hr2] at sb
    have HBV : Hid (bvA xss vs = sumN (valF vs (bpL xss vs)) (bpL xss vs).length) := by show _ = _; unfold bvA bvV; rw [hp]; rfl
    have HSV : Hid (sumvV vs (bpL xss (lsV xss.length vs (othL xss.length (i' : Int)))) = sumN (valF vs (bpL xss (lsV xss.length vs (othL xss.length (i' : Int))))) (bpL xss (lsV xss.length vs (othL xss.length (i' : Int)))).length) := by show _ = _; unfold sumvV; rw [sb]; rfl
    have HA : Hid (lwA xss vs (i' : Int) = bvA xss vs - sumvV vs (bpL xss (lsV xss.length vs (othL xss.length (i' : Int))))) := by show _ = _; unfold lwA; rw [HB.out, HBV.out, HSV.out, hpi]; rfl
    have b1 := val_box hvv (bpL_ris xss vs)
    have b2 := val_box hvv hr2
    rw [← HBV.out] at b1
    rw [← HSV.out] at b2
    rw [HA.out, HB.out]
    have C3 : Hid (∀ w' : World, Below w.heap.size w w' → Calls Try.prog 40 #[u] w' (GivesRow w' vs)) := fun w' hb => c_Clone vs u w' hl (by omega) (hu.below hb)
    have CP : Hid (∀ (A A2 : Option Addr) (c c2 : Nat) (w' : World), Below w.heap.size w w' → v = .slice A xss.length c → Seen w' (.slice A2 xss.length c2) (lsV xss.length vs (othL xss.length (i' : Int))) → Calls Try.prog 42 #[.agg #[.slice A xss.length c, .slice A2 xss.length c2]] w' (GivesRow w' (bpL xss (lsV xss.length vs (othL xss.length (i' : Int)))))) := fun A A2 c c2 w' hb e hs => by
      subst e
      exact c_leastPit xss _ A A2 c c2 w' (ls_pit hp) (h.below hb) hs
    have CS : Hid (∀ (y : Value) (w' : World), Below w.heap.size w w' → Seen w' y (bpL xss (lsV xss.length vs (othL xss.length (i' : Int)))) → Calls Try.prog 49 #[u, y] w' fun e w'' => e = .returned (.tuple #[.int .i64 (sumvV vs (bpL xss (lsV xss.length vs (othL xss.length (i' : Int))))), .bool true]) ∧ Below w'.heap.size w' w'') := fun y w' hb hy => by
      have := c_SumOfValues vs u (bpL xss (lsV xss.length vs (othL xss.length (i' : Int)))) y w' hl (by omega) (hu.below hb) hy
      rwa [sb] at this
    obtain ⟨A, c, rfl, _⟩ := h.shape
    obtain ⟨A2, c2, rfl⟩ := hu.shape
    clear h hs hl hu hp ha hvv hr2 hsh sb HB HA HBV HSV hpi
    rw [hvl] at C0 C3 CS ⊢
    generalize sumvV vs (bpL xss (lsV xss.length vs (othL xss.length (i' : Int)))) = S2 at *
    generalize bvA xss vs = S1 at *
    generalize lsV xss.length vs (othL xss.length (i' : Int)) = LS at *
    generalize bpL xss LS = R at *
    generalize xss.length = N at *
    have d1 : (0 : Int) ≤ (i' : Int) := by omega
    have d2 : (i' : Int) < (N : Int) := by omega
    have d3 : ¬ (i' : Int) < 0 := by omega
    have d4 : ¬ (i' : Int) ≥ (N : Int) := by omega
    clear hin
    go_enter Try.func25, Try.ntmps25
    go_wp2_with fail
    refine C0.out.mono ?_
    rintro e w1 ⟨rfl, hb⟩
    have HB1 := Lib.hid hb
    clear hb C0
    go_wp2_with fail
    refine (C3.out _ HB1.out).mono ?_
    rintro e w3 ⟨v3, rfl, hr, hb⟩
    have s1 := HB1.out.size
    have HB3 : Hid (Below w.heap.size w w3) := HB1.out.trans (hb.mono s1)
    obtain ⟨g, cg, e, hg1, hg2⟩ := World.ownsRow.form hr (by rw [hvl]; omega)
    rw [hvl] at e
    subst e
    have st := Row.set_ hvl.symm hr i' (-1000000000)
    rw [hls] at st
    have R1 := Lib.hid st.1
    have c1 := row_cellT hr hvl.symm i' (by omega)
    have f1 := row_frozenT hr hvl.symm i'
    have R2 : Hid (Below w.heap.size w (w3.setCell ⟨g, i', none⟩ (.int .i64 (-1000000000)))) := HB3.out.setCell (p := ⟨g, i', none⟩) (show w.heap.size ≤ g by omega) _
    have C2 := Lib.hid (CP.out A (some ⟨g, 0, none⟩) c cg _ R2.out rfl R1.out.seen)
    clear hr hb C3 CP st
    go_wp2_with fail
    refine C2.out.mono ?_
    rintro e w4 ⟨v4, rfl, hr, hb⟩
    have HB4 : Hid (Below w.heap.size w w4) := R2.out.trans (hb.mono R2.out.size)
    have C5 := Lib.hid (CS.out _ _ HB4.out hr.seen)
    obtain ⟨A4, c4, rfl⟩ := hr.shape
    clear hr hb C2
    go_wp2_with fail
    refine C5.out.mono ?_
    rintro e w5 ⟨rfl, hb⟩
    have HB5 : Hid (Below w.heap.size w w5) := HB4.out.trans (hb.mono HB4.out.size)
    clear hb
    go_wp2
    go_ret2
    exact ⟨by go_num, HB5.out⟩
end Go.Proofs.Ythfmgclndokknaa
