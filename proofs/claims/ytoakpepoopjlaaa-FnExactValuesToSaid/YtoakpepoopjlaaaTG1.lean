/-
Least best pits: plain.
Best pits of some blocks alone: plain.
Closures as sets, the pits that are forced or kept in: plain.
Contracts: AreGains and FactorValues, in the program and in the model.
Pits at factors: they grow; first factors, shells, changes and the nearest pit: plain.
Contracts: PitAt, in the program and in the model; the pits at all factors, in the model.
Contracts: IsChain, in the program and in the model.
A law: a range over a bound method that counts its rounds: what is told of a round's value is asked at the world of that round.
Contracts: growth's isValid and the iterator pits, in the program.
-/
import Derived.Test.YtoakpepoopjlaaaTD
import Derived.Test.YtoakpepoopjlaaaM4
import Derived.Test.YtoakpepoopjlaaaLP
import Derived.Test.YtoakpepoopjlaaaNR
import Derived.Test.YtoakpepoopjlaaaRB
import Derived.Test.YtoakpepoopjlaaaN5
import Derived.Test.YtoakpepoopjlaaaM6
import Derived.Test.YtoakpepoopjlaaaZR
import Derived.Deep.RegionHeld3
import Derived.RangeFuncNested
import Derived.RangeFuncCalls
import Derived.RangeFuncLeaves
import Derived.RangeFuncWrites
import Derived.OwnWalkIn
import Derived.TacticsInMore
import Derived.LoopNIn
import Derived.LoopIn
import Derived.RegionIn
import Derived.Test.YtoakpepoopjlaaaC6
import Derived.Test.YtoakpepoopjlaaaTN
namespace Go.Proofs.Ytoakpepoopjlaaa
set_option linter.unusedVariables false

theorem sumZ_next (f : Nat → Int) (n : Nat) : sumZ f (n + 1) = sumZ f n + f n := rfl
/-! ### The value of a cut of the network -/
def cutX (xs : List Int) (m : Nat) (p : Nat → Bool) : Int := outC (eF xs) (eT xs) (eC xs) m p
theorem cut_left {A B : List Int} (p : Nat → Bool) : ∀ {a : Nat}, a * 3 ≤ A.length → cutX (A ++ B) a p = cutX A a p := fun {a} ha => by
  unfold cutX outC
  refine sumZ_congr fun k hk => ?_
  unfold eF eT eC
  rw [getD_lft (by omega), getD_lft (by omega), getD_lft (by omega)]
theorem cut_app {A B : List Int} {a : Nat} (p : Nat → Bool) (hA : A.length = a * 3) : ∀ b, cutX (A ++ B) (a + b) p = cutX A a p + cutX B b p
  | 0 => by
    rw [Nat.add_zero, cut_left p (by omega)]
    show _ = _ + (0 : Int)
    omega
  | b + 1 => by
    have ih := cut_app (B := B) p hA b
    unfold cutX outC at ih ⊢
    rw [← Nat.add_assoc, sumZ_next, sumZ_next, ih]
    have e1 : eF (A ++ B) (a + b) = eF B b := by unfold eF; rw [getD_rgt (j := b * 3) (by omega)]
    have e2 : eT (A ++ B) (a + b) = eT B b := by unfold eT; rw [getD_rgt (j := b * 3 + 1) (by omega)]
    have e3 : eC (A ++ B) (a + b) = eC B b := by unfold eC; rw [getD_rgt (j := b * 3 + 2) (by omega)]
    rw [e1, e2, e3]
    omega

/-- The weight of some blocks. -/
def wtP (vs : List Int) (P : Nat → Bool) (n : Nat) : Int := sumZ (fun i => vs.getD i 0 * io (P i)) n
def posZ (vs : List Int) (n : Nat) : Int := sumZ (fun i => max (vs.getD i 0) 0) n
/-- How many of the arcs of the first blocks lead out. -/
def vioA (P : Nat → Bool) (i : Nat) (ys : List Int) (t : Nat) : Int := sumZ (fun s => io (P i && !P (ys.getD s 0).toNat)) t
def vio (xss : List (List Int)) (P : Nat → Bool) (k : Nat) : Int := sumZ (fun i => vioA P i (xss.getD i []) (xss.getD i []).length) k

theorem cut_val {n i : Nat} (hi : i < n) (v : Int) (p : Nat → Bool) (h0 : p 0 = true) (hz : p (n + 1) = false) : cutX (vE n i v) (vN v) p = max v 0 - v * io (p (i + 1)) := by
  by_cases c : 0 < v
  · obtain ⟨e1, e2⟩ := vE_pos (n := n) (i := i) c
    rw [e1, e2]
    show (0 : Int) + v * io (p 0 && !p (((i : Int) + 1).toNat)) = _
    rw [show ((i : Int) + 1).toNat = i + 1 by omega, h0]
    cases p (i + 1) <;> simp [io] <;> omega
  · by_cases c2 : v < 0
    · obtain ⟨e1, e2⟩ := vE_neg (n := n) (i := i) c2
      rw [e1, e2]
      show (0 : Int) + -v * io (p (((i : Int) + 1).toNat) && !p (((n : Int) + 1).toNat)) = _
      rw [show ((i : Int) + 1).toNat = i + 1 by omega, show ((n : Int) + 1).toNat = n + 1 by omega, hz]
      cases p (i + 1) <;> simp [io] <;> omega
    · obtain ⟨e1, e2⟩ := vE_zero (n := n) (i := i) c c2
      rw [e1, e2]
      have : v = 0 := by omega
      subst this
      simp [cutX, outC, sumZ]
theorem cut_arcs {i : Nat} {ys : List Int} (hr : risB i ys = true) (p : Nat → Bool) : ∀ t, t ≤ ys.length → cutX (aE i ys t) t p = 1000000000 * vioA (fun u => p (u + 1)) i ys t
  | 0, _ => by simp [cutX, outC, sumZ, vioA]
  | t + 1, ht => by
    obtain ⟨a, b⟩ := ris_box hr (show t < ys.length by omega)
    unfold aE
    rw [cut_app p (aE_len i ys t), cut_arcs hr p t (by omega)]
    have : cutX [(i : Int) + 1, ys.getD t 0 + 1, 1000000000] 1 p = 1000000000 * io (p (i + 1) && !p ((ys.getD t 0).toNat + 1)) := by
      show (0 : Int) + 1000000000 * io (p (((i : Int) + 1).toNat) && !p ((ys.getD t 0 + 1).toNat)) = _
      rw [show ((i : Int) + 1).toNat = i + 1 by omega, show (ys.getD t 0 + 1).toNat = (ys.getD t 0).toNat + 1 by omega]
      omega
    rw [this]
    unfold vioA
    show _ = 1000000000 * (sumZ _ t + io (p (i + 1) && !p ((ys.getD t 0).toNat + 1)))
    rw [Int.mul_add]
theorem cut_net {xss : List (List Int)} (ha : ∀ i, i < xss.length → risB i (xss.getD i []) = true) (vs : List Int) (p : Nat → Bool) (h0 : p 0 = true) (hz : p (xss.length + 1) = false) : ∀ k, k ≤ xss.length →
    cutX (pE xss vs k) (pN xss vs k) p = posZ vs k - wtP vs (fun u => p (u + 1)) k + 1000000000 * vio xss (fun u => p (u + 1)) k
  | 0, _ => by simp [cutX, outC, sumZ, posZ, wtP, vio, pN]
  | k + 1, hk => by
    have ih := cut_net ha vs p h0 hz k (by omega)
    unfold pE pN
    rw [cut_app p (by rw [List.length_append, pE_len, vE_len]; omega), cut_app p (pE_len xss vs k), ih, cut_val (by omega) _ p h0 hz, cut_arcs (ha k (by omega)) p _ (Nat.le_refl _)]
    show _ = (posZ vs k + max (vs.getD k 0) 0) - (wtP vs (fun u => p (u + 1)) k + vs.getD k 0 * io (p (k + 1))) + 1000000000 * (vio xss (fun u => p (u + 1)) k + vioA (fun u => p (u + 1)) k (xss.getD k []) (xss.getD k []).length)
    rw [Int.mul_add]
    omega

/-! ### The least best closure -/
def Clo (xss : List (List Int)) (P : Nat → Bool) : Prop := ∀ i, i < xss.length → P i = true → ∀ t, t < (xss.getD i []).length → P ((xss.getD i []).getD t 0).toNat = true
theorem sumZ_ge {f : Nat → Int} : ∀ {n : Nat}, (∀ k, k < n → 0 ≤ f k) → 0 ≤ sumZ f n := fun {n} h => by
  have := sumZ_le (f := fun _ => 0) (g := f) (n := n) h
  rwa [sumZ_zero (fun _ _ => rfl)] at this
theorem sumZ_one_le {f : Nat → Int} : ∀ {n : Nat}, (∀ k, k < n → 0 ≤ f k) → ∀ {j}, j < n → f j ≤ sumZ f n
  | 0, _, j, hj => by omega
  | n + 1, h, j, hj => by
    rw [sumZ_next]
    have h1 := sumZ_ge (f := f) (n := n) fun k hk => h k (by omega)
    have h2 := h n (by omega)
    by_cases e : j = n
    · subst e; omega
    · have := sumZ_one_le (f := f) (n := n) (fun k hk => h k (by omega)) (j := j) (by omega)
      omega
theorem io_ge (b : Bool) : 0 ≤ io b ∧ io b ≤ 1 := by cases b <;> simp [io]
theorem vioA_ge (P : Nat → Bool) (i : Nat) (ys : List Int) (t : Nat) : 0 ≤ vioA P i ys t := sumZ_ge fun k _ => (io_ge _).1
theorem vio_ge (xss : List (List Int)) (P : Nat → Bool) (k : Nat) : 0 ≤ vio xss P k := sumZ_ge fun i _ => vioA_ge _ _ _ _
theorem vio_clo {xss : List (List Int)} {P : Nat → Bool} (h : Clo xss P) : vio xss P xss.length = 0 := sumZ_zero fun i hi => sumZ_zero fun s hs => by
  cases hp : P i
  · rfl
  · have := h i hi hp s hs
    show io (true && !P ((xss.getD i []).getD s 0).toNat) = 0
    rw [this]
    rfl
theorem clo_vio {xss : List (List Int)} {P : Nat → Bool} (h : vio xss P xss.length < 1) : Clo xss P := fun i hi hp t ht => by
  have h1 := sumZ_one_le (f := fun i => vioA P i (xss.getD i []) (xss.getD i []).length) (n := xss.length) (fun i _ => vioA_ge _ _ _ _) hi
  have h2 := sumZ_one_le (f := fun s => io (P i && !P ((xss.getD i []).getD s 0).toNat)) (n := (xss.getD i []).length) (fun s _ => (io_ge _).1) ht
  unfold vio at h
  unfold vioA at h1 h
  cases hq : P ((xss.getD i []).getD t 0).toNat
  · simp only [hp, hq] at h2
    rw [show io (true && !false) = 1 from rfl] at h2
    simp only [hp] at h1
    omega
  · rfl
theorem wt_pos (vs : List Int) (P : Nat → Bool) (n : Nat) : wtP vs P n ≤ posZ vs n := sumZ_le fun k _ => by
  show _ ≤ max (vs.getD k 0) 0
  cases P k <;> simp [io] <;> omega
/-- Of the closures of greatest weight the one that is in each other. -/
structure LB (xss : List (List Int)) (vs : List Int) (P : Nat → Bool) : Prop where
  clo : Clo xss P
  best : ∀ Q, Clo xss Q → wtP vs Q xss.length ≤ wtP vs P xss.length
  least : ∀ Q, Clo xss Q → wtP vs Q xss.length = wtP vs P xss.length → ∀ i, i < xss.length → P i = true → Q i = true
def liftQ (n : Nat) (Q : Nat → Bool) (u : Nat) : Bool := if u = 0 then true else if u = n + 1 then false else Q (u - 1)
theorem lift_at {n : Nat} (Q : Nat → Bool) {i : Nat} (h : i < n) : liftQ n Q (i + 1) = Q i := by unfold liftQ; rw [if_neg (by omega), if_neg (by omega)]; rfl
theorem wt_congr {vs : List Int} {P Q : Nat → Bool} {n : Nat} (h : ∀ i, i < n → P i = Q i) : wtP vs P n = wtP vs Q n := sumZ_congr fun k hk => by rw [h k hk]
theorem clo_congr {xss : List (List Int)} (ha : ∀ i, i < xss.length → risB i (xss.getD i []) = true) {P Q : Nat → Bool} (h : ∀ i, i < xss.length → P i = Q i) (hP : Clo xss P) : Clo xss Q := fun i hi hq t ht => by
  have h1 := ris_box (ha i hi) ht
  rw [← h _ (by omega)]
  exact hP i hi (by rw [h i hi]; exact hq) t ht
theorem lb_full {xss : List (List Int)} {vs : List Int} {v : Int} {S : Nat → Bool} (ha : ∀ i, i < xss.length → risB i (xss.getD i []) = true) (hp : posZ vs xss.length < 1000000000)
    (h : FullX (xss.length + 2) (pN xss vs xss.length) (pE xss vs xss.length) v S) : LB xss vs (fun i => S (i + 1)) := by
  obtain ⟨R, hr, hv, h0, h1, hs, hl⟩ := h.ex
  rw [show xss.length + 2 - 1 = xss.length + 1 from rfl] at hv h1
  have c1 := net_shut hr hs
  have c2 := hv S h0 h1
  have c3 := cut_net ha vs S h0 h1 _ (Nat.le_refl _)
  unfold cutX at c3
  have key : ∀ Q, Clo xss Q → net (eF (pE xss vs xss.length)) (eT (pE xss vs xss.length)) (pN xss vs xss.length) R (liftQ xss.length Q) = v ∧ outC (eF (pE xss vs xss.length)) (eT (pE xss vs xss.length)) (eC (pE xss vs xss.length)) (pN xss vs xss.length) (liftQ xss.length Q) = posZ vs xss.length - wtP vs Q xss.length ∧ v ≤ posZ vs xss.length - wtP vs Q xss.length := fun Q hQ => by
    have q0 : liftQ xss.length Q 0 = true := rfl
    have q1 : liftQ xss.length Q (xss.length + 1) = false := by unfold liftQ; rw [if_neg (by omega), if_pos rfl]
    have e1 := hv _ q0 q1
    have e2 := @net_le (eF (pE xss vs xss.length)) (eT (pE xss vs xss.length)) _ _ _ hr (liftQ xss.length Q)
    have e3 := cut_net ha vs _ q0 q1 _ (Nat.le_refl _)
    unfold cutX at e3
    have same : ∀ i, i < xss.length → Q i = liftQ xss.length Q (i + 1) := fun i hi => (lift_at Q hi).symm
    rw [wt_congr (P := fun u => liftQ xss.length Q (u + 1)) (Q := Q) (fun i hi => (same i hi).symm), vio_clo (clo_congr ha same hQ)] at e3
    refine ⟨e1, by omega, by omega⟩
  have hclo : Clo xss (fun i => S (i + 1)) := by
    refine clo_vio ?_
    have k0 := (key (fun _ => false) (fun i hi hp => by cases hp)).2.2
    have w0 : wtP vs (fun _ => false) xss.length = 0 := sumZ_zero fun k _ => by simp [io]
    have := wt_pos vs (fun i => S (i + 1)) xss.length
    omega
  have c4 := vio_clo hclo
  refine ⟨hclo, fun Q hQ => ?_, fun Q hQ he i hi hp => ?_⟩
  · have := (key Q hQ).2.2
    omega
  · obtain ⟨k1, k2, k3⟩ := key Q hQ
    have := hl (liftQ xss.length Q) rfl (shut_of_net hr (by omega)) (i + 1) (by omega) hp
    rwa [lift_at Q hi] at this
end Go.Proofs.Ytoakpepoopjlaaa

namespace Go.Proofs.Ytoakpepoopjlaaa
set_option linter.unusedVariables false

theorem ris_of {n : Int} {l : List Int} (h : l.Pairwise (· < ·)) (hm : ∀ x ∈ l, 0 ≤ x ∧ x < n) : risB n l = true := ris_true fun k hk => by
  have e : ∀ j, j < l.length → l.getD j 0 ∈ l := fun j hj => getD_memN hj
  refine ⟨?_, (hm _ (e k hk)).2⟩
  match k, hk with
  | 0, hk =>
    have := (hm _ (e 0 hk)).1
    show (-1 : Int) < _
    omega
  | k + 1, hk =>
    show l.getD k 0 < _
    have h1 : k < l.length := by omega
    have := List.pairwise_iff_getElem.1 h k (k + 1) h1 hk (by omega)
    simpa [h1, hk] using this

theorem getD_lst (xs : List Int) (a : Int) : (xs ++ [a]).getD xs.length 0 = a := by simp

/-! ### The place of a block among some -/
def rnk (b : Int → Bool) (i : Nat) : Nat := (sel b i).length
theorem sel_next (b : Int → Bool) (k : Nat) : sel b (k + 1) = sel b k ++ (if b k then [(k : Int)] else []) := rfl
theorem rnk_yes {b : Int → Bool} {i : Nat} (h : b i = true) : rnk b (i + 1) = rnk b i + 1 := by unfold rnk; rw [sel_next, if_pos h]; simp
theorem rnk_no {b : Int → Bool} {i : Nat} (h : ¬ b i = true) : rnk b (i + 1) = rnk b i := by unfold rnk; rw [sel_next, if_neg h]; simp
theorem rnk_le (b : Int → Bool) (i : Nat) : ∀ {k}, i ≤ k → rnk b i ≤ rnk b k := fun {k} h => by
  induction k with
  | zero => obtain rfl : i = 0 := by omega
            omega
  | succ k ih =>
    by_cases e : i = k + 1
    · subst e; omega
    · have := ih (by omega)
      by_cases c : b (k : Int) = true
      · rw [rnk_yes c]; omega
      · rw [rnk_no c]; omega
theorem rnk_lt {b : Int → Bool} {i k : Nat} (h : i < k) (hb : b i = true) : rnk b i < rnk b k := by
  have h1 := rnk_yes hb
  have h2 := rnk_le b (i + 1) (k := k) (by omega)
  omega
theorem sel_rnk {b : Int → Bool} {i : Nat} (hb : b i = true) : ∀ {n}, i < n → (sel b n).getD (rnk b i) 0 = (i : Int) := fun {n} hi => by
  induction n with
  | zero => omega
  | succ n ih =>
    rw [sel_next]
    by_cases e : i = n
    · subst e
      rw [if_pos hb]
      exact (getD_lst _ _)
    · have hl : rnk b i < (sel b n).length := rnk_lt (by omega) hb
      rw [getD_lft hl]
      exact ih (by omega)
theorem sel_place {b : Int → Bool} {n j : Nat} (hj : j < (sel b n).length) : ∃ i : Nat, i < n ∧ b i = true ∧ (sel b n).getD j 0 = (i : Int) ∧ rnk b i = j := by
  have hm := getD_memN hj
  rw [mem_sel] at hm
  unfold inr at hm
  rw [Bool.and_eq_true, decide_eq_true_eq] at hm
  obtain ⟨⟨h1, h2⟩, h3⟩ := hm
  obtain ⟨i, hi⟩ := Int.eq_ofNat_of_zero_le h1
  rw [hi] at h2 h3
  refine ⟨i, by omega, h3, hi, ?_⟩
  have hr : rnk b i < (sel b n).length := rnk_lt (by omega) h3
  have e := sel_rnk h3 (n := n) (by omega)
  have hp := sel_rising b n
  rcases Nat.lt_trichotomy (rnk b i) j with c | c | c
  · have := List.pairwise_iff_getElem.1 hp _ _ hr hj c
    simp only [List.getD_eq_getElem?_getD, List.getElem?_eq_getElem hr, List.getElem?_eq_getElem hj, Option.getD_some] at e hi
    omega
  · exact c
  · have := List.pairwise_iff_getElem.1 hp _ _ hj hr c
    simp only [List.getD_eq_getElem?_getD, List.getElem?_eq_getElem hr, List.getElem?_eq_getElem hj, Option.getD_some] at e hi
    omega
theorem sum_sel2 (b : Int → Bool) (g : Int → Nat → Int) : ∀ n, sumZ (fun j => g ((sel b n).getD j 0) j) (sel b n).length = sumZ (fun i => if b (i : Int) then g i (rnk b i) else 0) n
  | 0 => rfl
  | n + 1 => by
    have ih := sum_sel2 b g n
    rw [sumZ_next, ← ih]
    by_cases c : b (n : Int) = true
    · have el : (sel b (n + 1)).length = (sel b n).length + 1 := rnk_yes c
      have es : sel b (n + 1) = sel b n ++ [(n : Int)] := by rw [sel_next, if_pos c]
      rw [el, sumZ_next, if_pos c]
      congr 1
      · refine sumZ_congr fun j hj => ?_
        rw [es, getD_lft hj]
      · rw [es, getD_lst]
        rfl
    · have es : sel b (n + 1) = sel b n := by rw [sel_next, if_neg c]; simp
      rw [es, if_neg c]
      omega

/-! ### Some blocks alone, in their own numbers -/
def ownL (b : Int → Bool) (ys : List Int) : List Int := (ys.filter b).map fun y => ((rnk b y.toNat : Nat) : Int)
def ownA (xss : List (List Int)) (b : Int → Bool) : List (List Int) := (sel b xss.length).map fun i => ownL b (xss.getD i.toNat [])
def worA (vs : List Int) (b : Int → Bool) (n : Nat) : List Int := (sel b n).map fun i => vs.getD i.toNat 0
theorem ownA_len (xss : List (List Int)) (b : Int → Bool) : (ownA xss b).length = (sel b xss.length).length := by simp [ownA]
theorem worA_len (vs : List Int) (b : Int → Bool) (n : Nat) : (worA vs b n).length = (sel b n).length := by simp [worA]
theorem ownA_at {xss : List (List Int)} {b : Int → Bool} {j : Nat} (hj : j < (sel b xss.length).length) : (ownA xss b).getD j [] = ownL b (xss.getD ((sel b xss.length).getD j 0).toNat []) := by
  simp [ownA, List.getD_eq_getElem?_getD, List.getElem?_eq_getElem hj]
theorem worA_at {vs : List Int} {b : Int → Bool} {n j : Nat} (hj : j < (sel b n).length) : (worA vs b n).getD j 0 = vs.getD ((sel b n).getD j 0).toNat 0 := by
  simp [worA, List.getD_eq_getElem?_getD, List.getElem?_eq_getElem hj]
theorem own_ris {xss : List (List Int)} (ha : ∀ i, i < xss.length → risB i (xss.getD i []) = true) (b : Int → Bool) : ∀ j, j < (ownA xss b).length → risB j ((ownA xss b).getD j []) = true := fun j hj => by
  rw [ownA_len] at hj
  rw [ownA_at hj]
  obtain ⟨i, hi, hb, e, er⟩ := sel_place hj
  rw [e, Int.toNat_natCast]
  have hr := ha i hi
  refine ris_of ?_ fun x hx => ?_
  · unfold ownL
    rw [List.pairwise_map]
    refine (List.Pairwise.filter _ (ris_rising hr)).imp_of_mem fun {x y} hx hy hlt => ?_
    obtain ⟨hx1, hx2⟩ := List.mem_filter.1 hx
    obtain ⟨hy1, hy2⟩ := List.mem_filter.1 hy
    have h1 := ris_mem hr hx1
    have h2 := ris_mem hr hy1
    have : rnk b x.toNat < rnk b y.toNat := rnk_lt (by omega) (by rw [Int.toNat_of_nonneg h1.1]; exact hx2)
    omega
  · unfold ownL at hx
    obtain ⟨y, hy, rfl⟩ := List.mem_map.1 hx
    obtain ⟨hy1, hy2⟩ := List.mem_filter.1 hy
    have h1 := ris_mem hr hy1
    have : rnk b y.toNat < rnk b i := rnk_lt (by omega) (by rw [Int.toNat_of_nonneg h1.1]; exact hy2)
    omega
theorem Clo.mem {xss : List (List Int)} {P : Nat → Bool} (h : Clo xss P) {i : Nat} (hi : i < xss.length) (hp : P i = true) {y : Int} (hy : y ∈ xss.getD i []) : P y.toNat = true := by
  obtain ⟨t, ht, rfl⟩ := mem_getD hy
  exact h i hi hp t ht
theorem Clo.of {xss : List (List Int)} {P : Nat → Bool} (h : ∀ i, i < xss.length → P i = true → ∀ y ∈ xss.getD i [], P y.toNat = true) : Clo xss P := fun i hi hp t ht => h i hi hp _ (getD_memN ht)

/-- Closed among some blocks. -/
def Rel (xss : List (List Int)) (b : Int → Bool) (Q : Nat → Bool) : Prop := ∀ i : Nat, i < xss.length → b i = true → Q i = true → ∀ y ∈ xss.getD i [], b y = true → Q y.toNat = true
def wtB (vs : List Int) (b : Int → Bool) (Q : Nat → Bool) (n : Nat) : Int := sumZ (fun i => if b (i : Int) then vs.getD i 0 * io (Q i) else 0) n
def upQ (b : Int → Bool) (Q : Nat → Bool) : Nat → Bool := fun i => b i && Q (rnk b i)
def dnQ (b : Int → Bool) (n : Nat) (Q : Nat → Bool) : Nat → Bool := fun j => Q ((sel b n).getD j 0).toNat
theorem wt_up (vs : List Int) (b : Int → Bool) (n : Nat) (Q : Nat → Bool) : wtP (worA vs b n) Q (sel b n).length = wtB vs b (upQ b Q) n := by
  have h := sum_sel2 b (fun i j => vs.getD i.toNat 0 * io (Q j)) n
  unfold wtP wtB
  rw [sumZ_congr (f := fun j => (worA vs b n).getD j 0 * io (Q j)) (g := fun j => vs.getD ((sel b n).getD j 0).toNat 0 * io (Q j)) (fun j hj => by rw [worA_at hj]), h]
  refine sumZ_congr fun i hi => ?_
  unfold upQ
  cases c : b (i : Int)
  · rfl
  · simp
theorem wt_dn (vs : List Int) (b : Int → Bool) (n : Nat) (Q : Nat → Bool) : wtP (worA vs b n) (dnQ b n Q) (sel b n).length = wtB vs b Q n := by
  rw [wt_up]
  refine sumZ_congr fun i hi => ?_
  unfold upQ dnQ
  cases c : b (i : Int)
  · rfl
  · rw [sel_rnk c hi]
    simp
theorem rel_up {xss : List (List Int)} {b : Int → Bool} {Q : Nat → Bool} (ha : ∀ i, i < xss.length → risB i (xss.getD i []) = true) (h : Clo (ownA xss b) Q) : Rel xss b (upQ b Q) := fun i hi hb hq y hy hy2 => by
  have h1 := ris_mem (ha i hi) hy
  have hr : rnk b i < (sel b xss.length).length := rnk_lt hi hb
  unfold upQ at hq ⊢
  rw [hb, Bool.true_and] at hq
  rw [Int.toNat_of_nonneg h1.1, hy2, Bool.true_and]
  have := h.mem (i := rnk b i) (by rw [ownA_len]; exact hr) hq (y := ((rnk b y.toNat : Nat) : Int)) (by
    rw [ownA_at hr, sel_rnk hb hi, Int.toNat_natCast]
    exact List.mem_map.2 ⟨y, List.mem_filter.2 ⟨hy, hy2⟩, rfl⟩)
  rwa [Int.toNat_natCast] at this
theorem clo_dn {xss : List (List Int)} {b : Int → Bool} {Q : Nat → Bool} (ha : ∀ i, i < xss.length → risB i (xss.getD i []) = true) (h : Rel xss b Q) : Clo (ownA xss b) (dnQ b xss.length Q) := Clo.of fun j hj hp x hx => by
  rw [ownA_len] at hj
  rw [ownA_at hj] at hx
  obtain ⟨i, hi, hb, e, er⟩ := sel_place hj
  unfold dnQ at hp
  rw [e, Int.toNat_natCast] at hp hx
  unfold ownL at hx
  obtain ⟨y, hy, rfl⟩ := List.mem_map.1 hx
  obtain ⟨hy1, hy2⟩ := List.mem_filter.1 hy
  have h1 := ris_mem (ha i hi) hy1
  have := h i hi hb hp y hy1 hy2
  unfold dnQ
  rw [Int.toNat_natCast, sel_rnk (by rw [Int.toNat_of_nonneg h1.1]; exact hy2) (by omega), Int.toNat_natCast]
  exact this
/-- Among some blocks, of the closed ones of greatest weight the one that is in each other. -/
structure SB (xss : List (List Int)) (vs : List Int) (b : Int → Bool) (P : Nat → Bool) : Prop where
  rel : Rel xss b P
  best : ∀ Q, Rel xss b Q → wtB vs b Q xss.length ≤ wtB vs b P xss.length
  least : ∀ Q, Rel xss b Q → wtB vs b Q xss.length = wtB vs b P xss.length → ∀ i : Nat, i < xss.length → b i = true → P i = true → Q i = true
theorem sb_of {xss : List (List Int)} {vs : List Int} {b : Int → Bool} {P : Nat → Bool} (ha : ∀ i, i < xss.length → risB i (xss.getD i []) = true) (h : LB (ownA xss b) (worA vs b xss.length) P) : SB xss vs b (upQ b P) := by
  have wu := wt_up vs b xss.length
  have wd := wt_dn vs b xss.length
  have hl := ownA_len xss b
  refine ⟨rel_up ha h.clo, fun Q hQ => ?_, fun Q hQ he i hi hb hp => ?_⟩
  · have := h.best _ (clo_dn ha hQ)
    rw [hl, wd, wu] at this
    exact this
  · have hr : rnk b i < (sel b xss.length).length := rnk_lt hi hb
    unfold upQ at hp
    rw [hb, Bool.true_and] at hp
    have := h.least _ (clo_dn ha hQ) (by rw [hl, wd, wu]; exact he) (rnk b i) (by rw [hl]; exact hr) hp
    unfold dnQ at this
    rwa [sel_rnk hb hi, Int.toNat_natCast] at this

/-! ### What is forced -/
theorem forced_eq {xss : List (List Int)} {vs lf : List Int} {f : Int → Bool} {P1 P2 : Nat → Bool} (ha : ∀ i, i < xss.length → risB i (xss.getD i []) = true) (hf : Clo xss (fun i => f i)) (hlf : ∀ i : Nat, i < xss.length → lf.getD i 0 = if f i then 0 else vs.getD i 0)
    (h1 : LB xss lf P1) (h2 : SB xss vs (fun x => !f x) P2) : ∀ i : Nat, i < xss.length → f i = false → P1 i = P2 i := by
  have wt : ∀ Q, wtP lf Q xss.length = wtB vs (fun x => !f x) Q xss.length := fun Q => sumZ_congr fun i hi => by
    show lf.getD i 0 * _ = (if (!f (i : Int)) = true then vs.getD i 0 * io (Q i) else 0)
    rw [hlf i hi]
    cases f (i : Int) <;> simp
  have wtc : ∀ Q, wtB vs (fun x => !f x) (fun i => f i || Q i) xss.length = wtB vs (fun x => !f x) Q xss.length := fun Q => sumZ_congr fun i hi => by
    show (if (!f (i : Int)) = true then vs.getD i 0 * io (f (i : Int) || Q i) else 0) = (if (!f (i : Int)) = true then vs.getD i 0 * io (Q i) else 0)
    cases f (i : Int) <;> simp
  have rel1 : Rel xss (fun x => !f x) P1 := fun i hi _ hp y hy _ => h1.clo.mem hi hp hy
  have clo2 : Clo xss (fun i => f i || P2 i) := Clo.of fun i hi hp y hy => by
    have hb := ris_mem (ha i hi) hy
    show (f ((y.toNat : Nat) : Int) || P2 y.toNat) = true
    rw [Int.toNat_of_nonneg hb.1]
    cases c : f y
    · rw [Bool.false_or]
      cases c2 : f (i : Int)
      · have hp' : (f (i : Int) || P2 i) = true := hp
        rw [c2, Bool.false_or] at hp'
        exact h2.rel i hi (by show (!f (i : Int)) = true; rw [c2]; rfl) hp' y hy (by show (!f y) = true; rw [c]; rfl)
      · have := hf.mem hi c2 hy
        have e : f ((y.toNat : Nat) : Int) = true := this
        rw [Int.toNat_of_nonneg hb.1, c] at e
        cases e
    · rfl
  have b1 := h2.best P1 rel1
  have b2 := h1.best _ clo2
  rw [wt, wt, wtc] at b2
  intro i hi hfi
  have hb : (!f (i : Int)) = true := by rw [hfi]; rfl
  cases c1 : P1 i
  · cases c2 : P2 i
    · rfl
    · have := h2.least P1 rel1 (by omega) i hi hb c2
      rw [c1] at this
      cases this
  · have : (f (i : Int) || P2 i) = true := h1.least _ clo2 (by rw [wt, wt, wtc]; omega) i hi c1
    rw [hfi, Bool.false_or] at this
    exact this.symm

/-! ### What is kept in -/
theorem inside_eq {xss : List (List Int)} {vs ls : List Int} {l g : Int → Bool} {P1 P2 : Nat → Bool} (ha : ∀ i, i < xss.length → risB i (xss.getD i []) = true) (hls : ∀ i : Nat, i < xss.length → ls.getD i 0 = if l i then vs.getD i 0 else -1000000000)
    (hp : posZ ls xss.length < 1000000000) (hg : Clo xss (fun i => g i)) (hgl : ∀ i : Nat, i < xss.length → g i = true → l i = true) (hgm : ∀ Q : Nat → Bool, Clo xss Q → (∀ i : Nat, i < xss.length → Q i = true → l i = true) → ∀ i : Nat, i < xss.length → Q i = true → g i = true)
    (h1 : LB xss ls P1) (h2 : SB xss vs g P2) : ∀ i : Nat, i < xss.length → P1 i = (g i && P2 i) := by
  have w0 : wtP ls (fun _ => false) xss.length = 0 := sumZ_zero fun k _ => by simp [io]
  have w1 : 0 ≤ wtP ls P1 xss.length := by
    have := h1.best (fun _ => false) (fun i hi hp => by cases hp)
    omega
  have in1 : ∀ i : Nat, i < xss.length → P1 i = true → l i = true := fun i hi hpi => by
    cases c : l (i : Int)
    · exfalso
      have hle : sumZ (fun k => ls.getD k 0 * io (P1 k) - (if k = i then -1000000000 else 0)) xss.length ≤ posZ ls xss.length := sumZ_le fun k hk => by
        show _ ≤ max (ls.getD k 0) 0
        by_cases e : k = i
        · subst e
          rw [if_pos rfl, hls k hk, c, hpi]
          simp [io]
          omega
        · rw [if_neg e]
          cases P1 k <;> simp [io] <;> omega
      have hone := sumZ_one (f := fun k => ls.getD k 0 * io (P1 k)) (g := fun k => ls.getD k 0 * io (P1 k) - (if k = i then -1000000000 else 0)) hi (fun k hk hne => by simp [hne])
      rw [if_pos rfl] at hone
      unfold wtP at w1
      omega
    · rfl
  have sub1 : ∀ i : Nat, i < xss.length → P1 i = true → g i = true := hgm P1 h1.clo in1
  have wt : ∀ Q : Nat → Bool, wtP ls (fun i => g i && Q i) xss.length = wtB vs g Q xss.length := fun Q => sumZ_congr fun i hi => by
    show ls.getD i 0 * io (g (i : Int) && Q i) = _
    cases c : g (i : Int)
    · simp [io]
    · rw [hls i hi, hgl i hi c]
      simp
  have same : wtP ls P1 xss.length = wtP ls (fun i => g i && P1 i) xss.length := wt_congr fun i hi => by
    cases c : P1 i
    · simp
    · rw [sub1 i hi c]; rfl
  have rel1 : Rel xss g P1 := fun i hi _ hp y hy _ => h1.clo.mem hi hp hy
  have clo2 : Clo xss (fun i => g i && P2 i) := Clo.of fun i hi hp y hy => by
    have hb := ris_mem (ha i hi) hy
    have hp' : (g (i : Int) && P2 i) = true := hp
    rw [Bool.and_eq_true] at hp'
    have e : g ((y.toNat : Nat) : Int) = true := hg.mem hi hp'.1 hy
    rw [Int.toNat_of_nonneg hb.1] at e
    show (g ((y.toNat : Nat) : Int) && P2 y.toNat) = true
    rw [Int.toNat_of_nonneg hb.1, e, Bool.true_and]
    exact h2.rel i hi hp'.1 hp'.2 y hy e
  have b1 := h2.best P1 rel1
  have b2 := h1.best _ clo2
  rw [wt, same, wt] at b2
  intro i hi
  cases c1 : P1 i
  · cases c2 : g (i : Int)
    · rfl
    · cases c3 : P2 i
      · rfl
      · have := h2.least P1 rel1 (by omega) i hi c2 c3
        rw [c1] at this
        cases this
  · have : (g (i : Int) && P2 i) = true := h1.least _ clo2 (by rw [wt, same, wt]; omega) i hi c1
    rw [this]
end Go.Proofs.Ytoakpepoopjlaaa

namespace Go.Proofs.Ytoakpepoopjlaaa
open Go.RowKit
set_option linter.unusedVariables false

/-! ### The least closure with some blocks -/
theorem dnS_next (xss : List (List Int)) (p : Int → Bool) (t : Nat) : dnS xss p (t + 1) = if dnS xss p t ((xss.length - 1 - t : Nat) : Int) = true then addL (xss.getD (xss.length - 1 - t) []) (dnS xss p t) else dnS xss p t := rfl
theorem dnS_up (xss : List (List Int)) (p : Int → Bool) (t : Nat) (y : Int) (h : dnS xss p t y = true) : dnS xss p (t + 1) y = true := by
  rw [dnS_next]
  split
  · unfold addL
    rw [h, Bool.or_true]
  · exact h
theorem dnS_inv {xss : List (List Int)} (ha : ∀ i, i < xss.length → risB i (xss.getD i []) = true) (p : Int → Bool) : ∀ t, t ≤ xss.length → ∀ i : Nat, i < xss.length → xss.length - t ≤ i → dnS xss p t i = true → ∀ y ∈ xss.getD i [], dnS xss p t y = true
  | 0, _, i, hi, hk, _, _, _ => by omega
  | t + 1, ht, i, hi, hk, hd, y, hy => by
    by_cases e : i = xss.length - 1 - t
    · by_cases c : dnS xss p t ((xss.length - 1 - t : Nat) : Int) = true
      · rw [dnS_next, if_pos c]
        unfold addL
        rw [← e]
        have : (xss.getD i []).contains y = true := by simpa using hy
        rw [this, Bool.true_or]
      · rw [dnS_next, if_neg c, e] at hd
        exact absurd hd c
    · have hd2 : dnS xss p t i = true := by
        rw [dnS_next] at hd
        split at hd
        · unfold addL at hd
          rw [Bool.or_eq_true] at hd
          rcases hd with h | h
          · have hm : (i : Int) ∈ xss.getD (xss.length - 1 - t) [] := by simpa using h
            have := ris_mem (ha _ (by omega)) hm
            omega
          · exact h
        · exact hd
      exact dnS_up xss p t y (dnS_inv ha p t (by omega) i hi (by omega) hd2 y hy)
theorem clo_dnS {xss : List (List Int)} (ha : ∀ i, i < xss.length → risB i (xss.getD i []) = true) (p : Int → Bool) : Clo xss (fun i => dnS xss p xss.length i) := Clo.of fun i hi hp y hy => by
  have hb := ris_mem (ha i hi) hy
  show dnS xss p xss.length ((y.toNat : Nat) : Int) = true
  rw [Int.toNat_of_nonneg hb.1]
  exact dnS_inv ha p _ (Nat.le_refl _) i hi (by omega) hp y hy

/-! ### The greatest closure inside some blocks -/
theorem insS_far (xss : List (List Int)) (p : Int → Bool) (y : Int) : ∀ (k m : Nat), (∀ j : Nat, k ≤ j → j < k + m → y ≠ (j : Int)) → insS xss p (k + m) y = insS xss p k y
  | k, 0, _ => rfl
  | k, m + 1, h => by
    show (if y = ((k + m : Nat) : Int) then _ else insS xss p (k + m) y) = _
    rw [if_neg (h (k + m) (by omega) (by omega))]
    exact insS_far xss p y k m fun j h1 h2 => h j h1 (by omega)
theorem insS_end {xss : List (List Int)} (ha : ∀ i, i < xss.length → risB i (xss.getD i []) = true) (p : Int → Bool) {i : Nat} (hi : i < xss.length) : insS xss p xss.length i = (p i && (xss.getD i []).all (insS xss p xss.length)) := by
  have e : ∀ y : Int, 0 ≤ y → y < (i : Int) → insS xss p xss.length y = insS xss p i y := fun y h0 h1 => by
    have := insS_far xss p y i (xss.length - i) (fun j h2 h3 => by omega)
    rwa [show i + (xss.length - i) = xss.length by omega] at this
  have e1 := insS_far xss p i (i + 1) (xss.length - (i + 1)) (fun j h2 h3 => by omega)
  rw [show i + 1 + (xss.length - (i + 1)) = xss.length by omega] at e1
  rw [e1]
  show (if (i : Int) = (i : Int) then insS xss p i i && (xss.getD i []).all (insS xss p i) else _) = _
  rw [if_pos rfl, insS_ge _ _ _ _ (Int.le_refl _)]
  congr 1
  rw [Bool.eq_iff_iff, List.all_eq_true, List.all_eq_true]
  constructor
  · intro h y hy
    have hb := ris_mem (ha i hi) hy
    rw [e y hb.1 hb.2]
    exact h y hy
  · intro h y hy
    have hb := ris_mem (ha i hi) hy
    rw [← e y hb.1 hb.2]
    exact h y hy
theorem clo_insS {xss : List (List Int)} (ha : ∀ i, i < xss.length → risB i (xss.getD i []) = true) (p : Int → Bool) : Clo xss (fun i => insS xss p xss.length i) := Clo.of fun i hi hp y hy => by
  have hb := ris_mem (ha i hi) hy
  show insS xss p xss.length ((y.toNat : Nat) : Int) = true
  rw [Int.toNat_of_nonneg hb.1]
  have hp' : insS xss p xss.length i = true := hp
  rw [insS_end ha p hi, Bool.and_eq_true, List.all_eq_true] at hp'
  exact hp'.2 y hy
theorem insS_sub {xss : List (List Int)} (ha : ∀ i, i < xss.length → risB i (xss.getD i []) = true) (p : Int → Bool) {i : Nat} (hi : i < xss.length) (h : insS xss p xss.length i = true) : p i = true := by
  rw [insS_end ha p hi, Bool.and_eq_true] at h
  exact h.1
theorem insS_most {xss : List (List Int)} (ha : ∀ i, i < xss.length → risB i (xss.getD i []) = true) (p : Int → Bool) (Q : Nat → Bool) (hQ : Clo xss Q) (hp : ∀ i : Nat, i < xss.length → Q i = true → p i = true) : ∀ (m i : Nat), i < m → i < xss.length → Q i = true → insS xss p xss.length i = true
  | 0, i, h, _, _ => by omega
  | m + 1, i, h, hi, hq => by
    rw [insS_end ha p hi, Bool.and_eq_true, List.all_eq_true]
    refine ⟨hp i hi hq, fun y hy => ?_⟩
    have hb := ris_mem (ha i hi) hy
    have := insS_most ha p Q hQ hp m y.toNat (by omega) (by omega) (hQ.mem hi hq hy)
    rwa [Int.toNat_of_nonneg hb.1] at this

/-! ### Sets and lists -/
theorem sel_map (b q : Int → Bool) (N : Nat) : ∀ n, n ≤ N → (sel q (rnk b n)).map (fun k => (sel b N).getD k.toNat 0) = sel (fun x => b x && q ((rnk b x.toNat : Nat) : Int)) n
  | 0, _ => rfl
  | n + 1, h => by
    have ih := sel_map b q N n (by omega)
    by_cases c : b (n : Int) = true
    · rw [rnk_yes c, sel_next, List.map_append, ih, sel_next]
      congr 1
      rw [Int.toNat_natCast, c, Bool.true_and]
      by_cases d : q ((rnk b n : Nat) : Int) = true
      · rw [if_pos d, if_pos d, List.map_singleton, Int.toNat_natCast, sel_rnk c (by omega)]
      · rw [if_neg d, if_neg d]; rfl
    · rw [rnk_no c, ih, sel_next, if_neg (by simp [c])]
      simp
theorem sel_same {p q : Int → Bool} : ∀ {n : Nat}, (∀ i : Nat, i < n → p i = q i) → sel p n = sel q n
  | 0, _ => rfl
  | n + 1, h => by rw [sel_next, sel_next, sel_same (fun i hi => h i (by omega)), h n (by omega)]
theorem clos_sel {xss : List (List Int)} (ha : ∀ i, i < xss.length → risB i (xss.getD i []) = true) {p : Int → Bool} (h : Clo xss (fun i => p i)) : closB xss (sel p xss.length) = true := by
  unfold closB
  rw [List.all_eq_true]
  intro x hx
  rw [mem_sel] at hx
  unfold inr at hx
  rw [Bool.and_eq_true, decide_eq_true_eq] at hx
  obtain ⟨⟨h1, h2⟩, h3⟩ := hx
  rw [List.all_eq_true]
  intro y hy
  rw [inL_iff, mem_sel]
  unfold inr
  have hi : x.toNat < xss.length := by omega
  have hb := ris_mem (ha _ hi) hy
  have e : p ((y.toNat : Nat) : Int) = true := h.mem hi (by show p ((x.toNat : Nat) : Int) = true; rw [Int.toNat_of_nonneg h1]; exact h3) hy
  rw [Int.toNat_of_nonneg hb.1] at e
  rw [Bool.and_eq_true, decide_eq_true_eq]
  exact ⟨by omega, e⟩

/-! ### The answers -/
noncomputable def bpP (xss : List (List Int)) (vs : List Int) : Int → Bool := fun i => lcP (xss.length + 2) (pN xss vs xss.length) (pE xss vs xss.length) (i + 1)
theorem bpL_sel (xss : List (List Int)) (vs : List Int) : bpL xss vs = sel (bpP xss vs) xss.length := rfl
/-- The pit of some blocks alone, in the numbers of all. -/
noncomputable def onP (xss : List (List Int)) (vs : List Int) (b : Int → Bool) : Int → Bool := fun x => b x && bpP (ownA xss b) (worA vs b xss.length) ((rnk b x.toNat : Nat) : Int)
theorem on_map (xss : List (List Int)) (vs : List Int) (b : Int → Bool) : (bpL (ownA xss b) (worA vs b xss.length)).map (fun k => (sel b xss.length).getD k.toNat 0) = sel (onP xss vs b) xss.length := by
  rw [bpL_sel, ownA_len]
  exact sel_map b _ _ _ (Nat.le_refl _)
theorem posZ_le {vs : List Int} {n : Nat} {c : Int} (hc : 0 ≤ c) (h : ∀ k, k < n → vs.getD k 0 ≤ c) : posZ vs n ≤ n * c := sumZ_bound hc fun k hk => by
  have := h k hk
  show max (vs.getD k 0) 0 ≤ c
  omega
theorem worA_le {vs : List Int} {n : Nat} {b : Int → Bool} (h : ∀ k, k < n → -1000000 ≤ vs.getD k 0 ∧ vs.getD k 0 ≤ 1000000) : ∀ k, k < (sel b n).length → -1000000 ≤ (worA vs b n).getD k 0 ∧ (worA vs b n).getD k 0 ≤ 1000000 := fun k hk => by
  rw [worA_at hk]
  obtain ⟨i, hi, _, e, _⟩ := sel_place hk
  rw [e, Int.toNat_natCast]
  exact h i hi
theorem full_gc (w : World) {n m : Nat} {xs : List Int} (hn : netW n m xs = true) (hx : xs.length = m * 3) : FullX n m xs (gfV n m xs) (gcS n m xs) := by
  have h1 := (gc_ends w hn hx).1
  by_cases h : ∃ v S, FullX n m xs v S
  · unfold gfV gcS
    rw [dif_pos h, dif_pos h]
    exact h.choose_spec.choose_spec
  · unfold gcS at h1
    rw [dif_neg h] at h1
    cases h1
theorem lb_bp (w : World) {xss : List (List Int)} {vs : List Int} (ha : ∀ i, i < xss.length → risB i (xss.getD i []) = true) (hp : posZ vs xss.length < 1000000000) (hn : netW ((xss.length + 2 : Nat) : Int) (pN xss vs xss.length) (pE xss vs xss.length) = true) : LB xss vs (fun i => bpP xss vs i) :=
  lb_full ha hp (full_gc w hn (pE_len xss vs xss.length))

/-- The pit with some blocks forced. -/
noncomputable def fpL (xss : List (List Int)) (vs l : List Int) : List Int := sel (fun x => dnS xss (inL l) xss.length x || onP xss vs (fun y => !dnS xss (inL l) xss.length y) x) xss.length
/-- The values with what is forced at 0. -/
def lfV (xss : List (List Int)) (vs l : List Int) : List Int := (List.range xss.length).map fun (i : Nat) => if dnS xss (inL l) xss.length (i : Int) then 0 else vs.getD i 0
/-- The values with what is out at -1000000000. -/
def lsV (n : Nat) (vs l : List Int) : List Int := (List.range n).map fun (i : Nat) => if inL l (i : Int) then vs.getD i 0 else -1000000000
noncomputable def piL (xss : List (List Int)) (vs l : List Int) : List Int := sel (onP xss vs (insS xss (inL l) xss.length)) xss.length
theorem lfV_at {xss : List (List Int)} {vs l : List Int} {i : Nat} (hi : i < xss.length) : (lfV xss vs l).getD i 0 = if dnS xss (inL l) xss.length (i : Int) then 0 else vs.getD i 0 := by
  unfold lfV
  rw [List.getD_eq_getElem?_getD, List.getElem?_map, List.getElem?_range hi]
  rfl
theorem lsV_at {n : Nat} {vs l : List Int} {i : Nat} (hi : i < n) : (lsV n vs l).getD i 0 = if inL l (i : Int) then vs.getD i 0 else -1000000000 := by
  unfold lsV
  rw [List.getD_eq_getElem?_getD, List.getElem?_map, List.getElem?_range hi]
  rfl
theorem lf_pit {xss : List (List Int)} {vs l : List Int} (hp : pgB xss vs = true) : PitOk xss (lfV xss vs l) := by
  obtain ⟨ha, hv⟩ := pg_true hp
  have hw := val_wide hv
  refine ⟨ha, by simp [lfV], fun k hk => ?_⟩
  rw [lfV_at hk]
  have := hw k (by omega)
  split <;> omega
theorem ls_pit {xss : List (List Int)} {vs l : List Int} (hp : pgB xss vs = true) : PitOk xss (lsV xss.length vs l) := by
  obtain ⟨ha, hv⟩ := pg_true hp
  have hw := val_wide hv
  refine ⟨ha, by simp [lsV], fun k hk => ?_⟩
  rw [lsV_at hk]
  have := hw k (by omega)
  split <;> omega
theorem vs_box {xss : List (List Int)} {vs : List Int} (hp : pgB xss vs = true) : ∀ k, k < xss.length → -1000000 ≤ vs.getD k 0 ∧ vs.getD k 0 ≤ 1000000 := fun k hk => by
  obtain ⟨ha, hv⟩ := pg_true hp
  obtain ⟨e, _, _, hw⟩ := val_yes hv
  exact wall_at hw (by omega)
theorem own_net {xss : List (List Int)} {vs : List Int} (hp : pgB xss vs = true) (b : Int → Bool) : netW (((ownA xss b).length + 2 : Nat) : Int) (pN (ownA xss b) (worA vs b xss.length) (ownA xss b).length) (pE (ownA xss b) (worA vs b xss.length) (ownA xss b).length) = true := by
  obtain ⟨ha, _⟩ := pg_true hp
  have hl := arc_len ha
  have hb := worA_le (b := b) (vs_box hp)
  have hm : (ownA xss b).length ≤ 120 := by rw [ownA_len]; have := sel_len b xss.length; omega
  rcases Nat.eq_zero_or_pos (ownA xss b).length with h0 | h0
  · rw [h0]
    rfl
  · have ha2 : arcB (ownA xss b) = true := arc_true ⟨h0, hm⟩ (fun i hi => own_ris (fun i hi => arcB_at ha hi) b i hi)
    exact pE_net ha2 fun k hk => by
      rw [ownA_len] at hk
      have := hb k hk
      omega
theorem sb_on (w : World) {xss : List (List Int)} {vs : List Int} (hp : pgB xss vs = true) (b : Int → Bool) : SB xss vs b (fun i => onP xss vs b i) := by
  obtain ⟨ha, _⟩ := pg_true hp
  have hl := arc_len ha
  have hb := worA_le (b := b) (vs_box hp)
  have hm : (sel b xss.length).length ≤ 120 := by have := sel_len b xss.length; omega
  have h1 := posZ_le (c := 1000000) (by omega) fun k hk => (hb k hk).2
  have := sb_of (fun i hi => arcB_at ha hi) (lb_bp w (own_ris (fun i hi => arcB_at ha hi) b) (by rw [ownA_len]; omega) (own_net hp b))
  exact this
theorem fp_eq (w : World) {xss : List (List Int)} {vs l : List Int} (hp : pgB xss vs = true) : sel (addL (bpL xss (lfV xss vs l)) (inL (clL xss l))) xss.length = fpL xss vs l := by
  obtain ⟨ha, _⟩ := pg_true hp
  have hl := arc_len ha
  have hw := vs_box hp
  have ar : ∀ i, i < xss.length → risB i (xss.getD i []) = true := fun i hi => arcB_at ha hi
  have hpos := posZ_le (vs := lfV xss vs l) (n := xss.length) (c := 1000000) (by omega) fun k hk => by
    rw [lfV_at hk]
    have := hw k hk
    split <;> omega
  have hpit := lf_pit (l := l) hp
  have h1 := lb_bp w (vs := lfV xss vs l) ar (by omega) (pE_net ha hpit.wide)
  have h2 := sb_on w hp (fun y => !dnS xss (inL l) xss.length y)
  have key := forced_eq ar (clo_dnS ar (inL l)) (fun i hi => lfV_at hi) h1 h2
  refine sel_same fun i hi => ?_
  have e1 : inL (clL xss l) (i : Int) = dnS xss (inL l) xss.length i := by
    rw [Bool.eq_iff_iff, inL_iff]
    unfold clL
    rw [mem_sel]
    unfold inr
    rw [Bool.and_eq_true, decide_eq_true_eq]
    exact ⟨fun h => h.2, fun h => ⟨by omega, h⟩⟩
  have e2 : (bpL xss (lfV xss vs l)).contains (i : Int) = bpP xss (lfV xss vs l) i := by
    rw [bpL_sel, Bool.eq_iff_iff, List.contains_iff_mem, mem_sel]
    unfold inr
    rw [Bool.and_eq_true, decide_eq_true_eq]
    exact ⟨fun h => h.2, fun h => ⟨by omega, h⟩⟩
  show ((bpL xss (lfV xss vs l)).contains (i : Int) || inL (clL xss l) (i : Int)) = _
  rw [e1, e2]
  cases c : dnS xss (inL l) xss.length (i : Int)
  · rw [key i hi c, Bool.or_false, Bool.false_or]
  · simp
theorem pi_eq (w : World) {xss : List (List Int)} {vs l : List Int} (hp : pgB xss vs = true) : bpL xss (lsV xss.length vs l) = piL xss vs l := by
  obtain ⟨ha, _⟩ := pg_true hp
  have hl := arc_len ha
  have hw := vs_box hp
  have ar : ∀ i, i < xss.length → risB i (xss.getD i []) = true := fun i hi => arcB_at ha hi
  have hpos := posZ_le (vs := lsV xss.length vs l) (n := xss.length) (c := 1000000) (by omega) fun k hk => by
    rw [lsV_at hk]
    have := hw k hk
    split <;> omega
  have hpit := ls_pit (l := l) hp
  have h1 := lb_bp w (vs := lsV xss.length vs l) ar (by omega) (pE_net ha hpit.wide)
  have h2 := sb_on w hp (insS xss (inL l) xss.length)
  have key := inside_eq ar (fun i hi => lsV_at hi) (by omega) (clo_insS ar (inL l)) (fun i hi h => insS_sub ar _ hi h) (fun Q hQ hq i hi h => insS_most ar _ Q hQ hq (i + 1) i (by omega) hi h) h1 h2
  rw [bpL_sel]
  refine sel_same fun i hi => ?_
  rw [key i hi]
  unfold onP
  cases insS xss (inL l) xss.length (i : Int) <;> simp
end Go.Proofs.Ytoakpepoopjlaaa

namespace Go.Proofs.Ytoakpepoopjlaaa
open Go.RowKit
set_option linter.unusedVariables false

/-! ### Plain -/
def gnB (gs cs : List Int) (n : Int) : Bool := decide (1 ≤ n ∧ n ≤ 120) && (areB n 10000 gs && areB n 400000 cs)
def fcB (f : Int) : Bool := decide (0 ≤ f ∧ f ≤ 60)
/-- The values at a factor. -/
def faL (gs cs : List Int) (f : Int) : List Int := (List.range gs.length).map fun i => gs.getD i 0 * f - cs.getD i 0
def fvB (gs cs : List Int) (f : Int) : Bool := gnB gs cs gs.length && fcB f
def fvA (gs cs : List Int) (f : Int) : List Int := if fvB gs cs f then faL gs cs f else []
theorem faL_len (gs cs : List Int) (f : Int) : (faL gs cs f).length = gs.length := by simp [faL]
theorem faL_at {gs cs : List Int} {f : Int} {i : Nat} (h : i < gs.length) : (faL gs cs f).getD i 0 = gs.getD i 0 * f - cs.getD i 0 := by simp [faL, h]
theorem fvA_len (gs cs : List Int) (f : Int) (h : gs.length ≤ 4000000) : (fvA gs cs f).length ≤ 4000000 := by
  unfold fvA
  split
  · rw [faL_len]; exact h
  · simp
theorem are_yes {n hi : Int} {xs : List Int} (h : areB n hi xs = true) : (xs.length : Int) = n ∧ ∀ k, k < xs.length → 0 ≤ xs.getD k 0 ∧ xs.getD k 0 ≤ hi := by
  unfold areB at h
  rw [Bool.and_eq_true, decide_eq_true_eq] at h
  exact ⟨h.1, fun k hk => all_at h.2 hk⟩
structure Gains (gs cs : List Int) (n : Nat) : Prop where
  n1 : 1 ≤ n
  n2 : n ≤ 120
  gl : gs.length = n
  cl : cs.length = n
  gb : ∀ k, k < n → 0 ≤ gs.getD k 0 ∧ gs.getD k 0 ≤ 10000
  cb : ∀ k, k < n → 0 ≤ cs.getD k 0 ∧ cs.getD k 0 ≤ 400000
theorem Gains.of {gs cs : List Int} {n : Nat} (h : gnB gs cs n = true) : Gains gs cs n := by
  unfold gnB at h
  rw [Bool.and_eq_true, Bool.and_eq_true, decide_eq_true_eq] at h
  obtain ⟨h1, h2, h3⟩ := h
  have a2 := are_yes h2
  have a3 := are_yes h3
  exact ⟨by omega, by omega, by omega, by omega, fun k hk => a2.2 k (by omega), fun k hk => a3.2 k (by omega)⟩
theorem fc_yes {f : Int} (h : fcB f = true) : 0 ≤ f ∧ f ≤ 60 := by simpa [fcB] using h
theorem worth_box {g c f : Int} (h1 : 0 ≤ g) (h2 : g ≤ 10000) (h3 : 0 ≤ c) (h4 : c ≤ 400000) (h5 : 0 ≤ f) (h6 : f ≤ 60) : 0 ≤ g * f ∧ g * f ≤ 600000 ∧ -400000 ≤ g * f - c ∧ g * f - c ≤ 600000 := by
  have a : 0 ≤ g * f := Int.mul_nonneg h1 h5
  have b : g * f ≤ 10000 * 60 := Int.mul_le_mul h2 h6 h5 (by omega)
  omega

/-! ### The program -/
set_option maxHeartbeats 1000000 in
theorem c_AreGains (gs cs : List Int) (v u : Value) (m : Int) (w : World) (l1 : gs.length ≤ 4000000) (l2 : cs.length ≤ 4000000) (h : Seen w v gs) (hu : Seen w u cs) :
    Calls Try.prog 15 #[v, u, .int .i64 m] w fun e w' => e = .returned (.bool (gnB gs cs m)) ∧ w = w' := by
  have CG := Lib.hid (c_areNumbers gs v m 10000 w l1 h)
  have CC := Lib.hid (c_areNumbers cs u m 400000 w l2 hu)
  obtain ⟨A, c, rfl⟩ := h.shape
  obtain ⟨A2, c2, rfl⟩ := hu.shape
  unfold gnB
  clear h hu
  generalize areB m 10000 gs = R at *
  generalize areB m 400000 cs = Q at *
  by_cases h1 : 1 ≤ m
  · have h1' : m ≥ 1 := h1
    by_cases h2 : m ≤ 120
    · rw [decide_eq_true ⟨h1, h2⟩, Bool.true_and]
      cases R
      · go_enter Try.func15, Try.ntmps15
        go_wp2_with fail
        refine CG.out.mono ?_
        rintro e w1 ⟨rfl, rfl⟩
        go_wp2
        go_ret
        exact ⟨rfl, rfl⟩
      · go_enter Try.func15, Try.ntmps15
        go_wp2_with fail
        refine CG.out.mono ?_
        rintro e w1 ⟨rfl, rfl⟩
        go_wp2_with fail
        refine CC.out.mono ?_
        rintro e w1 ⟨rfl, rfl⟩
        go_wp2
        go_ret
        exact ⟨rfl, rfl⟩
    · rw [decide_eq_false (fun e => h2 e.2), Bool.false_and]
      go_enter Try.func15, Try.ntmps15
      go_wp2
      go_ret
      exact ⟨rfl, rfl⟩
  · have h1' : ¬ m ≥ 1 := h1
    rw [decide_eq_false (fun e => h1 e.1), Bool.false_and]
    go_enter Try.func15, Try.ntmps15
    go_wp2
    go_ret
    exact ⟨rfl, rfl⟩

theorem c_isFactor (f : Int) (w : World) : Calls Try.prog 46 #[.int .i64 f] w fun e w' => e = .returned (.bool (fcB f)) ∧ w = w' := by
  unfold fcB
  by_cases h1 : 0 ≤ f
  · have h1' : f ≥ 0 := h1
    by_cases h2 : f ≤ 60
    · rw [decide_eq_true ⟨h1, h2⟩]
      go_enter Try.func46, Try.ntmps46
      go_wp2
      go_ret
      exact ⟨rfl, rfl⟩
    · rw [decide_eq_false (fun e => h2 e.2)]
      go_enter Try.func46, Try.ntmps46
      go_wp2
      go_ret
      exact ⟨rfl, rfl⟩
  · have h1' : ¬ f ≥ 0 := h1
    rw [decide_eq_false (fun e => h1 e.1)]
    go_enter Try.func46, Try.ntmps46
    go_wp2
    go_ret
    exact ⟨rfl, rfl⟩

theorem c_valueAt (g c f : Int) (w : World) (h1 : 0 ≤ g) (h2 : g ≤ 10000) (h3 : 0 ≤ c) (h4 : c ≤ 400000) (h5 : 0 ≤ f) (h6 : f ≤ 60) :
    Calls Try.prog 47 #[.int .i64 g, .int .i64 c, .int .i64 f] w fun e w' => e = .returned (.int .i64 (g * f - c)) ∧ w = w' := by
  obtain ⟨b1, b2, b3, b4⟩ := worth_box h1 h2 h3 h4 h5 h6
  have e1 : IntKind.i64.wrap (g * f) = g * f := IntWalk.i64_in _ (by omega)
  have e2 : IntKind.i64.wrap (g * f - c) = g * f - c := IntWalk.i64_in _ (by omega)
  go_enter Try.func47, Try.ntmps47
  go_wp2
  go_ret
  exact ⟨by first | rfl | (rw [e1, e2]) | (simp only [e1, e2]), rfl⟩

/-- A list of zeros is made. -/
theorem mk_ints (w : World) (n : Nat) (hn : n ≤ 4000000) : (Instr.makeSlice 22 (.int .i64 (n : Int)) (.int .i64 (n : Int))).run Try.prog w = .ok (.slice (some ⟨w.heap.size, 0, none⟩) n n) (w.alloc (.cells (madeCells #[.int .i64 0] n) 3)) := by
  obtain ⟨i0, hi0, hz0, hz1, hz2⟩ := info_parts int_info
  have := run_make (P := Try.prog) w 22 3 i0 (.int .i64 0) Try.underlying22 hi0 hz0 .i64 .i64 (n : Int) (n : Int) (by omega) (by omega) (by rw [hz2]; omega) (by omega)
  simpa [hz1, Value.cells] using this
set_option maxHeartbeats 2000000 in
set_option maxRecDepth 100000 in
theorem c_FactorValues (gs cs : List Int) (f : Int) (v u : Value) (w : World) (l1 : gs.length ≤ 4000000) (l2 : cs.length ≤ 4000000) (h : Seen w v gs) (hu : Seen w u cs) :
    Calls Try.prog 18 #[v, u, .int .i64 f] w (GivesRow2 w (fvA gs cs f) (fvB gs cs f)) := by
  have CG := Lib.hid (c_AreGains gs cs v u gs.length w l1 l2 h hu)
  have CF := Lib.hid (c_isFactor f w)
  obtain ⟨A, c, rfl, hm, hA⟩ := h
  obtain ⟨A2, c2, rfl, hm2, hA2⟩ := hu
  unfold fvA fvB
  cases hG : gnB gs cs gs.length
  · rw [hG] at CG
    rw [Bool.false_and, if_neg (by simp)]
    clear hA hA2 hG
    generalize gs.length = n at *
    generalize cs.length = n2 at *
    go_enter Try.func18, Try.ntmps18
    go_wp2_with fail
    refine CG.out.mono ?_
    rintro e w1 ⟨rfl, rfl⟩
    go_wp2
    go_ret2
    exact ⟨_, rfl, Row.nil _ _, Below.refl _ _⟩
  · rw [hG] at CG
    rw [Bool.true_and]
    cases hF : fcB f
    · rw [hF] at CF
      rw [if_neg (by simp)]
      clear hA hA2 hG hF
      generalize gs.length = n at *
      generalize cs.length = n2 at *
      go_enter Try.func18, Try.ntmps18
      go_wp2_with fail
      refine CG.out.mono ?_
      rintro e w1 ⟨rfl, rfl⟩
      go_wp2_with fail
      refine CF.out.mono ?_
      rintro e w1 ⟨rfl, rfl⟩
      go_wp2
      go_ret2
      exact ⟨_, rfl, Row.nil _ _, Below.refl _ _⟩
    · rw [hF] at CF
      rw [if_pos rfl]
      have G := Gains.of hG
      obtain ⟨f1, f2⟩ := fc_yes hF
      obtain ⟨b, off, rfl, hb, hc⟩ := hA (by have := G.n1; omega)
      obtain ⟨b2, off2, rfl, hb2, hc2⟩ := hA2 (by have := G.n1; have := G.cl; omega)
      have E1 : Hid (∀ k : Nat, k < gs.length → w.cell? ⟨b, off + k, none⟩ = some (.int .i64 (gs.getD k 0))) := hc
      have E2 : Hid (∀ k : Nat, k < gs.length → w.cell? ⟨b2, off2 + k, none⟩ = some (.int .i64 (cs.getD k 0))) := fun k hk => hc2 k (by have := G.cl; omega)
      have GB : Hid (∀ k : Nat, k < gs.length → 0 ≤ gs.getD k 0 ∧ gs.getD k 0 ≤ 10000) := G.gb
      have CB : Hid (∀ k : Nat, k < gs.length → 0 ≤ cs.getD k 0 ∧ cs.getD k 0 ≤ 400000) := G.cb
      have hcl : cs.length = gs.length := G.cl
      have n1 := G.n1
      have n2 := G.n2
      obtain ⟨ys, hys⟩ : ∃ ys, faL gs cs f = ys := ⟨_, rfl⟩
      have hyl : ys.length = gs.length := by rw [← hys, faL_len]
      have HV : Hid (∀ k, k < gs.length → ys.getD k 0 = gs.getD k 0 * f - cs.getD k 0) := fun k hk => by rw [← hys, faL_at hk]
      have HS : Hid (∀ j, j < gs.length → (half ys j).set j (ys.getD j 0) = half ys (j + 1)) := fun j hj => half_set ys j (by omega)
      have HL : Hid (∀ j, j ≤ gs.length → (half ys j).length = gs.length) := fun j hj => by rw [half_len ys j (by omega), hyl]
      have H0 : Hid (half ys 0 = List.replicate gs.length 0) := by show _ = _; rw [half_zero, hyl]
      have HN : Hid (half ys gs.length = ys) := by show _ = _; rw [← hyl]; exact half_all ys
      rw [hys]
      have HZ : Hid (Row (w.alloc (.cells (madeCells #[.int .i64 0] gs.length) 3)) w.heap.size (.slice (some ⟨w.heap.size, 0, none⟩) gs.length gs.length) (List.replicate gs.length 0)) := row_zeros w gs.length (by unfold maxLen; omega)
      have hbA : Hid (b < w.heap.size) := hb
      have hbB : Hid (b2 < w.heap.size) := hb2
      clear hc hc2 hA hA2 hG hF G hys hb hb2 hm hm2 l1 l2
      rw [hcl] at CG ⊢
      clear hcl
      generalize gs.length = n at *
      have hn0 : (0 : Int) ≤ (n : Int) := by omega
      go_enter Try.func18, Try.ntmps18
      go_wp2_with fail
      refine CG.out.mono ?_
      rintro e w1 ⟨rfl, rfl⟩
      go_wp2_with fail
      refine CF.out.mono ?_
      rintro e w1 ⟨rfl, rfl⟩
      have hmk := mk_ints w n (by omega)
      go_wp2_with fail
      clear hmk
      go_loopw [27] (fun i wr => ∃ k : Nat, k ≤ n ∧ i = .int .i64 k ∧ Row wr w.heap.size (.slice (some ⟨w.heap.size, 0, none⟩) n n) (half ys k) ∧ Below w.heap.size w wr) (fun i _ => n - (RowKit.intOf i).toNat)
      case atStart => exact ⟨0, Nat.zero_le _, rfl, by rw [H0.out]; exact HZ.out, (Below.refl _ _).alloc (Nat.le_refl _) _⟩
      case round =>
        obtain ⟨k, hk, rfl, hr, hb⟩ := hrel
        have HR := Lib.hid hr
        have HB := Lib.hid hb
        clear hr hb
        by_cases hlt : k < n
        · have q0 : wr.cell? ⟨b, off + k, none⟩ = some (.int .i64 (gs.getD k 0)) := by rw [HB.out.cell (p := ⟨b, off + k, none⟩) hbA.out]; exact E1.out k hlt
          have q3 : wr.cell? ⟨b2, off2 + k, none⟩ = some (.int .i64 (cs.getD k 0)) := by rw [HB.out.cell (p := ⟨b2, off2 + k, none⟩) hbB.out]; exact E2.out k hlt
          have hkl : k < (half ys k).length := by rw [HL.out k hk]; exact hlt
          have q1 : wr.cell? ⟨w.heap.size, k, none⟩ = some (.int .i64 ((half ys k).getD k 0)) := by
            have hr := HR.out
            rw [← HL.out k hk] at hr
            exact hr.cell k hkl
          have q2 : wr.frozen? ⟨w.heap.size, k, none⟩ = false := by
            have hr := HR.out
            rw [← HL.out k hk] at hr
            exact hr.frozen k
          have N1 : Hid (Row (wr.setCell ⟨w.heap.size, k, none⟩ (.int .i64 (gs.getD k 0 * f - cs.getD k 0))) w.heap.size (.slice (some ⟨w.heap.size, 0, none⟩) n n) (half ys (k + 1)) ∧ wr.grownBy (wr.setCell ⟨w.heap.size, k, none⟩ (.int .i64 (gs.getD k 0 * f - cs.getD k 0))) (some w.heap.size)) := by
            have := Row.set_ (HL.out k hk).symm HR.out k (gs.getD k 0 * f - cs.getD k 0)
            rw [← HV.out k hlt, HS.out k hlt, HV.out k hlt] at this
            exact this
          have CV : Hid (∀ wz, Calls Try.prog 47 #[.int .i64 (gs.getD k 0), .int .i64 (cs.getD k 0), .int .i64 f] wz fun e w' => e = .returned (.int .i64 (gs.getD k 0 * f - cs.getD k 0)) ∧ wz = w') := fun wz => c_valueAt _ _ _ wz (GB.out k hlt).1 (GB.out k hlt).2 (CB.out k hlt).1 (CB.out k hlt).2 f1 f2
          generalize gs.getD k 0 * f - cs.getD k 0 = t at *
          generalize (half ys k).getD k 0 = z at q1
          generalize gs.getD k 0 = g at *
          generalize cs.getD k 0 = x at *
          have b1 : (0 : Int) ≤ (k : Int) := by omega
          have b3 : (k : Int) < (n : Int) := by omega
          clear hkl
          go_wp2_with fail
          refine (CV.out _).mono ?_
          rintro e w1 ⟨rfl, rfl⟩
          go_wp2
          go_roundw
          case rel => exact ⟨k + 1, by omega, by go_num, N1.out.1, HB.out.setCell (Nat.le_refl _) _⟩
          case measure => simp [RowKit.intOf]; omega
        · obtain rfl : k = n := by omega
          go_wp2
          go_ret2
          exact ⟨_, rfl, by have := HR.out; rw [HN.out] at this; exact this, HB.out⟩

/-! ### The model -/
set_option maxHeartbeats 1000000 in
theorem c_neGains (gs cs : List Int) (v u : Value) (m : Int) (w : World) (l1 : gs.length ≤ 4000000) (l2 : cs.length ≤ 4000000) (h : Seen w v gs) (hu : Seen w u cs) :
    Calls Try.prog 42 #[v, u, .int .i64 m] w fun e w' => e = .returned (.bool (gnB gs cs m)) ∧ w = w' := by
  have CG := Lib.hid (c_l1All gs v 10000 w l1 h)
  have CC := Lib.hid (c_l1All cs u 400000 w l2 hu)
  obtain ⟨A, c, rfl⟩ := h.shape
  obtain ⟨A2, c2, rfl⟩ := hu.shape
  unfold gnB areB
  clear h hu
  generalize allB 10000 gs = R at *
  generalize allB 400000 cs = Q at *
  generalize gs.length = n at *
  generalize cs.length = n2 at *
  by_cases h1 : (1 : Int) ≤ m ∧ m ≤ 120
  · have H1 := Lib.hid (decide_eq_true h1)
    rw [decide_eq_true h1, Bool.true_and]
    clear h1
    by_cases e1 : (n : Int) = m
    · have e1' : ((n : Int) == m) = true := by simpa using e1
      rw [decide_eq_true e1, Bool.true_and]
      by_cases e2 : (n2 : Int) = m
      · have e2' : ((n2 : Int) == m) = true := by simpa using e2
        rw [decide_eq_true e2, Bool.true_and]
        cases R
        · go_enter Try.func42, Try.ntmps42
          go_wp2_with fail
          refine (c_l1In _ _ _ _).mono ?_
          rintro e w1 ⟨rfl, rfl⟩
          rw [H1.out]
          go_wp2_with fail
          refine CG.out.mono ?_
          rintro e w1 ⟨rfl, rfl⟩
          go_wp2
          go_ret
          exact ⟨rfl, rfl⟩
        · go_enter Try.func42, Try.ntmps42
          go_wp2_with fail
          refine (c_l1In _ _ _ _).mono ?_
          rintro e w1 ⟨rfl, rfl⟩
          rw [H1.out]
          go_wp2_with fail
          refine CG.out.mono ?_
          rintro e w1 ⟨rfl, rfl⟩
          go_wp2_with fail
          refine CC.out.mono ?_
          rintro e w1 ⟨rfl, rfl⟩
          go_wp2
          go_ret
          exact ⟨rfl, rfl⟩
      · have e2' : ((n2 : Int) == m) = false := by simpa using e2
        rw [decide_eq_false e2, Bool.false_and, Bool.and_false]
        go_enter Try.func42, Try.ntmps42
        go_wp2_with fail
        refine (c_l1In _ _ _ _).mono ?_
        rintro e w1 ⟨rfl, rfl⟩
        rw [H1.out]
        go_wp2
        go_ret
        exact ⟨rfl, rfl⟩
    · have e1' : ((n : Int) == m) = false := by simpa using e1
      rw [decide_eq_false e1, Bool.false_and, Bool.false_and]
      go_enter Try.func42, Try.ntmps42
      go_wp2_with fail
      refine (c_l1In _ _ _ _).mono ?_
      rintro e w1 ⟨rfl, rfl⟩
      rw [H1.out]
      go_wp2
      go_ret
      exact ⟨rfl, rfl⟩
  · have H1 := Lib.hid (decide_eq_false h1)
    rw [decide_eq_false h1, Bool.false_and]
    clear h1
    go_enter Try.func42, Try.ntmps42
    go_wp2_with fail
    refine (c_l1In _ _ _ _).mono ?_
    rintro e w1 ⟨rfl, rfl⟩
    rw [H1.out]
    go_wp2
    go_ret
    exact ⟨rfl, rfl⟩

set_option maxHeartbeats 400000 in
theorem c_AreGainsS (gs cs : List Int) (v u : Value) (m : Int) (w : World) (l1 : gs.length ≤ 4000000) (l2 : cs.length ≤ 4000000) (h : Seen w v gs) (hu : Seen w u cs) :
    Calls Try.prog 13 #[v, u, .int .i64 m] w fun e w' => e = .returned (.bool (gnB gs cs m)) ∧ w = w' := by
  have H1 := Lib.hid (c_neGains gs cs v u m w l1 l2 h hu)
  obtain ⟨A, c, rfl⟩ := h.shape
  obtain ⟨A2, c2, rfl⟩ := hu.shape
  clear h hu
  generalize gnB gs cs m = R at *
  go_enter Try.func13, Try.ntmps13
  go_wp2_with fail
  refine H1.out.mono ?_
  rintro e w1 ⟨rfl, rfl⟩
  go_wp2
  go_ret
  exact ⟨rfl, rfl⟩

set_option maxHeartbeats 400000 in
theorem c_neFactor (f : Int) (w : World) : Calls Try.prog 44 #[.int .i64 f] w fun e w' => e = .returned (.bool (fcB f)) ∧ w = w' := by
  have H1 := Lib.hid (c_l1In f 0 60 w)
  unfold fcB
  generalize decide (0 ≤ f ∧ f ≤ 60) = R at *
  go_enter Try.func44, Try.ntmps44
  go_wp2_with fail
  refine H1.out.mono ?_
  rintro e w1 ⟨rfl, rfl⟩
  go_wp2
  go_ret
  exact ⟨rfl, rfl⟩

set_option maxHeartbeats 4000000 in
set_option maxRecDepth 100000 in
theorem c_neValues (gs cs : List Int) (f : Int) (v u : Value) (w : World) (hG : gnB gs cs gs.length = true) (hF : fcB f = true) (h : Seen w v gs) (hu : Seen w u cs) :
    Calls Try.prog 45 #[v, u, .int .i64 f] w (GivesRow w (faL gs cs f)) := by
  obtain ⟨i0, hi0, hz0, hz1, hz2⟩ := info_parts int_info
  obtain ⟨A, c, rfl, hm, hA⟩ := h
  obtain ⟨A2, c2, rfl, hm2, hA2⟩ := hu
  have G := Gains.of hG
  obtain ⟨f1, f2⟩ := fc_yes hF
  obtain ⟨b, off, rfl, hb, hc⟩ := hA (by have := G.n1; omega)
  obtain ⟨b2, off2, rfl, hb2, hc2⟩ := hA2 (by have := G.n1; have := G.cl; omega)
  have E1 : Hid (∀ k : Nat, k < gs.length → w.cell? ⟨b, off + k, none⟩ = some (.int .i64 (gs.getD k 0))) := hc
  have E2 : Hid (∀ k : Nat, k < gs.length → w.cell? ⟨b2, off2 + k, none⟩ = some (.int .i64 (cs.getD k 0))) := fun k hk => hc2 k (by have := G.cl; omega)
  have GB : Hid (∀ k : Nat, k < gs.length → 0 ≤ gs.getD k 0 ∧ gs.getD k 0 ≤ 10000) := G.gb
  have CB : Hid (∀ k : Nat, k < gs.length → 0 ≤ cs.getD k 0 ∧ cs.getD k 0 ≤ 400000) := G.cb
  have hcl : cs.length = gs.length := G.cl
  have n1 := G.n1
  have n2 := G.n2
  obtain ⟨ys, hys⟩ : ∃ ys, faL gs cs f = ys := ⟨_, rfl⟩
  have hyl : ys.length = gs.length := by rw [← hys, faL_len]
  have HT : Hid (∀ k, k < gs.length → ys.take (k + 1) = ys.take k ++ [gs.getD k 0 * f - cs.getD k 0]) := fun k hk => by
    have : ys.getD k 0 = gs.getD k 0 * f - cs.getD k 0 := by rw [← hys, faL_at hk]
    rw [← this, List.take_succ_eq_append_getElem (by omega)]
    simp [List.getD_eq_getElem?_getD, hyl, hk]
  have HL : Hid (∀ j, j ≤ gs.length → (ys.take j).length = j) := fun j hj => by rw [List.length_take]; omega
  have HN : Hid (ys.take gs.length = ys) := by show _ = _; rw [← hyl]; exact List.take_length
  rw [hys]
  have hbA : Hid (b < w.heap.size) := hb
  have hbB : Hid (b2 < w.heap.size) := hb2
  have HI := Lib.hid hi0
  clear hc hc2 hA hA2 hG hF G hys hb hb2 hm hm2 hi0
  rw [hcl]
  clear hcl
  generalize gs.length = n at *
  go_enter Try.func45, Try.ntmps45
  go_wp2_with fail
  go_loopw [7, 12] (fun q i wr => ∃ k : Nat, k ≤ n ∧ i = .int .i64 k ∧ Row wr w.heap.size q (ys.take k) ∧ Below w.heap.size w wr) (fun _ i _ => n - (RowKit.intOf i).toNat)
  case atStart => exact ⟨0, Nat.zero_le _, rfl, Row.nil _ _, Below.refl _ _⟩
  case round =>
    obtain ⟨k, hk, rfl, hr, hb⟩ := hrel
    have HR := Lib.hid hr
    have HB := Lib.hid hb
    clear hr hb
    by_cases hlt : k < n
    · have q0 : wr.cell? ⟨b, off + k, none⟩ = some (.int .i64 (gs.getD k 0)) := by rw [HB.out.cell (p := ⟨b, off + k, none⟩) hbA.out]; exact E1.out k hlt
      have q3 : wr.cell? ⟨b2, off2 + k, none⟩ = some (.int .i64 (cs.getD k 0)) := by rw [HB.out.cell (p := ⟨b2, off2 + k, none⟩) hbB.out]; exact E2.out k hlt
      obtain ⟨x1, x2, x3, x4⟩ := worth_box (GB.out k hlt).1 (GB.out k hlt).2 (CB.out k hlt).1 (CB.out k hlt).2 f1 f2
      have e1 : IntKind.i64.wrap (gs.getD k 0 * f) = gs.getD k 0 * f := IntWalk.i64_in _ (by omega)
      have e2 : IntKind.i64.wrap (gs.getD k 0 * f - cs.getD k 0) = gs.getD k 0 * f - cs.getD k 0 := IntWalk.i64_in _ (by omega)
      have HT1 := Lib.hid (HT.out k hlt)
      have hlen := HL.out k hk
      generalize gs.getD k 0 = g at *
      generalize cs.getD k 0 = x at *
      have b1 : (0 : Int) ≤ (k : Int) := by omega
      have b3 : (k : Int) < (n : Int) := by omega
      have sw := HB.out.size
      generalize ys.take k = Y at *
      go_wp2_with (at_builtin; refine wpList_append_own _ rfl _ _ 22 rfl (w.heap.size) 3 i0 (.int .i64 0) 1 8 Try.underlying22 HI.out hz0 hz1 hz2 rfl (by decide) _ _ _ rfl (World.ownsRow.alloc HR.out _) ⟨wr.heap.size, 0, none⟩ 1 1 [.int .i64 (g * f - x)] rfl rfl ?c1 ?c2 ?c3 ?c4 ?c5 ?_)
      case c1 =>
        intro j u hj
        match j, hj with
        | 0, hj => simp at hj; subst hj; simp [Addr.add]
      case c2 => intro u hu; simp at hu; subst hu; rfl
      case c3 => unfold maxLen; omega
      case c4 => omega
      case c5 => simp; omega
      intro v' w4 hown' hgrow _
      have R1 : Hid (Row w4 w.heap.size v' (ys.take (k + 1))) := by rw [HT1.out]; exact row_more (by rw [hlen]; exact hown')
      have R2 : Hid (Below w.heap.size w w4) := (HB.out.alloc sw _).grown hgrow (by simp; omega) (fun g hg => (World.ownsRow.lt HR.out g hg).1)
      clear hown' hgrow
      go_wp2
      go_roundw
      case rel => exact ⟨k + 1, by omega, by go_num, R1.out, R2.out⟩
      case measure => simp [RowKit.intOf]; omega
    · obtain rfl : k = n := by omega
      go_wp2
      go_ret
      exact ⟨_, rfl, by have := HR.out; rw [HN.out] at this; exact this, HB.out⟩

set_option maxHeartbeats 1000000 in
theorem c_FactorValuesS (gs cs : List Int) (f : Int) (v u : Value) (w : World) (l1 : gs.length ≤ 4000000) (l2 : cs.length ≤ 4000000) (h : Seen w v gs) (hu : Seen w u cs) :
    Calls Try.prog 17 #[v, u, .int .i64 f] w (GivesRow2 w (fvA gs cs f) (fvB gs cs f)) := by
  have CG := Lib.hid (c_neGains gs cs v u gs.length w l1 l2 h hu)
  have CF := Lib.hid (c_neFactor f w)
  have CN : Hid (gnB gs cs gs.length = true → fcB f = true → Calls Try.prog 45 #[v, u, .int .i64 f] w (GivesRow w (faL gs cs f))) := fun a b => c_neValues gs cs f v u w a b h hu
  obtain ⟨A, c, rfl⟩ := h.shape
  obtain ⟨A2, c2, rfl⟩ := hu.shape
  unfold fvA fvB
  clear h hu l1 l2
  generalize faL gs cs f = X at *
  generalize gnB gs cs gs.length = R at *
  generalize fcB f = Q at *
  generalize gs.length = n at *
  generalize cs.length = n2 at *
  cases R
  · rw [Bool.false_and, if_neg (by simp)]
    go_enter Try.func17, Try.ntmps17
    go_wp2_with fail
    refine CG.out.mono ?_
    rintro e w1 ⟨rfl, rfl⟩
    go_wp2
    go_ret2
    exact ⟨_, rfl, Row.nil _ _, Below.refl _ _⟩
  · rw [Bool.true_and]
    cases Q
    · rw [if_neg (by simp)]
      go_enter Try.func17, Try.ntmps17
      go_wp2_with fail
      refine CG.out.mono ?_
      rintro e w1 ⟨rfl, rfl⟩
      go_wp2_with fail
      refine CF.out.mono ?_
      rintro e w1 ⟨rfl, rfl⟩
      go_wp2
      go_ret2
      exact ⟨_, rfl, Row.nil _ _, Below.refl _ _⟩
    · rw [if_pos rfl]
      have CN2 := Lib.hid (CN.out rfl rfl)
      clear CN
      go_enter Try.func17, Try.ntmps17
      go_wp2_with fail
      refine CG.out.mono ?_
      rintro e w1 ⟨rfl, rfl⟩
      go_wp2_with fail
      refine CF.out.mono ?_
      rintro e w1 ⟨rfl, rfl⟩
      go_wp2_with fail
      refine CN2.out.mono ?_
      rintro e w1 ⟨v1, rfl, hr, hb⟩
      have HR := Lib.hid hr
      have HB := Lib.hid hb
      clear hr hb
      go_wp2
      go_ret2
      exact ⟨_, rfl, HR.out, HB.out⟩
end Go.Proofs.Ytoakpepoopjlaaa

namespace Go.Proofs.Ytoakpepoopjlaaa
set_option linter.unusedVariables false

/-! ### Greater values, a greater pit -/
theorem sumZ_plus {f g h : Nat → Int} : ∀ {n : Nat}, (∀ k, k < n → h k = f k + g k) → sumZ h n = sumZ f n + sumZ g n
  | 0, _ => rfl
  | n + 1, e => by
    rw [sumZ_next, sumZ_next, sumZ_next, sumZ_plus (fun k hk => e k (by omega)), e n (by omega)]
    omega
theorem lb_mono {xss : List (List Int)} {vs us : List Int} {P Q : Nat → Bool} (ha : ∀ i, i < xss.length → risB i (xss.getD i []) = true) (hP : LB xss vs P) (hQ : LB xss us Q) (hv : ∀ i, i < xss.length → vs.getD i 0 ≤ us.getD i 0) :
    ∀ i, i < xss.length → P i = true → Q i = true := by
  have cM : Clo xss (fun i => P i && Q i) := Clo.of fun i hi h y hy => by
    rw [Bool.and_eq_true] at h ⊢
    exact ⟨hP.clo.mem hi h.1 hy, hQ.clo.mem hi h.2 hy⟩
  have cJ : Clo xss (fun i => P i || Q i) := Clo.of fun i hi h y hy => by
    rw [Bool.or_eq_true] at h ⊢
    rcases h with h | h
    · exact .inl (hP.clo.mem hi h hy)
    · exact .inr (hQ.clo.mem hi h hy)
  have e1 : wtP vs P xss.length = wtP vs (fun i => P i && Q i) xss.length + wtP vs (fun i => P i && !Q i) xss.length := sumZ_plus fun k hk => by
    dsimp only
    generalize P k = p
    generalize Q k = q
    cases p <;> cases q <;> simp [io]
  have e2 : wtP us (fun i => P i || Q i) xss.length = wtP us Q xss.length + wtP us (fun i => P i && !Q i) xss.length := sumZ_plus fun k hk => by
    dsimp only
    generalize P k = p
    generalize Q k = q
    cases p <;> cases q <;> simp [io]
  have e3 : wtP vs (fun i => P i && !Q i) xss.length ≤ wtP us (fun i => P i && !Q i) xss.length := sumZ_le fun k hk => by
    have := hv k hk
    dsimp only
    generalize P k = p
    generalize Q k = q
    generalize vs.getD k 0 = x at *
    generalize us.getD k 0 = y at *
    cases p <;> cases q <;> simp [io] <;> omega
  have b1 := hQ.best _ cJ
  have b2 := hP.best _ cM
  intro i hi hp
  have := hP.least _ cM (by omega) i hi hp
  rw [Bool.and_eq_true] at this
  exact this.2
theorem lb_none {xss : List (List Int)} {vs : List Int} {P : Nat → Bool} (hP : LB xss vs P) (hv : ∀ i, i < xss.length → vs.getD i 0 ≤ 0) : ∀ i, i < xss.length → P i = false := by
  have c0 : Clo xss (fun _ => false) := Clo.of fun i hi h y hy => by cases h
  have w0 : wtP vs (fun _ => false) xss.length = 0 := sumZ_zero fun k hk => by simp [io]
  have w1 : wtP vs P xss.length ≤ 0 := by
    have : wtP vs P xss.length ≤ sumZ (fun _ => 0) xss.length := sumZ_le fun k hk => by
      have := hv k hk
      generalize vs.getD k 0 = x at *
      cases P k <;> simp [io] <;> omega
    have h0 : sumZ (fun _ => 0) xss.length = 0 := sumZ_zero fun _ _ => rfl
    omega
  have b := hP.best _ c0
  intro i hi
  cases h : P i
  · rfl
  · have := hP.least _ c0 (by omega) i hi h
    cases this

/-! ### Pits at factors -/
def asB (xss : List (List Int)) (gs cs : List Int) (f : Int) : Bool := arcB xss && (gnB gs cs xss.length && fcB f)
noncomputable def ptP (xss : List (List Int)) (gs cs : List Int) (f : Nat) : Int → Bool := bpP xss (faL gs cs f)
noncomputable def ptF (xss : List (List Int)) (gs cs : List Int) (f : Nat) : List Int := bpL xss (faL gs cs f)
theorem ptF_sel (xss : List (List Int)) (gs cs : List Int) (f : Nat) : ptF xss gs cs f = sel (ptP xss gs cs f) xss.length := rfl
structure Asked (xss : List (List Int)) (gs cs : List Int) (f : Int) : Prop where
  arcs : arcB xss = true
  gains : Gains gs cs xss.length
  f0 : 0 ≤ f
  f1 : f ≤ 60
theorem Asked.of {xss : List (List Int)} {gs cs : List Int} {f : Int} (h : asB xss gs cs f = true) : Asked xss gs cs f := by
  unfold asB at h
  rw [Bool.and_eq_true, Bool.and_eq_true] at h
  have := fc_yes h.2.2
  exact ⟨h.1, Gains.of h.2.1, this.1, this.2⟩
theorem Asked.down {xss : List (List Int)} {gs cs : List Int} {f g : Int} (h : Asked xss gs cs f) (h0 : 0 ≤ g) (h1 : g ≤ f) : Asked xss gs cs g := ⟨h.arcs, h.gains, h0, by have := h.f1; omega⟩
theorem Asked.box {xss : List (List Int)} {gs cs : List Int} {f : Int} (h : Asked xss gs cs f) : ∀ k, k < (faL gs cs f).length → -1000000 ≤ (faL gs cs f).getD k 0 ∧ (faL gs cs f).getD k 0 ≤ 1000000 := fun k hk => by
  have G := h.gains
  rw [faL_len] at hk
  rw [faL_at hk]
  have hk2 : k < xss.length := by have := G.gl; omega
  have := worth_box (G.gb k hk2).1 (G.gb k hk2).2 (G.cb k hk2).1 (G.cb k hk2).2 h.f0 h.f1
  omega
theorem Asked.pg {xss : List (List Int)} {gs cs : List Int} {f : Int} (h : Asked xss gs cs f) : pgB xss (faL gs cs f) = true := by
  have G := h.gains
  unfold pgB valB
  rw [h.arcs, wall_true h.box, decide_eq_true (by have := G.gl; rw [faL_len]; omega), decide_eq_true (by have := G.n1; have := G.n2; omega)]
  rfl
theorem pg_as {xss : List (List Int)} {gs cs : List Int} {f : Int} (h : fvB gs cs f = true) : pgB xss (faL gs cs f) = asB xss gs cs f := by
  unfold fvB at h
  rw [Bool.and_eq_true] at h
  by_cases e : gs.length = xss.length
  · cases ha : arcB xss
    · unfold pgB asB
      rw [ha]
      rfl
    · have e2 : asB xss gs cs f = true := by
        unfold asB
        rw [ha, ← e, h.1, h.2]
        rfl
      rw [e2]
      exact (Asked.of e2).pg
  · have e1 : valB xss.length (faL gs cs f) = false := by
      unfold valB
      rw [decide_eq_false (by rw [faL_len]; omega)]
      rfl
    have e2 : gnB gs cs xss.length = false := by
      unfold gnB areB
      rw [decide_eq_false (p := (gs.length : Int) = (xss.length : Int)) (by omega)]
      simp
    unfold pgB asB
    rw [e1, e2]
    simp
theorem as_fv {xss : List (List Int)} {gs cs : List Int} {f : Int} (h : fvB gs cs f = false) : asB xss gs cs f = false := by
  cases h2 : asB xss gs cs f
  · rfl
  · unfold asB at h2
    rw [Bool.and_eq_true, Bool.and_eq_true] at h2
    have G := Gains.of h2.2.1
    unfold fvB at h
    rw [G.gl, h2.2.1, h2.2.2] at h
    cases h
noncomputable def paA (xss : List (List Int)) (gs cs : List Int) (f : Int) : List Int := if asB xss gs cs f then bpL xss (faL gs cs f) else []
theorem pa_bp {xss : List (List Int)} {gs cs : List Int} {f : Int} (h : fvB gs cs f = true) : bpA xss (faL gs cs f) = paA xss gs cs f := by
  unfold bpA paA
  rw [pg_as h]
theorem paA_len (xss : List (List Int)) (gs cs : List Int) (f : Int) : (paA xss gs cs f).length ≤ 4000000 := by
  unfold paA
  split
  · rename_i h
    have h1 := arc_len (Asked.of h).arcs
    have h2 := sel_len (bpP xss (faL gs cs f)) xss.length
    have : (bpL xss (faL gs cs f)).length = (sel (bpP xss (faL gs cs f)) xss.length).length := rfl
    omega
  · simp
theorem Asked.lb (w : World) {xss : List (List Int)} {gs cs : List Int} {f : Nat} (h : Asked xss gs cs f) : LB xss (faL gs cs f) (fun i => ptP xss gs cs f i) := by
  have hl := arc_len h.arcs
  have hb := vs_box h.pg
  have h1 := posZ_le (c := 1000000) (by omega) fun k hk => (hb k hk).2
  exact lb_bp w (fun i hi => arcB_at h.arcs hi) (by omega) (pE_net h.arcs fun k hk => by have := hb k hk; omega)

/-- Pits that grow: what the rest needs of them. -/
structure Grow (n M : Nat) (P : Nat → Int → Bool) : Prop where
  zero : ∀ i : Nat, i < n → P 0 i = false
  up : ∀ f, f < M → ∀ i : Nat, i < n → P f i = true → P (f + 1) i = true
theorem Asked.grow (w : World) {xss : List (List Int)} {gs cs : List Int} {M : Nat} (h : Asked xss gs cs M) : Grow xss.length M (ptP xss gs cs) := by
  have G := h.gains
  refine ⟨fun i hi => ?_, fun f hf i hi hp => ?_⟩
  · exact lb_none ((h.down (g := (0 : Nat)) (by omega) (by omega)).lb w) (fun k hk => by
      rw [faL_at (by have := G.gl; omega)]
      have := G.cb k hk
      have e0 : gs.getD k 0 * ((0 : Nat) : Int) = 0 := by simp
      omega) i hi
  · exact lb_mono (fun k hk => arcB_at h.arcs hk) ((h.down (g := (f : Nat)) (by omega) (by omega)).lb w) ((h.down (g := ((f + 1 : Nat) : Int)) (by omega) (by omega)).lb w) (fun k hk => by
      rw [faL_at (by have := G.gl; omega), faL_at (by have := G.gl; omega)]
      have := G.gb k hk
      have e : gs.getD k 0 * ((f + 1 : Nat) : Int) = gs.getD k 0 * (f : Int) + gs.getD k 0 := by rw [Int.natCast_add, Int.mul_add]; omega
      omega) i hi hp
theorem Grow.le {n M : Nat} {P : Nat → Int → Bool} (h : Grow n M P) : ∀ {g f}, f ≤ g → g ≤ M → ∀ i : Nat, i < n → P f i = true → P g i = true := fun {g} => by
  induction g with
  | zero => intro f hf _ i hi hp
            obtain rfl : f = 0 := by omega
            exact hp
  | succ g ih =>
    intro f hf hg i hi hp
    by_cases e : f = g + 1
    · subst e; exact hp
    · exact h.up g (by omega) i hi (ih (by omega) (by omega) i hi hp)

/-! ### First factors -/
def fiI (P : Nat → Int → Bool) : Nat → Int → Int
  | 0, _ => -1
  | k + 1, i => if fiI P k i < 0 ∧ P k i = true then k else fiI P k i
theorem fi_box (P : Nat → Int → Bool) (i : Int) : ∀ k, -1 ≤ fiI P k i ∧ fiI P k i < k
  | 0 => by simp [fiI]
  | k + 1 => by
    have := fi_box P i k
    unfold fiI
    split <;> omega
theorem fi_no (P : Nat → Int → Bool) (i : Int) : ∀ k, fiI P k i < 0 → ∀ j, j < k → P j i = false
  | 0, _, j, hj => by omega
  | k + 1, h, j, hj => by
    unfold fiI at h
    split at h
    · omega
    · rename_i c
      by_cases e : j = k
      · subst e
        cases hp : P j i
        · rfl
        · exact absurd ⟨h, hp⟩ c
      · exact fi_no P i k h j (by omega)
theorem fi_yes (P : Nat → Int → Bool) (i : Int) : ∀ k, 0 ≤ fiI P k i → P (fiI P k i).toNat i = true ∧ ∀ j : Nat, (j : Int) < fiI P k i → P j i = false
  | 0, h => by simp [fiI] at h
  | k + 1, h => by
    have hb := fi_box P i k
    have hn := fun hx => fi_yes P i k hx
    unfold fiI at h ⊢
    split
    · rename_i c
      rw [Int.toNat_natCast]
      refine ⟨c.2, fun j hj => ?_⟩
      have hj2 : j < k := by omega
      exact fi_no P i k c.1 j hj2
    · rename_i c
      rw [if_neg c] at h
      exact hn h
theorem fi_at {n M : Nat} {P : Nat → Int → Bool} (G : Grow n M P) {i : Nat} (hi : i < n) {f : Nat} (hf : f ≤ M) : decide (fiI P (M + 1) i = (f : Int)) = (P f i && !(decide (0 < f) && P (f - 1) i)) := by
  have hb := fi_box P i (M + 1)
  by_cases e : fiI P (M + 1) i = (f : Int)
  · obtain ⟨h1, h2⟩ := fi_yes P i (M + 1) (by omega)
    rw [e, Int.toNat_natCast] at h1
    rw [decide_eq_true e, h1]
    by_cases c : 0 < f
    · rw [h2 (f - 1) (by omega)]
      simp
    · simp [c]
  · rw [decide_eq_false e]
    symm
    by_cases c : 0 ≤ fiI P (M + 1) i
    · obtain ⟨h1, h2⟩ := fi_yes P i (M + 1) c
      by_cases d : (f : Int) < fiI P (M + 1) i
      · rw [h2 f d]
        rfl
      · have h3 := G.le (g := f - 1) (f := (fiI P (M + 1) i).toNat) (by omega) (by omega) i hi h1
        rw [h3, decide_eq_true (by omega)]
        simp
    · have := fi_no P i (M + 1) (by omega) f (by omega)
      rw [this]
      rfl

/-! ### Shells and changes -/
def shP (P : Nat → Int → Bool) (f : Nat) (i : Int) : Bool := P f i && !(decide (0 < f) && P (f - 1) i)
def shL (P : Nat → Int → Bool) (n f : Nat) : List Int := sel (shP P f) n
theorem sh_empty {n M : Nat} {P : Nat → Int → Bool} (G : Grow n M P) {f : Nat} (hf : f ≤ M) : decide (0 < (shL P n f).length) = (decide (0 < f) && !decide (sel (P f) n = sel (P (f - 1)) n)) := by
  by_cases h0 : f = 0
  · subst h0
    have : shL P n 0 = [] := by
      rw [List.eq_nil_iff_forall_not_mem]
      intro x hx
      obtain ⟨k, hk, rfl⟩ := List.getElem_of_mem hx
      have := (mem_sel (p := shP P 0) (N := n)).1 (List.getElem_mem hk)
      unfold inr at this
      rw [Bool.and_eq_true, decide_eq_true_eq] at this
      obtain ⟨⟨a, b⟩, c⟩ := this
      obtain ⟨i, hi⟩ := Int.eq_ofNat_of_zero_le a
      have hz := G.zero i (by omega)
      unfold shP at c
      rw [hi] at c
      rw [hz] at c
      cases c
    rw [this]
    rfl
  · rw [decide_eq_true (p := 0 < f) (by omega), Bool.true_and]
    by_cases e : sel (P f) n = sel (P (f - 1)) n
    · rw [decide_eq_true e]
      have : shL P n f = [] := by
        rw [List.eq_nil_iff_forall_not_mem]
        intro x hx
        have h1 := (mem_sel (p := shP P f) (N := n)).1 hx
        unfold inr at h1
        rw [Bool.and_eq_true] at h1
        unfold shP at h1
        rw [Bool.and_eq_true, decide_eq_true (p := 0 < f) (by omega), Bool.true_and] at h1
        have h2 : x ∈ sel (P f) n := mem_sel.2 (by unfold inr; rw [Bool.and_eq_true]; exact ⟨h1.1, h1.2.1⟩)
        rw [e] at h2
        have h3 := mem_sel.1 h2
        unfold inr at h3
        rw [Bool.and_eq_true] at h3
        have h4 := h1.2.2
        rw [h3.2] at h4
        cases h4
      rw [this]
      rfl
    · rw [decide_eq_false e, Bool.not_false]
      rw [decide_eq_true_eq]
      rcases Nat.eq_zero_or_pos (shL P n f).length with h1 | h1
      · exfalso
        have h2 : shL P n f = [] := List.eq_nil_of_length_eq_zero h1
        refine e (sel_congr fun i hi => ?_)
        cases hp : P (f - 1) i
        · cases hq : P f i
          · rfl
          · have : (i : Int) ∈ shL P n f := by
              refine mem_sel.2 ?_
              unfold inr shP
              rw [hq, hp]
              simp
              omega
            rw [h2] at this
            cases this
        · have := G.le (g := f) (f := f - 1) (by omega) hf i hi hp
          rw [this]
      · exact h1
theorem sel_keep (p q : Int → Bool) : ∀ n, (sel p n).filter q = sel (fun i => p i && q i) n
  | 0 => rfl
  | n + 1 => by
    have ih := sel_keep p q n
    cases hp : p (n : Int)
    · rw [sel_miss hp, ih, sel_miss (by rw [hp]; rfl)]
    · rw [sel_hit hp, List.filter_append, ih]
      cases hq : q (n : Int)
      · rw [sel_miss (by rw [hq]; simp), List.filter_cons_of_neg (by rw [hq]; simp)]
        simp
      · rw [sel_hit (by rw [hp, hq]; rfl), List.filter_cons_of_pos hq]
        rfl

/-! ### The nearest pit -/
def gpI (L : Nat → Nat) (s : Int) (f : Nat) : Int := max ((L f : Int) - s) (s - (L f : Int))
/-- The best factor and its gap when k rounds are over. -/
def neB (L : Nat → Nat) (s : Int) : Nat → Int × Int
  | 0 => (0, -1)
  | k + 1 => if (neB L s k).2 < 0 ∨ gpI L s k < (neB L s k).2 then ((k : Int), gpI L s k) else neB L s k
theorem ne_box (L : Nat → Nat) (s : Int) : ∀ k, (k = 0 → (neB L s k).2 = -1) ∧ (0 < k → 0 ≤ (neB L s k).2) ∧ (0 ≤ (neB L s k).1 ∧ ((neB L s k).1 < k ∨ k = 0))
  | 0 => by simp [neB]
  | k + 1 => by
    have ih := ne_box L s k
    have hg : 0 ≤ gpI L s k := by unfold gpI; omega
    refine ⟨by omega, fun _ => ?_, ?_⟩
    · unfold neB
      split
      · exact hg
      · rename_i c
        rcases Nat.eq_zero_or_pos k with h | h
        · have := ih.1 h; omega
        · exact ih.2.1 h
    · unfold neB
      split
      · exact ⟨by show (0 : Int) ≤ (k : Int); omega, .inl (by show (k : Int) < ((k + 1 : Nat) : Int); omega)⟩
      · rename_i c
        have h1 := ih.2.2
        refine ⟨h1.1, .inl ?_⟩
        rcases h1.2 with h | h
        · omega
        · have := ih.1 h; omega
theorem ne_le (L : Nat → Nat) (s : Int) : ∀ k f, f < k → (neB L s k).2 ≤ gpI L s f
  | 0, f, h => by omega
  | k + 1, f, h => by
    have hb := ne_box L s k
    unfold neB
    split
    · rename_i c
      show gpI L s k ≤ gpI L s f
      by_cases e : f = k
      · subst e; omega
      · have := ne_le L s k f (by omega)
        have := hb.2.1 (by omega)
        omega
    · rename_i c
      by_cases e : f = k
      · subst e; omega
      · exact ne_le L s k f (by omega)
theorem ne_stop {L : Nat → Nat} {s : Int} {M : Nat} (hL : ∀ f g, f ≤ g → g ≤ M → L f ≤ L g) {f : Nat} (hf : s ≤ (L f : Int)) : ∀ {k}, f + 1 ≤ k → k ≤ M + 1 → neB L s k = neB L s (f + 1) := fun {k} => by
  induction k with
  | zero => intro h; omega
  | succ k ih =>
    intro h1 h2
    by_cases e : k = f
    · subst e; rfl
    · have i1 := ih (by omega) (by omega)
      have h3 := ne_le L s (f + 1) f (by omega)
      have h4 := (ne_box L s (f + 1)).2.1 (by omega)
      have h5 := hL f k (by omega) (by omega)
      rw [← i1] at h3 h4 ⊢
      have h6 : gpI L s f ≤ gpI L s k := by unfold gpI; omega
      show (if (neB L s k).2 < 0 ∨ gpI L s k < (neB L s k).2 then ((k : Int), gpI L s k) else neB L s k) = _
      rw [if_neg (by omega)]
theorem Grow.len {n M : Nat} {P : Nat → Int → Bool} (h : Grow n M P) : ∀ f g, f ≤ g → g ≤ M → (sel (P f) n).length ≤ (sel (P g) n).length := fun f g hf hg => by
  have : ∀ k, k ≤ n → (sel (P f) k).length ≤ (sel (P g) k).length := fun k => by
    induction k with
    | zero => intro _; exact Nat.le_refl _
    | succ k ih =>
      intro hk
      have i1 := ih (by omega)
      cases hp : P f k
      · rw [sel_miss hp]
        cases hq : P g k
        · rw [sel_miss hq]; exact i1
        · rw [sel_hit hq]; simp; omega
      · have hq := h.le hf hg k (by omega) hp
        rw [sel_hit hp, sel_hit hq]
        simp
        omega
  exact this n (Nat.le_refl _)
end Go.Proofs.Ytoakpepoopjlaaa

namespace Go.Proofs.Ytoakpepoopjlaaa
open Go.RowKit
set_option linter.unusedVariables false

set_option maxHeartbeats 1000000 in
theorem c_PitAt (xss : List (List Int)) (gs cs : List Int) (f : Int) (v u t : Value) (w : World) (hs : ShortL xss) (l1 : gs.length ≤ 4000000) (l2 : cs.length ≤ 4000000) (h : SeenL w v xss) (hu : Seen w u gs) (ht : Seen w t cs) :
    Calls Try.prog 24 #[v, u, t, .int .i64 f] w (GivesRow2 w (paA xss gs cs f) (asB xss gs cs f)) := by
  have C0 := Lib.hid (c_FactorValues gs cs f u t w l1 l2 hu ht)
  have CB : Hid (∀ (x : Value) (w1 : World), Below w.heap.size w w1 → Row w1 w.heap.size x (fvA gs cs f) → fvB gs cs f = true → Calls Try.prog 51 #[v, x] w1 (GivesRow2 w1 (paA xss gs cs f) (asB xss gs cs f))) := fun x w1 hb hr hf => by
    have e : fvA gs cs f = faL gs cs f := by unfold fvA; rw [if_pos hf]
    rw [e] at hr
    have := c_BestPit xss (faL gs cs f) v x w1 hs (by rw [faL_len]; exact l1) (h.below hb) hr.seen
    rwa [pa_bp hf, pg_as hf] at this
  have CN : Hid (fvB gs cs f = false → paA xss gs cs f = [] ∧ asB xss gs cs f = false) := fun hf => by
    have := as_fv (xss := xss) hf
    exact ⟨by unfold paA; rw [this]; rfl, this⟩
  obtain ⟨A, c, rfl, hm⟩ := h.shape
  obtain ⟨A2, c2, rfl⟩ := hu.shape
  obtain ⟨A3, c3, rfl⟩ := ht.shape
  clear h hu ht hs l1 l2 hm
  generalize paA xss gs cs f = X at *
  generalize asB xss gs cs f = R at *
  generalize fvA gs cs f = Y at *
  generalize fvB gs cs f = Q at *
  generalize xss.length = n at *
  cases Q
  · obtain ⟨e1, e2⟩ := CN.out rfl
    subst e1 e2
    go_enter Try.func24, Try.ntmps24
    go_wp2_with fail
    refine C0.out.mono ?_
    rintro e w1 ⟨v1, rfl, hr, hb⟩
    obtain ⟨A4, c4, rfl⟩ := hr.shape
    have HB := Lib.hid hb
    clear hr hb
    go_wp2
    go_ret2
    exact ⟨_, rfl, Row.nil _ _, HB.out⟩
  · go_enter Try.func24, Try.ntmps24
    go_wp2_with fail
    refine C0.out.mono ?_
    rintro e w1 ⟨v1, rfl, hr, hb⟩
    have C1 := Lib.hid (CB.out _ _ hb hr trivial)
    obtain ⟨A4, c4, rfl⟩ := hr.shape
    have HB := Lib.hid hb
    clear hr hb CB CN C0
    go_wp2_with fail
    refine C1.out.mono ?_
    rintro e w2 ⟨v2, rfl, hr, hb⟩
    have HR := Lib.hid (hr.mono HB.out.size)
    have HB2 : Hid (Below w.heap.size w w2) := HB.out.trans (hb.mono HB.out.size)
    clear hr hb
    go_wp2
    go_ret2
    exact ⟨_, rfl, HR.out, HB2.out⟩

/-! ### The model -/
set_option maxHeartbeats 1000000 in
theorem c_neAsked (xss : List (List Int)) (gs cs : List Int) (f : Int) (v u t : Value) (w : World) (hs : ShortL xss) (l1 : gs.length ≤ 4000000) (l2 : cs.length ≤ 4000000) (h : SeenL w v xss) (hu : Seen w u gs) (ht : Seen w t cs) :
    Calls Try.prog 49 #[v, u, t, .int .i64 f] w fun e w' => e = .returned (.bool (asB xss gs cs f)) ∧ w = w' := by
  have C0 := Lib.hid (c_clArcs xss v w hs h)
  have C1 := Lib.hid (c_neGains gs cs u t xss.length w l1 l2 hu ht)
  have C2 := Lib.hid (c_neFactor f w)
  obtain ⟨A, c, rfl, hm⟩ := h.shape
  obtain ⟨A2, c2, rfl⟩ := hu.shape
  obtain ⟨A3, c3, rfl⟩ := ht.shape
  unfold asB
  clear h hu ht hs l1 l2 hm
  generalize gnB gs cs xss.length = R at *
  generalize arcB xss = Q at *
  generalize fcB f = T at *
  generalize xss.length = n at *
  cases Q
  · go_enter Try.func49, Try.ntmps49
    go_wp2_with fail
    refine C0.out.mono ?_
    rintro e w1 ⟨rfl, rfl⟩
    go_wp2
    go_ret
    exact ⟨rfl, rfl⟩
  · cases R
    · go_enter Try.func49, Try.ntmps49
      go_wp2_with fail
      refine C0.out.mono ?_
      rintro e w1 ⟨rfl, rfl⟩
      go_wp2_with fail
      refine C1.out.mono ?_
      rintro e w1 ⟨rfl, rfl⟩
      go_wp2
      go_ret
      exact ⟨rfl, rfl⟩
    · go_enter Try.func49, Try.ntmps49
      go_wp2_with fail
      refine C0.out.mono ?_
      rintro e w1 ⟨rfl, rfl⟩
      go_wp2_with fail
      refine C1.out.mono ?_
      rintro e w1 ⟨rfl, rfl⟩
      go_wp2_with fail
      refine C2.out.mono ?_
      rintro e w1 ⟨rfl, rfl⟩
      go_wp2
      go_ret
      exact ⟨rfl, rfl⟩

set_option maxHeartbeats 1000000 in
theorem c_nePit (xss : List (List Int)) (gs cs : List Int) (f : Int) (v u t : Value) (w : World) (K : Asked xss gs cs f) (hG : gnB gs cs xss.length = true) (h : SeenL w v xss) (hu : Seen w u gs) (ht : Seen w t cs) :
    Calls Try.prog 50 #[v, u, t, .int .i64 f] w (GivesRow w (bpL xss (faL gs cs f))) := by
  have C0 := Lib.hid (c_neValues gs cs f u t w (by rw [K.gains.gl]; exact hG) (by simp [fcB, K.f0, K.f1]) hu ht)
  have C1 : Hid (∀ (x : Value) (w1 : World), Below w.heap.size w w1 → Row w1 w.heap.size x (faL gs cs f) → Calls Try.prog 76 #[v, x] w1 (GivesRow w1 (bpL xss (faL gs cs f)))) := fun x w1 hb hr => c_paFind xss _ _ _ w1 (PitOk.of K.pg) (h.below hb) hr.seen
  obtain ⟨A, c, rfl, hm⟩ := h.shape
  obtain ⟨A2, c2, rfl⟩ := hu.shape
  obtain ⟨A3, c3, rfl⟩ := ht.shape
  clear h hu ht hm K hG
  generalize bpL xss (faL gs cs f) = X at *
  generalize faL gs cs f = Y at *
  go_enter Try.func50, Try.ntmps50
  go_wp2_with fail
  refine C0.out.mono ?_
  rintro e w1 ⟨v1, rfl, hr, hb⟩
  have C2 := Lib.hid (C1.out _ _ hb hr)
  obtain ⟨A4, c4, rfl⟩ := hr.shape
  have HB := Lib.hid hb
  clear hr hb C1
  go_wp2_with fail
  refine C2.out.mono ?_
  rintro e w2 ⟨v2, rfl, hr, hb⟩
  have HR := Lib.hid (hr.mono HB.out.size)
  have HB2 : Hid (Below w.heap.size w w2) := HB.out.trans (hb.mono HB.out.size)
  clear hr hb
  go_wp2
  go_ret
  exact ⟨_, rfl, HR.out, HB2.out⟩

set_option maxHeartbeats 1000000 in
theorem c_PitAtS (xss : List (List Int)) (gs cs : List Int) (f : Int) (v u t : Value) (w : World) (hs : ShortL xss) (l1 : gs.length ≤ 4000000) (l2 : cs.length ≤ 4000000) (h : SeenL w v xss) (hu : Seen w u gs) (ht : Seen w t cs) :
    Calls Try.prog 22 #[v, u, t, .int .i64 f] w (GivesRow2 w (paA xss gs cs f) (asB xss gs cs f)) := by
  have C0 := Lib.hid (c_neAsked xss gs cs f v u t w hs l1 l2 h hu ht)
  have C1 : Hid (asB xss gs cs f = true → Calls Try.prog 50 #[v, u, t, .int .i64 f] w (GivesRow w (paA xss gs cs f))) := fun e => by
    have K := Asked.of e
    have hG : gnB gs cs xss.length = true := by unfold asB at e; rw [Bool.and_eq_true, Bool.and_eq_true] at e; exact e.2.1
    have := c_nePit xss gs cs f v u t w K hG h hu ht
    unfold paA
    rwa [if_pos e]
  have CN : Hid (asB xss gs cs f = false → paA xss gs cs f = []) := fun e => by unfold paA; rw [e]; rfl
  obtain ⟨A, c, rfl, hm⟩ := h.shape
  obtain ⟨A2, c2, rfl⟩ := hu.shape
  obtain ⟨A3, c3, rfl⟩ := ht.shape
  clear h hu ht hs l1 l2 hm
  generalize paA xss gs cs f = X at *
  generalize asB xss gs cs f = R at *
  generalize xss.length = n at *
  cases R
  · have e1 := CN.out rfl
    subst e1
    go_enter Try.func22, Try.ntmps22
    go_wp2_with fail
    refine C0.out.mono ?_
    rintro e w1 ⟨rfl, rfl⟩
    go_wp2
    go_ret2
    exact ⟨_, rfl, Row.nil _ _, Below.refl _ _⟩
  · have C2 := Lib.hid (C1.out rfl)
    clear C1 CN
    go_enter Try.func22, Try.ntmps22
    go_wp2_with fail
    refine C0.out.mono ?_
    rintro e w1 ⟨rfl, rfl⟩
    go_wp2_with fail
    refine C2.out.mono ?_
    rintro e w2 ⟨v2, rfl, hr, hb⟩
    have HR := Lib.hid hr
    have HB := Lib.hid hb
    clear hr hb
    go_wp2
    go_ret2
    exact ⟨_, rfl, HR.out, HB.out⟩

/-- The pits at the first factors. -/
noncomputable def ptsL (xss : List (List Int)) (gs cs : List Int) (k : Nat) : List (List Int) := (List.range k).map fun f => ptF xss gs cs f
theorem pts_len (xss : List (List Int)) (gs cs : List Int) (k : Nat) : (ptsL xss gs cs k).length = k := by simp [ptsL]
theorem pts_next (xss : List (List Int)) (gs cs : List Int) (k : Nat) : ptsL xss gs cs (k + 1) = ptsL xss gs cs k ++ [ptF xss gs cs k] := by simp [ptsL, List.range_succ]
theorem pts_at {xss : List (List Int)} {gs cs : List Int} {k f : Nat} (h : f < k) : (ptsL xss gs cs k).getD f [] = ptF xss gs cs f := by simp [ptsL, h]
theorem pt_len {xss : List (List Int)} (ha : arcB xss = true) (gs cs : List Int) (f : Nat) : (ptF xss gs cs f).length ≤ 120 := by
  rw [ptF_sel]
  have := sel_len (ptP xss gs cs f) xss.length
  have := arc_len ha
  omega

set_option maxHeartbeats 4000000 in
set_option maxRecDepth 100000 in
theorem c_nePits (xss : List (List Int)) (gs cs : List Int) (M : Nat) (v u t : Value) (w : World) (K : Asked xss gs cs M) (hG : gnB gs cs xss.length = true) (h : SeenL w v xss) (hu : Seen w u gs) (ht : Seen w t cs) :
    Calls Try.prog 52 #[v, u, t, .int .i64 M] w (GivesLL w (ptsL xss gs cs (M + 1))) := by
  obtain ⟨i0, hi0, hz0, hz1, hz2⟩ := info_parts list_info
  have HI := Lib.hid hi0
  clear hi0
  have CP : Hid (∀ (f : Nat) (w1 : World), f ≤ M → Below w.heap.size w w1 → Calls Try.prog 50 #[v, u, t, .int .i64 f] w1 (GivesRow w1 (ptF xss gs cs f))) := fun f w1 hf hb => c_nePit xss gs cs f v u t w1 (K.down (by omega) (by omega)) hG (h.below hb) (hu.below hb) (ht.below hb)
  have OL : Hid (∀ k, (ptsL xss gs cs k).length = k) := pts_len xss gs cs
  have O1 : Hid (∀ k, ptsL xss gs cs (k + 1) = ptsL xss gs cs k ++ [ptF xss gs cs k]) := pts_next xss gs cs
  have O0 : Hid (ptsL xss gs cs 0 = []) := rfl
  have M1 : M ≤ 60 := by have := K.f1; omega
  obtain ⟨A, c, rfl, hm⟩ := h.shape
  obtain ⟨A2, c2, rfl⟩ := hu.shape
  obtain ⟨A3, c3, rfl⟩ := ht.shape
  clear h hu ht hm K hG
  generalize ptsL xss gs cs = O at *
  generalize ptF xss gs cs = P at *
  go_enter Try.func52, Try.ntmps52
  go_wp2_with fail
  go_loopw [9, 10] (fun q i wr => ∃ k : Nat, k ≤ M + 1 ∧ i = .int .i64 k ∧ Rows wr w.heap.size wr.heap.size q (O k) ∧ Below w.heap.size w wr) (fun _ i _ => M + 1 - (RowKit.intOf i).toNat)
  case atStart => exact ⟨0, Nat.zero_le _, rfl, by rw [O0.out]; exact Rows.nil _ _ _, Below.refl _ _⟩
  case round =>
    obtain ⟨k, hk, rfl, hr, hb⟩ := hrel
    have HR := Lib.hid hr
    have HB := Lib.hid hb
    clear hr hb
    by_cases hlt : k ≤ M
    · have b1 : (k : Int) ≤ (M : Int) := by omega
      have C := Lib.hid (CP.out k wr hlt HB.out)
      have O1k := Lib.hid (O1.out k)
      go_wp2_with fail
      refine C.out.mono ?_
      rintro e wi ⟨v2, rfl, hr, hb⟩
      have HRK := Lib.hid hr
      have HBi := Lib.hid hb
      have HRo := Lib.hid (HR.out.below hb (Nat.le_refl _))
      obtain ⟨AK, CK, rfl⟩ := hr.shape
      clear hr hb C
      have HBw : Hid (Below w.heap.size w wi) := HB.out.trans (HBi.out.mono HB.out.size)
      have hlen : (O k).length = k := OL.out k
      generalize P k = kt at *
      have hbb : Below wi.heap.size wi (wi.alloc (.cells #[.slice AK kt.length CK] 22)) := (Below.refl _ _).alloc (Nat.le_refl _) _
      have HP6 := Lib.hid ((HRK.out.mono HB.out.size).below hbb)
      have HR6 := Lib.hid (HRo.out.below hbb HBi.out.size)
      have HB6 : Hid (Below w.heap.size w (wi.alloc (.cells #[.slice AK kt.length CK] 22))) := HBw.out.trans (hbb.mono HBw.out.size)
      have hpo : Hid (∀ m, (Value.slice AK kt.length CK).ownBlock = some m → wr.heap.size ≤ m) := fun m hm => (World.ownsRow.lt HRK.out m hm).1
      clear hbb
      obtain ⟨vs, hv6⟩ := HR6.out
      have HV6 := Lib.hid hv6
      clear hv6
      have sz5 := HBw.out.size
      have HLN := Lib.hid hlen
      clear hlen
      have hown : Hid ((wi.alloc (.cells #[.slice AK kt.length CK] 22)).ownsRow w.heap.size 22 1 u9 k vs) := by
        have := HV6.out.own
        rw [HLN.out] at this
        exact this
      go_wp2_with (at_builtin; refine wpList_append_own _ rfl _ _ 29 rfl w.heap.size 22 i0 (.slice none 0 0) 1 24 Try.underlying29 HI.out hz0 hz1 hz2 rfl (by decide) _ _ _ rfl hown.out ⟨wi.heap.size, 0, none⟩ 1 1 [.slice AK kt.length CK] rfl rfl ?e1 ?e2 ?e3 ?e4 ?e5 ?_)
      case e1 =>
        intro q u hq
        match q, hq with
        | 0, hq => simp at hq; subst hq; simp [Addr.add]
      case e2 => intro u hu; simp at hu; subst hu; rfl
      case e3 => unfold maxLen; omega
      case e4 => omega
      case e5 => simp; omega
      intro v' w7 hown' hgrow _
      have N1 : Hid (Rows w7 w.heap.size w7.heap.size v' (O (k + 1))) := ⟨_, by
        have := HV6.out.push HP6.out (fun m hm => hpo.out m hm) (by rw [HLN.out]; exact hown') hgrow
        rw [← O1k.out] at this
        exact this⟩
      have N2 : Hid (Below w.heap.size w w7) := HB6.out.grown hgrow (by simp; omega) (fun g hg => (World.ownsRow.lt hown.out g hg).1)
      clear hown' hgrow
      go_wp2
      go_roundw
      case rel => exact ⟨k + 1, by omega, by go_num, N1.out, N2.out⟩
      case measure => simp [RowKit.intOf]; omega
    · obtain rfl : k = M + 1 := by omega
      have b1 : ¬ ((M : Int) + 1 ≤ (M : Int)) := by omega
      go_wp2
      go_ret
      exact ⟨_, rfl, HR.out, HB.out⟩

/-! ### All pits -/
noncomputable def toA (xss : List (List Int)) (gs cs : List Int) (m : Int) : List (List Int) := if asB xss gs cs m then ptsL xss gs cs (m.toNat + 1) else []
theorem to_facts (xss : List (List Int)) (gs cs : List Int) (m : Int) : (toA xss gs cs m).length ≤ 1048576 ∧ Short (toA xss gs cs m) ∧ totN (toA xss gs cs m) (toA xss gs cs m).length ≤ 1048576 := by
  cases h : asB xss gs cs m
  · have e : toA xss gs cs m = [] := by unfold toA; rw [h]; rfl
    rw [e]
    exact ⟨by simp, fun i hi => by simp at hi, by simp [totN]⟩
  · have K := Asked.of h
    have e : toA xss gs cs m = ptsL xss gs cs (m.toNat + 1) := by unfold toA; rw [h]; rfl
    have hl : (toA xss gs cs m).length = m.toNat + 1 := by rw [e, pts_len]
    have hb : ∀ i, i < (toA xss gs cs m).length → ((toA xss gs cs m).getD i []).length ≤ 120 := fun i hi => by
      rw [hl] at hi
      rw [e, pts_at hi]
      exact pt_len K.arcs _ _ _
    have h61 : (toA xss gs cs m).length ≤ 61 := by have := K.f1; have := K.f0; omega
    have ht : ∀ k, k ≤ (toA xss gs cs m).length → totN (toA xss gs cs m) k ≤ 120 * k := fun k => by
      induction k with
      | zero => intro _; simp [totN]
      | succ k ih =>
        intro hk
        have h1 := ih (by omega)
        have h2 := hb k (by omega)
        show totN (toA xss gs cs m) k + ((toA xss gs cs m).getD k []).length ≤ _
        omega
    have := ht _ (Nat.le_refl _)
    exact ⟨by omega, fun i hi => by have := hb i hi; omega, by omega⟩

set_option maxHeartbeats 1000000 in
theorem c_PitsToS (xss : List (List Int)) (gs cs : List Int) (m : Int) (v u t : Value) (w : World) (hs : ShortL xss) (l1 : gs.length ≤ 4000000) (l2 : cs.length ≤ 4000000) (h : SeenL w v xss) (hu : Seen w u gs) (ht : Seen w t cs) :
    Calls Try.prog 27 #[v, u, t, .int .i64 m] w (GivesRows2 w (toA xss gs cs m) (asB xss gs cs m)) := by
  have C0 := Lib.hid (c_neAsked xss gs cs m v u t w hs l1 l2 h hu ht)
  have C1 : Hid (asB xss gs cs m = true → Calls Try.prog 52 #[v, u, t, .int .i64 m] w (GivesLL w (toA xss gs cs m))) := fun e => by
    have K := Asked.of e
    have hG : gnB gs cs xss.length = true := by unfold asB at e; rw [Bool.and_eq_true, Bool.and_eq_true] at e; exact e.2.1
    have em : m = ((m.toNat : Nat) : Int) := by have := K.f0; omega
    have := c_nePits xss gs cs m.toNat v u t w (by rw [← em]; exact K) hG h hu ht
    rw [← em] at this
    unfold toA
    rwa [if_pos e]
  have CN : Hid (asB xss gs cs m = false → toA xss gs cs m = []) := fun e => by unfold toA; rw [e]; rfl
  obtain ⟨A, c, rfl, hm⟩ := h.shape
  obtain ⟨A2, c2, rfl⟩ := hu.shape
  obtain ⟨A3, c3, rfl⟩ := ht.shape
  clear h hu ht hs l1 l2 hm
  generalize toA xss gs cs m = X at *
  generalize asB xss gs cs m = R at *
  generalize xss.length = n at *
  cases R
  · have e1 := CN.out rfl
    subst e1
    go_enter Try.func27, Try.ntmps27
    go_wp2_with fail
    refine C0.out.mono ?_
    rintro e w1 ⟨rfl, rfl⟩
    go_wp2
    go_ret2
    exact ⟨_, rfl, Rows.nil _ _ _, Below.refl _ _⟩
  · have C2 := Lib.hid (C1.out rfl)
    clear C1 CN
    go_enter Try.func27, Try.ntmps27
    go_wp2_with fail
    refine C0.out.mono ?_
    rintro e w1 ⟨rfl, rfl⟩
    go_wp2_with fail
    refine C2.out.mono ?_
    rintro e w2 ⟨v2, rfl, hr, hb⟩
    have HR := Lib.hid hr
    have HB := Lib.hid hb
    clear hr hb
    go_wp2
    go_ret2
    exact ⟨_, rfl, HR.out, HB.out⟩
end Go.Proofs.Ytoakpepoopjlaaa

namespace Go.Proofs.Ytoakpepoopjlaaa
open Go.RowKit
set_option linter.unusedVariables false

/-! ### Plain -/
def chB (xss : List (List Int)) : Bool := decide (xss.length ≤ 61) && xss.all (risB 120)
def chX (xss : List (List Int)) (k : Nat) : Bool := (xss.getD (k - 1) []).all (inL (xss.getD k []))
def chN (xss : List (List Int)) (k : Nat) : Bool := (List.range k).all (chX xss)
def chV (xss : List (List Int)) : Bool := chB xss && chN xss xss.length
theorem chN_next (xss : List (List Int)) (k : Nat) : chN xss (k + 1) = (chN xss k && chX xss k) := by simp [chN, List.range_succ]
theorem chX_zero (xss : List (List Int)) : chX xss 0 = true := by simp [chX, inL]
theorem chN_false {xss : List (List Int)} {k : Nat} (h : chX xss k = false) : ∀ {n : Nat}, k < n → chN xss n = false := fun {n} hk => by
  unfold chN
  rw [List.all_eq_false]
  exact ⟨k, by simpa using hk, by simp [h]⟩
theorem chB_false {xss : List (List Int)} {k : Nat} (hk : k < xss.length) (h : risB 120 (xss.getD k []) = false) : chB xss = false := by
  have : xss.all (risB 120) = false := by
    rw [List.all_eq_false]
    exact ⟨xss.getD k [], by simp [List.getD_eq_getElem?_getD, hk], by rw [h]; simp⟩
  simp [chB, this]
theorem chB_true {xss : List (List Int)} (h1 : xss.length ≤ 61) (h : ∀ k, k < xss.length → risB 120 (xss.getD k []) = true) : chB xss = true := by
  have : xss.all (risB 120) = true := by
    rw [List.all_eq_true]
    intro x hx
    obtain ⟨k, hk, rfl⟩ := List.getElem_of_mem hx
    have := h k hk
    simpa [List.getD_eq_getElem?_getD, hk] using this
  simp [chB, this, h1]
theorem SeenL.rowAt {w : World} {A : Option Addr} {n c : Nat} {xss : List (List Int)} (h : SeenL w (.slice A n c) xss) {k : Nat} (hk : k < xss.length) : ∃ b off A' c', A = some ⟨b, off, none⟩ ∧ b < w.heap.size ∧ w.cell? ⟨b, off + k, none⟩ = some (.slice A' (xss.getD k []).length c') ∧ Seen w (.slice A' (xss.getD k []).length c') (xss.getD k []) := by
  obtain ⟨A1, c1, e, _, h⟩ := h
  simp at e
  obtain ⟨rfl, rfl, rfl⟩ := e
  obtain ⟨b, off, rfl, hlt, hc⟩ := h (by omega)
  obtain ⟨u, hu, hs⟩ := hc k hk
  obtain ⟨A', c', rfl⟩ := hs.shape
  exact ⟨b, off, A', c', rfl, hlt, hu, hs⟩

set_option maxHeartbeats 4000000 in
set_option maxRecDepth 100000 in
theorem c_IsChain (xss : List (List Int)) (v : Value) (w : World) (hl : ShortL xss) (h : SeenL w v xss) :
    Calls Try.prog 39 #[v] w fun e w' => e = .returned (.tuple #[.bool (chV xss), .bool (chB xss)]) ∧ Below w.heap.size w w' := by
  have HS := Lib.hid h
  obtain ⟨A, c, rfl, hm⟩ := h.shape
  clear h hm
  obtain ⟨hl1, hl2⟩ := hl
  have HL2 : Hid (∀ i, i < xss.length → (xss.getD i []).length ≤ 1048576) := hl2
  clear hl2
  have hB0 : Hid (Below w.heap.size w w) := Below.refl _ _
  by_cases hn : xss.length ≤ 61
  · have hgt : ¬ ((xss.length : Int) > 61) := by omega
    have EC : Hid (∀ k : Nat, k < xss.length → ∃ b off A' c', A = some ⟨b, off, none⟩ ∧ b < w.heap.size ∧ w.cell? ⟨b, off + k, none⟩ = some (.slice A' (xss.getD k []).length c') ∧ Seen w (.slice A' (xss.getD k []).length c') (xss.getD k []) ∧ Calls Try.prog 68 #[.slice A' (xss.getD k []).length c', .int .i64 120] w fun e w' => e = .returned (.bool (risB 120 (xss.getD k []))) ∧ w = w') := fun k hk => by
      obtain ⟨b, off, A', c', e, hbl, h1, h2⟩ := HS.out.rowAt hk
      have := HL2.out k hk
      exact ⟨b, off, A', c', e, hbl, h1, h2, c_areBlocksBelow 120 _ _ w (by omega) h2⟩
    have F1 : Hid (∀ k, k < xss.length → risB 120 (xss.getD k []) = false → chB xss = false ∧ chV xss = false) := fun k hk h => by
      have := chB_false hk h
      exact ⟨this, by simp [chV, this]⟩
    have F2 : Hid ((∀ k, k < xss.length → risB 120 (xss.getD k []) = true) → chB xss = true) := fun h => chB_true hn h
    have F3 : Hid (chB xss = true → chV xss = chN xss xss.length) := fun h => by simp [chV, h]
    have F4 : Hid (∀ k, k < xss.length → chX xss k = false → chN xss xss.length = false) := fun k hk h => chN_false h hk
    have F5 : Hid (∀ k, chN xss (k + 1) = (chN xss k && chX xss k)) := chN_next xss
    have F6 : Hid (chN xss 1 = true) := by show _ = _; rw [chN_next]; simp [chN, chX_zero]
    have F0 : Hid (chN xss 0 = true) := by show _ = _; simp [chN]
    have FX : Hid (∀ k, chX xss k = (xss.getD (k - 1) []).all (inL (xss.getD k []))) := fun k => rfl
    generalize chV xss = V at *
    generalize chB xss = R at *
    generalize chN xss = NN at *
    generalize chX xss = XX at *
    generalize hN : xss.length = N at *
    clear hN
    go_enter Try.func39, Try.ntmps39
    go_wp2_with fail
    go_loop [12] (fun i => ∃ k : Nat, k ≤ N ∧ i = .int .i64 k ∧ Hid (∀ j, j < k → risB 120 (xss.getD j []) = true)) (fun i => N - (RowKit.intOf i).toNat)
    case atStart => exact ⟨0, Nat.zero_le _, rfl, fun j hj => by omega⟩
    case round =>
      obtain ⟨k, hk, rfl, HK⟩ := hrel
      by_cases hlt : k < N
      · obtain ⟨b, off, A', c', rfl, hbl, q1, _, hc⟩ := EC.out k hlt
        have HC := Lib.hid hc
        have b1 : (0 : Int) ≤ (k : Int) := by omega
        have b2 : (k : Int) < (N : Int) := by omega
        clear hc
        cases hx : risB 120 (xss.getD k [])
        · obtain ⟨G1, G2⟩ := F1.out k hlt hx
          have G := Lib.hid G1
          have G' := Lib.hid G2
          rw [hx] at HC
          clear G1 G2 hx
          generalize xss.getD k [] = ys at *
          go_wp2_with fail
          refine HC.out.mono ?_
          rintro e w1 ⟨rfl, rfl⟩
          go_wp2
          go_ret2
          exact ⟨by rw [G.out, G'.out]; rfl, hB0.out⟩
        · rw [hx] at HC
          have HK2 : Hid (∀ j, j < k + 1 → risB 120 (xss.getD j []) = true) := fun j hj => by
            by_cases e : j = k
            · rw [e]; exact hx
            · exact HK.out j (by omega)
          clear hx
          generalize xss.getD k [] = ys at *
          go_wp2_with fail
          refine HC.out.mono ?_
          rintro e w1 ⟨rfl, rfl⟩
          go_wp2
          go_round
          case rel => exact ⟨k + 1, by omega, by go_num, HK2⟩
          case measure => simp [RowKit.intOf]; omega
      · obtain rfl : k = N := by omega
        have HR : Hid (R = true) := F2.out HK.out
        have HV : Hid (V = NN k) := F3.out HR.out
        have IR : Hid (∀ j, j < k → ∀ x ∈ xss.getD j [], 0 ≤ x ∧ x < (120 : Int)) := fun j hj => InN.ris (N := 120) (HK.out j hj)
        clear F1 F2 F3 HK
        go_wp2_with fail
        go_loopw [6] (fun i wr => ∃ j : Nat, 1 ≤ j ∧ (j ≤ k ∨ j = 1) ∧ i = .int .i64 j ∧ NN j = true ∧ Below w.heap.size w wr) (fun i _ => k - (RowKit.intOf i).toNat)
        case atStart => exact ⟨1, Nat.le_refl _, .inr rfl, rfl, F6.out, hB0.out⟩
        case round =>
          obtain ⟨j, hj1, hj2, rfl, hj3, hb⟩ := hrel
          have HN := Lib.hid hj3
          have HB := Lib.hid hb
          clear hj3 hb
          by_cases hlt : j < k
          · have b1 : (0 : Int) ≤ (j : Int) := by omega
            have b2 : (j : Int) < (k : Int) := by omega
            have b3 : (0 : Int) ≤ (j : Int) - 1 := by omega
            have b4 : (j : Int) - 1 < (k : Int) := by omega
            have b5 : ((j : Int) - 1).toNat = j - 1 := by omega
            have b6 : ((j : Int)).toNat = j := by omega
            obtain ⟨b, off, A1, c1, rfl, hbl, q1, hs1, _⟩ := EC.out j hlt
            obtain ⟨b', off', A0, c0, e0, _, q0, hs0, _⟩ := EC.out (j - 1) (by omega)
            simp at e0
            obtain ⟨rfl, rfl⟩ := e0
            -- T1
            have hx := FX.out j
            have b7 : (1 : Int) ≤ (j : Int) := by omega
            have b8 : (j : Int) ≤ (k : Int) := by omega
            have b9 : IntKind.i64.wrap ((j : Int) - 1) = (j : Int) - 1 := IntWalk.i64_in _ (by omega)
            have b10 : (j : Int) < (k : Int) + 1 := by omega
            have KS : Hid (∀ u : World, Below w.heap.size w u → u.cell? ⟨b, off + j, none⟩ = some (.slice A1 (xss.getD j []).length c1) ∧ u.cell? ⟨b, off + (j - 1), none⟩ = some (.slice A0 (xss.getD (j - 1) []).length c0)) := fun u hu => ⟨(hu.cell (p := ⟨b, off + j, none⟩) hbl).trans q1, (hu.cell (p := ⟨b, off + (j - 1), none⟩) hbl).trans q0⟩
            have CM : Hid (∀ u : World, Below w.heap.size w u → Calls Try.prog 70 #[.slice A1 (xss.getD j []).length c1] u fun e w' => e = .returned (.map (some u.heap.size)) ∧ SetM w' u.heap.size 120 (inL (xss.getD j [])) ∧ Below u.heap.size u w') := fun u hu => c_marksOf 120 _ _ u (by have := HL2.out j hlt; omega) (by omega) (hs1.below hu) (IR.out j hlt)
            have CA : Hid (∀ (g : Nat) (u : World), Below w.heap.size w u → SetM u g 120 (inL (xss.getD j [])) → Calls Try.prog 69 #[.map (some g), .slice A0 (xss.getD (j - 1) []).length c0] u fun e w' => e = .returned (.bool (XX j)) ∧ Below u.heap.size u w') := fun g u hu hm => by
              rw [hx]; exact c_areMarked g 120 _ _ _ u (by have := HL2.out (j - 1) (by omega); omega) (by omega) hm (hs0.below hu) (IR.out (j - 1) (by omega))
            have HBd : Hid (Below w.heap.size w wr.drew) := HB.out.drew
            have H5 := Lib.hid (F5.out j)
            have H4 := Lib.hid (F4.out j hlt)
            clear hs1 hs0 hx HL2 IR FX F4 EC
            generalize XX j = xj at *
            generalize (xss.getD j []).length = lj at *
            generalize (xss.getD (j - 1) []).length = l0 at *
            go_wp2_with fail
            go_region_held3 (fun u => u.cell? ⟨b, off + j, none⟩ = some (.slice A1 lj c1) ∧ u.cell? ⟨b, off + (j - 1), none⟩ = some (.slice A0 l0 c0))
              (first | with_reducible exact KS.out _ HBd.out | with_reducible exact KS1.out | with_reducible exact KS2.out)
              (first
                | (go_at_call 70
                   refine (CM.out _ HBd.out).mono ?_
                   rintro e w1 ⟨rfl, hsm, hb1⟩
                   have CA1 := Lib.hid (CA.out _ _ (HBd.out.trans (hb1.mono HBd.out.size)) hsm)
                   have HB1 : Hid (Below w.heap.size w w1) := HBd.out.trans (hb1.mono HBd.out.size)
                   have KS1 := Lib.hid (KS.out _ HB1.out)
                   clear hsm hb1)
                | (go_at_call 69
                   refine (CA1.out).mono ?_
                   rintro e w2 ⟨rfl, hb2⟩
                   have HB2 : Hid (Below w.heap.size w w2) := HB1.out.trans (hb2.mono HB1.out.size)
                   have KS2 := Lib.hid (KS.out _ HB2.out)
                   clear hb2))
            cases xj
            · have G := Lib.hid (H4.out rfl)
              go_wp2
              go_ret2
              exact ⟨by rw [HR.out, HV.out, G.out]; rfl, HB2.out⟩
            · have G : Hid (NN (j + 1) = true) := by show _ = _; rw [H5.out, HN.out]; rfl
              go_wp2
              go_roundw
              case rel => exact ⟨j + 1, by omega, .inl (by omega), by go_num, G.out, HB2.out⟩
              case measure => simp [RowKit.intOf]; omega
          · have hj : NN k = true := by
              rcases hj2 with h | h
              · have : j = k := by omega
                rw [← this]; exact HN.out
              · have : k = 0 ∨ k = 1 := by omega
                rcases this with rfl | rfl
                · exact F0.out
                · exact F6.out
            have HF := Lib.hid hj
            have hng : ¬ ((j : Int) < (k : Int)) := by omega
            go_wp2
            go_ret2
            exact ⟨by rw [HR.out, HV.out, HF.out]; rfl, HB.out⟩
  · have hgt : ((xss.length : Int) > 61) := by omega
    have G : chB xss = false := by unfold chB; rw [decide_eq_false hn]; rfl
    have G' : chV xss = false := by simp [chV, G]
    rw [G, G']
    clear HL2 HS G G'
    generalize xss.length = n at *
    go_enter Try.func39, Try.ntmps39
    go_wp2
    go_ret2
    exact ⟨rfl, hB0.out⟩

/-! ### The model -/
theorem c_l1MostG (a b : Int) (w : World) : Calls Try.prog 67 #[.int .i64 a, .int .i64 b] w fun e w' => e = .returned (.int .i64 (max a b)) ∧ w = w' := by
  by_cases h : b < a
  all_goals
    go_enter Try.func67, Try.ntmps67
    go_wp2
    go_ret
    exact ⟨ret_int (by omega), rfl⟩
def chP (xs ys : List Int) (t : Nat) : Bool := (xs.take t).all (inL ys)
theorem chP_next {xs ys : List Int} {t : Nat} (h : t < xs.length) : chP xs ys (t + 1) = (chP xs ys t && inL ys (xs.getD t 0)) := by
  unfold chP
  rw [List.take_succ_eq_append_getElem h, List.all_append]
  simp [List.getD_eq_getElem?_getD, h]

set_option maxHeartbeats 4000000 in
set_option maxRecDepth 100000 in
theorem c_IsChainS (xss : List (List Int)) (v : Value) (w : World) (hl : ShortL xss) (h : SeenL w v xss) :
    Calls Try.prog 38 #[v] w fun e w' => e = .returned (.tuple #[.bool (chV xss), .bool (chB xss)]) ∧ Below w.heap.size w w' := by
  have HS := Lib.hid h
  obtain ⟨A, c, rfl, hm⟩ := h.shape
  clear h hm
  obtain ⟨hl1, hl2⟩ := hl
  have HL2 : Hid (∀ i, i < xss.length → (xss.getD i []).length ≤ 1048576) := hl2
  clear hl2
  have hB0 : Hid (Below w.heap.size w w) := Below.refl _ _
  by_cases hn : xss.length ≤ 61
  · have hgt : ¬ ((xss.length : Int) > 61) := by omega
    have EC : Hid (∀ k : Nat, k < xss.length → ∃ b off A' c', A = some ⟨b, off, none⟩ ∧ b < w.heap.size ∧ w.cell? ⟨b, off + k, none⟩ = some (.slice A' (xss.getD k []).length c') ∧ Seen w (.slice A' (xss.getD k []).length c') (xss.getD k []) ∧ Calls Try.prog 66 #[.slice A' (xss.getD k []).length c', .int .i64 0, .int .i64 119] w fun e w' => e = .returned (.bool (risB 120 (xss.getD k []))) ∧ w = w') := fun k hk => by
      obtain ⟨b, off, A', c', e, hbl, h1, h2⟩ := HS.out.rowAt hk
      have := HL2.out k hk
      exact ⟨b, off, A', c', e, hbl, h1, h2, c_l1Rising 120 _ _ w (by omega) (by omega) (by omega) h2⟩
    have F1 : Hid (∀ k, k < xss.length → risB 120 (xss.getD k []) = false → chB xss = false ∧ chV xss = false) := fun k hk h => by
      have := chB_false hk h
      exact ⟨this, by simp [chV, this]⟩
    have F2 : Hid ((∀ k, k < xss.length → risB 120 (xss.getD k []) = true) → chB xss = true) := fun h => chB_true hn h
    have F3 : Hid (chB xss = true → chV xss = chN xss xss.length) := fun h => by simp [chV, h]
    have F5 : Hid (∀ k, chN xss (k + 1) = (chN xss k && chX xss k)) := chN_next xss
    have F0 : Hid (chN xss 0 = true) := by show _ = _; simp [chN]
    have FX : Hid (∀ k, chX xss k = chP (xss.getD (k - 1) []) (xss.getD k []) (xss.getD (k - 1) []).length) := fun k => by simp [chX, chP]
    generalize chV xss = V at *
    generalize chB xss = R at *
    generalize chN xss = NN at *
    generalize chX xss = XX at *
    generalize hN : xss.length = N at *
    clear hN
    go_enter Try.func38, Try.ntmps38
    go_wp2_with fail
    go_loop [4, 14] (fun q i => ∃ k : Nat, k ≤ N ∧ i = .int .i64 k ∧ q = .bool (NN k) ∧ Hid (∀ j, j < k → risB 120 (xss.getD j []) = true)) (fun _ i => N - (RowKit.intOf i).toNat)
    case atStart => exact ⟨0, Nat.zero_le _, rfl, by rw [F0.out], fun j hj => by omega⟩
    case round =>
      obtain ⟨k, hk, rfl, rfl, HK⟩ := hrel
      by_cases hlt : k < N
      · obtain ⟨b, off, A', c', rfl, hbl, q1, hs1, hc⟩ := EC.out k hlt
        have HC := Lib.hid hc
        have b1 : (0 : Int) ≤ (k : Int) := by omega
        have b2 : (k : Int) < (N : Int) := by omega
        clear hc
        cases hx : risB 120 (xss.getD k [])
        · obtain ⟨G1, G2⟩ := F1.out k hlt hx
          have G := Lib.hid G1
          have G' := Lib.hid G2
          rw [hx] at HC
          clear G1 G2 hx hs1
          generalize xss.getD k [] = ys at *
          go_wp2_with fail
          refine HC.out.mono ?_
          rintro e w1 ⟨rfl, rfl⟩
          go_wp2
          go_ret2
          exact ⟨by rw [G.out, G'.out]; rfl, hB0.out⟩
        · rw [hx] at HC
          have HK2 : Hid (∀ j, j < k + 1 → risB 120 (xss.getD j []) = true) := fun j hj => by
            by_cases e : j = k
            · rw [e]; exact hx
            · exact HK.out j (by omega)
          clear hx
          obtain ⟨b', off', A0, c0, e0, _, q0, hs0, _⟩ := EC.out (k - 1) (by omega)
          simp at e0
          obtain ⟨rfl, rfl⟩ := e0
          obtain ⟨m, hmx⟩ : ∃ m : Nat, k - 1 = m := ⟨_, rfl⟩
          have CM : Hid (Calls Try.prog 67 #[.int .i64 ((k : Int) - 1), .int .i64 0] w fun e w' => e = .returned (.int .i64 (m : Int)) ∧ w = w') := by
            have := c_l1MostG ((k : Int) - 1) 0 w
            rwa [show max ((k : Int) - 1) 0 = (m : Int) by omega] at this
          have HX := Lib.hid (FX.out k)
          have H5 := Lib.hid (F5.out k)
          have lk := HL2.out k hlt
          have CH : Hid (∀ x : Int, Calls Try.prog 59 #[.slice A' (xss.getD k []).length c', .int .i64 x] w fun e w' => e = .returned (.bool (inL (xss.getD k []) x)) ∧ w = w') := fun x => by rw [← hasI_inL]; exact c_l1Has _ x _ w (by omega) hs1
          have m1 : (0 : Int) ≤ (m : Int) := by omega
          have m2 : (m : Int) < (N : Int) := by omega
          have b9 : IntKind.i64.wrap ((k : Int) - 1) = (k : Int) - 1 := IntWalk.i64_in _ (by omega)
          have HP : Hid (∀ t, t < (xss.getD m []).length → chP (xss.getD m []) (xss.getD k []) (t + 1) = (chP (xss.getD m []) (xss.getD k []) t && inL (xss.getD k []) ((xss.getD m []).getD t 0))) := fun t ht => chP_next ht
          have HP0 : Hid (chP (xss.getD m []) (xss.getD k []) 0 = true) := rfl
          rw [hmx] at q0 hs0 HX
          obtain ⟨A0', c0', e1, hm0, hA0⟩ := hs0
          simp at e1
          obtain ⟨rfl, rfl⟩ := e1
          have E0 : Hid (∀ t : Nat, t < (xss.getD m []).length → ∃ b off, A0 = some ⟨b, off, none⟩ ∧ b < w.heap.size ∧ w.cell? ⟨b, off + t, none⟩ = some (.int .i64 ((xss.getD m []).getD t 0))) := fun t ht => by
            obtain ⟨b3, off3, rfl, hb3, hc3⟩ := hA0 (by omega)
            exact ⟨b3, off3, rfl, hb3, hc3 t ht⟩
          have l0 : (xss.getD m []).length ≤ 9223372036854775807 := by unfold maxLen at hm0; omega
          clear hA0 hm0 hs1 FX F1 EC
          generalize chP (xss.getD m []) (xss.getD k []) = PP at *
          generalize inL (xss.getD k []) = IL at *
          generalize (xss.getD k []).length = lk' at *
          generalize xss.getD m [] = zs at *
          generalize hzl : zs.length = zl at *
          go_wp2_with fail
          refine HC.out.mono ?_
          rintro e w1 ⟨rfl, rfl⟩
          go_wp2_with fail
          refine CM.out.mono ?_
          rintro e w1 ⟨rfl, rfl⟩
          go_wp2_with fail
          go_loop [4, 29] (fun q i => ∃ t : Nat, t ≤ zl ∧ i = .int .i64 t ∧ q = .bool (NN k && PP t)) (fun _ i => zl - (RowKit.intOf i).toNat)
          case atStart => exact ⟨0, Nat.zero_le _, rfl, by rw [HP0.out, Bool.and_true]⟩
          case round =>
            obtain ⟨t, ht, rfl, rfl⟩ := hrel
            by_cases hlz : t < zl
            · obtain ⟨b3, off3, rfl, hb3, p1⟩ := E0.out t hlz
              have HP1 := Lib.hid (HP.out t hlz)
              have t1 : (0 : Int) ≤ (t : Int) := by omega
              have t2 : (t : Int) < (zl : Int) := by omega
              have CHt := Lib.hid (CH.out (zs.getD t 0))
              generalize zs.getD t 0 = x at *
              cases hf : NN k && PP t
              · have G : Hid (false = (NN k && PP (t + 1))) := by show _ = _; rw [HP1.out, ← Bool.and_assoc, hf]; rfl
                clear hf
                go_wp2
                go_round
                case rel => exact ⟨t + 1, by omega, by go_num, by rw [← G.out]⟩
                case measure => simp [RowKit.intOf]; omega
              · have G : Hid (IL x = (NN k && PP (t + 1))) := by show _ = _; rw [HP1.out, ← Bool.and_assoc, hf]; rfl
                clear hf
                go_wp2_with fail
                refine CHt.out.mono ?_
                rintro e w1 ⟨rfl, rfl⟩
                go_wp2
                go_round
                case rel => exact ⟨t + 1, by omega, by go_num, by rw [← G.out]⟩
                case measure => simp [RowKit.intOf]; omega
            · obtain rfl : t = zl := by omega
              have G : Hid ((NN k && PP t) = NN (k + 1)) := by show _ = _; rw [H5.out, HX.out]
              go_wp2
              go_round
              case rel => exact ⟨k + 1, by omega, by go_num, by rw [G.out], HK2⟩
              case measure => simp [RowKit.intOf]; omega
      · obtain rfl : k = N := by omega
        have HR : Hid (R = true) := F2.out HK.out
        have HV : Hid (V = NN k) := F3.out HR.out
        go_wp2
        go_ret2
        exact ⟨by rw [HR.out, HV.out]; rfl, hB0.out⟩
  · have hgt : ((xss.length : Int) > 61) := by omega
    have G : chB xss = false := by unfold chB; rw [decide_eq_false hn]; rfl
    have G' : chV xss = false := by simp [chV, G]
    rw [G, G']
    clear HL2 HS G G'
    generalize xss.length = n at *
    go_enter Try.func38, Try.ntmps38
    go_wp2
    go_ret2
    exact ⟨rfl, hB0.out⟩
end Go.Proofs.Ytoakpepoopjlaaa

namespace Go.Proofs.Ytoakpepoopjlaaa
open Go.RowKit
set_option linter.unusedVariables false

/-- All lies as it lay but what lies from B on and below U. -/
structure Outside (B U : Nat) (W W' : World) : Prop where
  os : W'.os = W.os
  tape : W'.tape = W.tape
  output : W'.output = W.output
  size : W.heap.size ≤ W'.heap.size
  same : ∀ k, k < W.heap.size → (k < B ∨ U ≤ k) → W'.heap[k]? = W.heap[k]?
theorem Outside.refl (B U : Nat) (W : World) : Outside B U W W := ⟨rfl, rfl, rfl, Nat.le_refl _, fun _ _ _ => rfl⟩
theorem Outside.trans {B U : Nat} {X Y Z : World} (h : Outside B U X Y) (k : Outside B U Y Z) : Outside B U X Z :=
  ⟨k.os.trans h.os, k.tape.trans h.tape, k.output.trans h.output, Nat.le_trans h.size k.size, fun i hi ho => (k.same i (Nat.lt_of_lt_of_le hi h.size) ho).trans (h.same i hi ho)⟩
theorem Outside.below {B U : Nat} {W W' : World} (h : Below W.heap.size W W') : Outside B U W W' := ⟨h.os, h.tape, h.output, h.size, fun k hk _ => h.block k hk⟩
theorem Outside.grown {B U : Nat} {W W' : World} {row : Option Nat} (h : W.grownBy W' row) (hr : ∀ r, row = some r → B ≤ r ∧ r < U) : Outside B U W W' :=
  ⟨h.os, h.tape, h.output, h.size, fun k hk ho => h.block k hk (fun e => by have := hr k e.symm; omega)⟩
theorem Outside.mono {B U B' U' : Nat} {W W' : World} (h : Outside B U W W') (h1 : B' ≤ B) (h2 : U ≤ U') : Outside B' U' W W' := ⟨h.os, h.tape, h.output, h.size, fun k hk ho => h.same k hk (by omega)⟩
theorem Outside.put {B U r : Nat} {W : World} (o : Obj) (h1 : B ≤ r) (h2 : r < U) : Outside B U W (W.putObj r o) :=
  ⟨rfl, rfl, rfl, by rw [World.putObj_size]; exact Nat.le_refl _, fun k hk ho => World.putObj_heap_other (by omega)⟩
/-- What lay ahead of B lies as it lay. -/
theorem Outside.low {B U : Nat} {w W W' : World} (h : Outside B U W W') (hb : Below B w W) (hB : B ≤ W.heap.size) : Below B w W' :=
  ⟨h.os.trans hb.os, h.tape.trans hb.tape, h.output.trans hb.output, Nat.le_trans hb.size h.size, fun k hk => (h.same k (by omega) (.inl hk)).trans (hb.block k hk)⟩

theorem set_grownG (w : World) (a : Addr) (u : Value) : w.grownBy (w.setCell a u) (some a.block) := ⟨rfl, rfl, rfl, by simp [World.setCell], fun k hk hne => Below.heap_setCell _ _ _ _ (fun e => hne (by rw [e]))⟩
/-- How a round's body may end. -/
def tellPost (B U : Nat) (I : Nat × Nat → World → Prop) (Ix : Code → Nat → World → Prop) (f : Nat) (W : World) : Exit → Act → World → Prop
  | .normal, _, W' => Outside B U W W' ∧ ∃ T, I (f, T) W'
  | .ret, _, W' => Outside B U W W' ∧ Ix .ret f W'
  | .exit id, _, W' => Outside B U W W' ∧ Ix (.exit id) f W'
  | .goto t, _, W' => Outside B U W W' ∧ Ix (.goto t) f W'
  | .panic _, _, _ => False
  | .outgrown, _, _ => False

/-- The word of an iterator that is a bound method: round f tells f and a value of which Rx holds there, in memory that is newer than T: T is what the caller told behind the round before. -/
def Tells (F : Fence) (m : Nat) (P : Program) (gf : Nat) (gv : Value) (B : Nat) (Rx : Nat → Nat → Value → World → Prop) (N : Nat) (w : World) : Prop :=
  ∀ (l : Nat) (J : Nat × Nat → World → Prop) (Jx : Nat → World → Prop) (W : World), Below w.heap.size w W → W.heap.size = w.heap.size + 2 →
    (∀ s X Y, J s X → Below X.heap.size X Y → J s Y) → (∀ s X, J s X → B ≤ s.2 ∧ s.2 ≤ X.heap.size) →
    (∀ f T v W1, f < N → J (f, T) W1 → Rx T f v W1 → YieldAt F (m - 1) P l #[.int .i64 (f : Int), v] W1 fun e W' =>
      (e = .returned (.bool true) ∧ (∃ T', J (f + 1, T') W') ∧ Outside B (w.heap.size + 2) W1 W') ∨ (e = .returned (.bool false) ∧ Jx (f + 1) W')) →
    (∃ T, J (0, T) W) →
    CallsIn F m P gf #[gv, .func (.yield l) #[] #[]] W fun e W' => (∃ v, e = .returned v) ∧ ((∃ T, J (N, T) W') ∨ ∃ k, k ≤ N ∧ Jx k W')

theorem wpIn_range_tells {F : Fence} {n : Nat} {P : Program} {g : Operand} {ps : Array Tmp} {assign body : Code} {Q : Exit → Act → World → Prop} {a : Act} {w : World}
    (hro : F.round = none) (h1 : 1 ≤ n) {gf : Nat} {gv : Value} (hg : a.eval g = .func (.func gf) #[gv] #[]) (hFg : F.fn gf) (eg : ∀ args w, (callFunc gf args).run P w = .ok (.enter gf args) w)
    {B N : Nat} {Rx : Nat → Nat → Value → World → Prop} (hT : Tells F (n - 1) P gf gv B Rx N w) (hB : B ≤ w.heap.size) (hps : ps.size = 2)
    (I : Nat × Nat → World → Prop) (Ix : Code → Nat → World → Prop) (hI : OwnFrom w.heap.size I) (hIT : ∀ s X, I s X → B ≤ s.2 ∧ s.2 ≤ X.heap.size) (hIx : ∀ c, OwnFrom w.heap.size (Ix c)) (hRx : ∀ T f, OwnFrom w.heap.size (Rx T f)) (h0 : ∃ T, I (0, T) w) (a₁ : Nat → Value → Act)
    (hassign : ∀ (l f : Nat) (v : Value) (W : World) (K : Act → World → Prop), K (a₁ f v) W →
      assign.wpIn (F.inRound l) (n - 1 - 1) P (Exit.then K (fun _ _ _ => False)) { tmps := (ps.zip #[.int .i64 (f : Int), v]).foldl (fun t (p, v) => t.setIfInBounds p v) a.tmps, defers := [] } W)
    (hbody : ∀ (l f T : Nat) (v : Value) (W : World), f < N → w.heap.size + 2 ≤ W.heap.size → I (f, T) W → Rx T f v W → body.wpIn (F.inRound l) (n - 1 - 1) P (tellPost B w.heap.size I Ix (f + 1) W) (a₁ f v) W)
    (hdone : ∀ (D T : Nat) (W : World), w.heap.size ≤ D → I (N, T) W → W.heap[D]? = some (.deferred (some [])) → Q .normal { a with defers := { target := .collected D, args := #[] } :: a.defers } W)
    (hstop : ∀ (D : Nat) (c : Code) (k : Nat) (W : World), w.heap.size ≤ D → k ≤ N → Ix c k W → W.heap[D]? = some (.deferred (some [])) → c.wpIn F n P Q { a with defers := { target := .collected D, args := #[] } :: a.defers } W) :
    (Code.rangeFunc g ps assign body).wpIn F n P Q a w := by
  refine wpIn_rangeFunc fun fn hfn => ?_
  rw [hro]
  obtain ⟨S, hS⟩ : ∃ S, w.heap.size = S := ⟨_, rfl⟩
  obtain ⟨rc, hrc⟩ : ∃ rc : LoopState → Option Code → Obj, rc = fun st pe => .loop { state := st, pending := pe, fn, tmps := a.tmps, params := ps, assign, body, defers := S } := ⟨_, rfl⟩
  obtain ⟨W1, hW1⟩ : ∃ W1, (w.alloc (.deferred (some []))).alloc (rc .ready none) = W1 := ⟨_, rfl⟩
  have z1 : W1.heap.size = S + 2 := by rw [← hW1]; simp [hS]
  have L1 : W1.heap[S + 1]? = some (rc .ready none) := by
    have := World.alloc_heap_new (w.alloc (.deferred (some []))) (rc .ready none)
    rwa [World.size_alloc, hW1, hS] at this
  have D1 : W1.heap[S]? = some (.deferred (some [])) := by
    have := World.alloc_heap_new w (.deferred (some []))
    rw [hS] at this
    rw [← hW1]
    exact (Below.heap_alloc _ _ _ (by simp; omega)).trans this
  have b1 : Below w.heap.size w W1 := by
    rw [← hW1]
    exact ((Below.refl _ w).alloc (Nat.le_refl _) _).alloc (by simp) _
  obtain ⟨T0, h0⟩ := h0
  have i1 : I (0, T0) W1 := by rw [← hW1]; exact hI.alloc _ (hI.alloc _ h0)
  -- the record and the block behind the rounds lie as they are to lie
  have stay : ∀ (st : LoopState) (pe : Option Code) (X Y : World), X.heap[S + 1]? = some (rc st pe) ∧ X.heap[S]? = some (.deferred (some [])) → Below X.heap.size X Y → Y.heap[S + 1]? = some (rc st pe) ∧ Y.heap[S]? = some (.deferred (some [])) := fun st pe X Y h hb =>
    ⟨(hb.block _ (Array.getElem?_eq_some_iff.1 h.1).1).trans h.1, (hb.block _ (Array.getElem?_eq_some_iff.1 h.2).1).trans h.2⟩
  have still : ∀ {β : Type} {J : β → World → Prop} (s : β) (X Y : World), OwnFrom w.heap.size J → J s X → Below X.heap.size X Y → J s Y := fun s X Y hJ h hb => hJ s X Y none h (grow_below hb none) (fun r e => by cases e)
  refine ⟨S + 1, [{ target := .collected S, args := #[] }], W1, { target := .fn (.func gf) #[], args := #[gv, .func (.yield (S + 1)) #[] #[]] }, W1, gf, #[gv, .func (.yield (S + 1)) #[] #[]], W1, ?_, ?_, ?_, ?_, fun _ => h1, ?_⟩
  · have := run_enterLoop_outer (P := P) (w := w) fn a.tmps ps assign body
    rw [hS] at this
    rw [this, ← hW1, hrc]
  · simp only [resolve, hg]
    simp [go_sem]
  · intro f' hf'
    simp [Target.leads] at hf'
    subst hf'
    exact hFg
  · simp [invoke, go_sem, eg]
  · refine (hT (S + 1) (fun s X => I s X ∧ X.heap[S + 1]? = some (rc .ready none) ∧ X.heap[S]? = some (.deferred (some [])))
      (fun k X => ∃ c, Ix c k X ∧ X.heap[S + 1]? = some (rc .done (some c)) ∧ X.heap[S]? = some (.deferred (some [])))
      W1 b1 (by rw [z1, hS])
      (fun s X Y h hb => ⟨still s X Y hI h.1 hb, stay _ _ X Y h.2 hb⟩)
      (fun s X h => hIT s X h.1)
      ?_ ⟨T0, i1, L1, D1⟩).mono ?_
    · rintro f T v X hf ⟨hi, hl, hd⟩ hr
      have zX : S + 1 < X.heap.size := (Array.getElem?_eq_some_iff.1 hl).1
      have hlo : X.heap[S + 1]? = some (.loop { state := .ready, pending := none, fn, tmps := a.tmps, params := ps, assign, body, defers := S }) := by rw [hl, hrc]
      have hy := run_yield (P := P) (args := #[.int .i64 (f : Int), v]) hlo (by rw [hps]; rfl)
      refine ⟨fn, _, assign, body, hy, roundIn_of_wpIn hfn (hassign _ f v X _ ⟨_, run_beginRound hlo rfl, ?_⟩)⟩
      obtain ⟨X2, hX2⟩ : ∃ X2, X.putObj (S + 1) (rc .busy none) = X2 := ⟨_, rfl⟩
      have e2 : X.putObj (S + 1) (.loop { state := .busy, pending := none, fn, tmps := a.tmps, params := ps, assign, body, defers := S }) = X2 := by rw [← hX2, hrc]
      have l2 : X2.heap[S + 1]? = some (rc .busy none) := by rw [← hX2]; exact World.putObj_heap_same zX
      have d2 : X2.heap[S]? = some (.deferred (some [])) := by rw [← hX2]; exact (World.putObj_heap_other (by omega)).trans hd
      have o2 : Outside B (S + 2) X X2 := by rw [← hX2]; exact Outside.put _ (by omega) (by omega)
      have nc : ∀ st pe, (rc st pe).isCells = false := fun st pe => by rw [hrc]; rfl
      have i2 : I (f, T) X2 := by rw [← hX2]; exact hI.putObj _ hi (by omega) hl (nc _ _)
      have r2 : Rx T f v X2 := by rw [← hX2]; exact (hRx T f).putObj _ hr (by omega) hl (nc _ _)
      rw [e2]
      refine wpIn_mono (hbody _ f T v X2 hf (by rw [← hX2, World.putObj_size]; omega) i2 r2) ?_
      have fin : ∀ (jump : Option Code) (Y : World), Outside B w.heap.size X2 Y →
          (Instr.endRound (S + 1) jump).run P Y = .ok (.bool jump.isNone) (Y.putObj (S + 1) (rc (if jump.isNone then .ready else .done) jump)) ∧ Y.heap[S + 1]? = some (rc .busy none) ∧
          (Y.putObj (S + 1) (rc (if jump.isNone then .ready else .done) jump)).heap[S + 1]? = some (rc (if jump.isNone then .ready else .done) jump) ∧
          (Y.putObj (S + 1) (rc (if jump.isNone then .ready else .done) jump)).heap[S]? = some (.deferred (some [])) := fun jump Y ho => by
        have y1 : Y.heap[S + 1]? = some (rc .busy none) := (ho.same _ (Array.getElem?_eq_some_iff.1 l2).1 (by omega)).trans l2
        have y2 : Y.heap[S]? = some (.deferred (some [])) := (ho.same _ (Array.getElem?_eq_some_iff.1 d2).1 (by omega)).trans d2
        have y3 : Y.heap[S + 1]? = some (.loop { state := .busy, pending := none, fn, tmps := a.tmps, params := ps, assign, body, defers := S }) := by rw [y1, hrc]
        have := run_endRound (P := P) jump y3
        refine ⟨by rw [this, hrc], y1, World.putObj_heap_same (Array.getElem?_eq_some_iff.1 y1).1, (World.putObj_heap_other (by omega)).trans y2⟩
      have out : ∀ (jump : Option Code) (Y : World), Outside B w.heap.size X2 Y → Outside B (w.heap.size + 2) X (Y.putObj (S + 1) (rc (if jump.isNone then .ready else .done) jump)) := fun jump Y ho =>
        (by rw [hS]; exact o2 : Outside B (w.heap.size + 2) X X2).trans ((ho.mono (Nat.le_refl _) (by omega)).trans (Outside.put _ (by omega) (by omega)))
      rintro e a3 Y hp
      cases e with
      | normal =>
        obtain ⟨ho, T3, hi3⟩ := hp
        obtain ⟨q, l3, l4, d4⟩ := fin none Y ho
        exact ⟨_, _, q, .inl ⟨rfl, ⟨T3, hI.putObj _ hi3 (by omega) l3 (nc _ _), l4, d4⟩, out none Y ho⟩⟩
      | ret =>
        obtain ⟨ho, hi3⟩ := hp
        obtain ⟨q, l3, l4, d4⟩ := fin (some .ret) Y ho
        exact ⟨_, _, q, .inr ⟨rfl, .ret, (hIx _).putObj _ hi3 (by omega) l3 (nc _ _), l4, d4⟩⟩
      | exit id =>
        obtain ⟨ho, hi3⟩ := hp
        obtain ⟨q, l3, l4, d4⟩ := fin (some (.exit id)) Y ho
        exact ⟨_, _, q, .inr ⟨rfl, .exit id, (hIx _).putObj _ hi3 (by omega) l3 (nc _ _), l4, d4⟩⟩
      | goto t =>
        obtain ⟨ho, hi3⟩ := hp
        obtain ⟨q, l3, l4, d4⟩ := fin (some (.goto t)) Y ho
        exact ⟨_, _, q, .inr ⟨rfl, .goto t, (hIx _).putObj _ hi3 (by omega) l3 (nc _ _), l4, d4⟩⟩
      | panic ch => exact hp.elim
      | outgrown => exact hp.elim
    · have nc : ∀ st pe, (rc st pe).isCells = false := fun st pe => by rw [hrc]; rfl
      have ends : ∀ (st : LoopState) (pe : Option Code) (Y : World), st ≠ .busy → Y.heap[S + 1]? = some (rc st pe) → (Instr.endLoop (S + 1)).run P Y = .ok pe (Y.putObj (S + 1) (rc .exhausted pe)) := fun st pe Y hst hl => by
        have hlo : Y.heap[S + 1]? = some (.loop { state := st, pending := pe, fn, tmps := a.tmps, params := ps, assign, body, defers := S }) := by rw [hl, hrc]
        have := run_endLoop (P := P) hlo hst
        rw [this, hrc]
      rintro e Y ⟨⟨v, rfl⟩, (⟨T, hi, hl, hd⟩ | ⟨k, hk, c, hi, hl, hd⟩)⟩
      · exact ⟨none, _, ends _ _ Y (by simp) hl, hdone S T _ (by omega) (hI.putObj _ hi (by omega) hl (nc _ _)) ((World.putObj_heap_other (by omega)).trans hd)⟩
      · exact ⟨some c, _, ends _ _ Y (by simp) hl, hstop S c k _ (by omega) hk ((hIx c).putObj _ hi (by omega) hl (nc _ _)) ((World.putObj_heap_other (by omega)).trans hd)⟩
end Go.Proofs.Ytoakpepoopjlaaa

namespace Go.Proofs.Ytoakpepoopjlaaa
open Go.RowKit
set_option linter.unusedVariables false
attribute [local go_sem] Oper.semAt_some

set_option maxHeartbeats 2000000 in
theorem c_isValid (xss : List (List Int)) (gs cs : List Int) (m : Int) (v u t : Value) (w : World) (hs : ShortL xss) (l1 : gs.length ≤ 4000000) (l2 : cs.length ≤ 4000000) (h : SeenL w v xss) (hu : Seen w u gs) (ht : Seen w t cs) :
    Calls Try.prog 53 #[.agg #[v, u, t, .int .i64 m]] w fun e w' => e = .returned (.bool (asB xss gs cs m)) ∧ Below w.heap.size w w' := by
  have HB0 : Hid (Below w.heap.size w (w.alloc (.cells #[v, u, t, .int .i64 m] 51))) := (Below.refl _ _).alloc (Nat.le_refl _) _
  have C0 := Lib.hid (c_AreArcs xss v _ hs (h.below HB0.out))
  have C1 := Lib.hid (c_AreGains gs cs u t xss.length _ l1 l2 (hu.below HB0.out) (ht.below HB0.out))
  have C2 := Lib.hid (c_isFactor m (w.alloc (.cells #[v, u, t, .int .i64 m] 51)))
  obtain ⟨A, c, rfl, hm⟩ := h.shape
  obtain ⟨A2, c2, rfl⟩ := hu.shape
  obtain ⟨A3, c3, rfl⟩ := ht.shape
  unfold asB
  clear h hu ht hs l1 l2 hm
  generalize gnB gs cs xss.length = R at *
  generalize arcB xss = Q at *
  generalize fcB m = T at *
  generalize xss.length = n at *
  generalize gs.length = n2 at *
  generalize cs.length = n3 at *
  cases Q
  · go_enter Try.func53, Try.ntmps53
    go_wp2_with fail
    refine C0.out.mono ?_
    rintro e w1 ⟨rfl, rfl⟩
    go_wp2
    go_ret
    exact ⟨rfl, HB0.out⟩
  · cases R
    · go_enter Try.func53, Try.ntmps53
      go_wp2_with fail
      refine C0.out.mono ?_
      rintro e w1 ⟨rfl, rfl⟩
      go_wp2_with fail
      refine C1.out.mono ?_
      rintro e w1 ⟨rfl, rfl⟩
      go_wp2
      go_ret
      exact ⟨rfl, HB0.out⟩
    · go_enter Try.func53, Try.ntmps53
      go_wp2_with fail
      refine C0.out.mono ?_
      rintro e w1 ⟨rfl, rfl⟩
      go_wp2_with fail
      refine C1.out.mono ?_
      rintro e w1 ⟨rfl, rfl⟩
      go_wp2_with fail
      refine C2.out.mono ?_
      rintro e w1 ⟨rfl, rfl⟩
      go_wp2
      go_ret
      exact ⟨rfl, HB0.out⟩

/-- What is told of the value of round f. -/
def PitRow (P : Nat → List Int) (T f : Nat) (v : Value) (W : World) : Prop := Row W T v (P f)
theorem PitRow.own (b : Nat) (P : Nat → List Int) (T f : Nat) : OwnFrom b (PitRow P T f) := fun v X Y row h hg hr => by
  refine own_stays h fun k hk => hg.block k (World.ownsRow.lt h k hk).2 fun e => ?_
  obtain ⟨_, o, ho, hc⟩ := hr k e.symm
  obtain ⟨g, cap, cur, rfl, _, hg', _⟩ := h.2.resolve_left (fun hn => by rw [hn.1] at hk; simp [Value.ownBlock] at hk)
  simp [Value.ownBlock] at hk
  subst hk
  rw [hg'] at ho
  simp at ho
  rw [← ho] at hc
  cases hc

set_option maxHeartbeats 8000000 in
set_option maxRecDepth 100000 in
/-- The iterator: the pits at the factors 0 to M, each with memory of its own. -/
theorem c_pits (xss : List (List Int)) (gs cs : List Int) (M : Nat) (v u t : Value) (w0 w : World) (m : Nat) (hm10 : 1 ≤ m) (hs : ShortL xss) (K : Asked xss gs cs M) (hA : asB xss gs cs M = true) (hb0 : Below w0.heap.size w0 w) (h : SeenL w0 v xss) (hu : Seen w0 u gs) (ht : Seen w0 t cs) :
    Tells Fence.wide m Try.prog 54 (.agg #[v, u, t, .int .i64 M]) w0.heap.size (PitRow (ptF xss gs cs)) (M + 1) w := by
  rintro l J Jx W hW hsz hJ hJT hY ⟨T0, h0⟩
  have sz0 := hb0.size
  have hbW : Below w0.heap.size w0 W := hb0.trans (hW.mono sz0)
  have l1 : gs.length ≤ 4000000 := by have := K.gains.gl; have := K.gains.n2; omega
  have l2 : cs.length ≤ 4000000 := by have := K.gains.cl; have := K.gains.n2; omega
  -- what the rounds keep: the arguments and the iterator's box
  have M1 : M ≤ 60 := by have := K.f1; omega
  have CP : Hid (∀ (f : Nat) (w1 : World), f ≤ M → SeenL w1 v xss → Seen w1 u gs → Seen w1 t cs → Calls Try.prog 24 #[v, u, t, .int .i64 f] w1 (GivesRow2 w1 (ptF xss gs cs f) true)) := fun f w1 hf a1 a2 a3 => by
    have := c_PitAt xss gs cs f v u t w1 hs l1 l2 a1 a2 a3
    have hK : asB xss gs cs f = true := by
      have hx := hA
      unfold asB at hx ⊢
      rw [Bool.and_eq_true, Bool.and_eq_true] at hx
      rw [hx.1, hx.2.1]
      simp [fcB]
      omega
    unfold paA at this
    rw [hK, if_pos rfl] at this
    exact this
  have HL : Hid (∀ X, Below w0.heap.size w0 X → SeenL X v xss ∧ Seen X u gs ∧ Seen X t cs) := fun X hx => ⟨h.below hx, hu.below hx, ht.below hx⟩
  have HY : Hid (∀ f T x W1, f < M + 1 → J (f, T) W1 → Row W1 T x (ptF xss gs cs f) → YieldAt Fence.wide (m - 1) Try.prog l #[.int .i64 (f : Int), x] W1 fun e W' =>
      (e = .returned (.bool true) ∧ (∃ T', J (f + 1, T') W') ∧ Outside w0.heap.size (w.heap.size + 2) W1 W') ∨ (e = .returned (.bool false) ∧ Jx (f + 1) W')) := hY
  have HT : Hid (∀ s X, J s X → w0.heap.size ≤ s.2 ∧ s.2 ≤ X.heap.size) := hJT
  have HJ : Hid (∀ s X Y, J s X → Below X.heap.size X Y → J s Y) := hJ
  have HB1 : Hid (Below w0.heap.size w0 (W.alloc (.cells #[v, u, t, .int .i64 M] 51))) := hbW.trans (((Below.refl _ W).alloc (Nat.le_refl _) _).mono hbW.size)
  have HX1 : Hid ((W.alloc (.cells #[v, u, t, .int .i64 M] 51)).heap[W.heap.size]? = some (.cells #[v, u, t, .int .i64 M] 51 (0, 0))) := World.alloc_heap_new _ _
  have HJ1 : Hid (J (0, T0) (W.alloc (.cells #[v, u, t, .int .i64 M] 51))) := hJ _ _ _ h0 ((Below.refl _ W).alloc (Nat.le_refl _) _)
  obtain ⟨bx, hbx⟩ : ∃ bx, W.heap.size = bx := ⟨_, rfl⟩
  rw [hbx] at hsz HX1
  have HZ : Hid (bx = w.heap.size + 2) := hsz
  clear hsz
  obtain ⟨A, c, rfl, hm⟩ := h.shape
  obtain ⟨A2, c2, rfl⟩ := hu.shape
  obtain ⟨A3, c3, rfl⟩ := ht.shape
  clear h hu ht hs l1 l2 hm K hA hY hJ hJT h0
  generalize ptF xss gs cs = P at *
  refine callsIn_of_wp Try.func54 rfl trivial ?_ rfl
  simp only [Try.ntmps54, List.size_toArray, List.length_cons, List.length_nil, Nat.reduceAdd, Nat.reduceSub, Array.replicate_succ, Array.replicate_zero, List.push_toArray, List.append_toArray, List.nil_append, List.cons_append]
  have e1 : IntKind.i64.wrap ((M : Int) + 1) = (M : Int) + 1 := IntWalk.i64_in _ (by omega)
  gi_wp2
  gi_loopw [10] (fun i wr => ∃ k : Nat, k ≤ M + 1 ∧ i = .int .i64 k ∧ (∃ T, J (k, T) wr) ∧ Below w0.heap.size w0 wr ∧ wr.heap[bx]? = some (.cells #[.slice A xss.length c, .slice A2 gs.length c2, .slice A3 cs.length c3, .int .i64 M] 51 (0, 0))) (fun i _ => M + 1 - (RowKit.intOf i).toNat)
  case atStart => exact ⟨0, Nat.zero_le _, rfl, ⟨T0, HJ1.out⟩, HB1.out, HX1.out⟩
  case round =>
    obtain ⟨k, hk, rfl, ⟨T, hj⟩, hb, hx⟩ := hrel
    have HJk := Lib.hid hj
    have HBk := Lib.hid hb
    have HXk := Lib.hid hx
    have x0 : wr.cell? ⟨bx, 0, none⟩ = some (.slice A xss.length c) := by simp [World.cell?, hx]
    have x1 : wr.cell? ⟨bx, 1, none⟩ = some (.slice A2 gs.length c2) := by simp [World.cell?, hx]
    have x2 : wr.cell? ⟨bx, 2, none⟩ = some (.slice A3 cs.length c3) := by simp [World.cell?, hx]
    clear hj hb hx
    by_cases hlt : k < M + 1
    · have b1 : (k : Int) < (M : Int) + 1 := by omega
      obtain ⟨s1, s2, s3⟩ := HL.out wr HBk.out
      have C := Lib.hid (CP.out k wr (by omega) s1 s2 s3)
      clear s1 s2 s3
      gi_wp2_with fail
      refine ⟨trivial, ?_⟩
      refine (callsIn_wide.2 C.out).mono ?_
      rintro e w2 ⟨p, rfl, hr, hb⟩
      have sz2 : w0.heap.size ≤ wr.heap.size := HBk.out.size
      have HB2 : Hid (Below w0.heap.size w0 w2) := HBk.out.trans (hb.mono sz2)
      have HX2 : Hid (w2.heap[bx]? = some (.cells #[.slice A xss.length c, .slice A2 gs.length c2, .slice A3 cs.length c3, .int .i64 M] 51 (0, 0))) := (hb.block _ (Array.getElem?_eq_some_iff.1 HXk.out).1).trans HXk.out
      have HJ2 := Lib.hid (HJ.out (k, T) _ _ HJk.out hb)
      have HR2 := Lib.hid (hr.mono (HT.out _ _ HJk.out).2)
      obtain ⟨A4, c4, rfl⟩ := hr.shape
      obtain ⟨fn, tmps, assign, body, hy, hR⟩ := HY.out k T _ w2 hlt HJ2.out HR2.out
      have hRR := Lib.hid hR
      clear hr hb C hR
      gi_wp2
      refine hRR.out.mono ?_
      rintro e W3 (⟨rfl, hJ3, hk3⟩ | ⟨rfl, hJx3⟩)
      · have HB3 : Hid (Below w0.heap.size w0 W3) := hk3.low HB2.out (by have := HB2.out.size; omega)
        have HX3 : Hid (W3.heap[bx]? = some (.cells #[.slice A xss.length c, .slice A2 gs.length c2, .slice A3 cs.length c3, .int .i64 M] 51 (0, 0))) := (hk3.same _ (Array.getElem?_eq_some_iff.1 HX2.out).1 (.inr (by have := HZ.out; omega))).trans HX2.out
        have HJ3 := Lib.hid hJ3
        clear hJ3 hk3
        gi_wp2
        go_roundw
        case rel => exact ⟨k + 1, by omega, by go_num, HJ3.out, HB3.out, HX3.out⟩
        case measure => simp [RowKit.intOf]; omega
      · have HJ3 := Lib.hid hJx3
        clear hJx3
        gi_wp2
        refine bodyPost_ret (results_none rfl _ _ _) rfl ?_
        exact ⟨⟨_, rfl⟩, .inr ⟨k + 1, by omega, HJ3.out⟩⟩
    · obtain rfl : k = M + 1 := by omega
      have b1 : ¬ ((M : Int) + 1 < (M : Int) + 1) := by omega
      gi_wp2
      go_end0
      exact ⟨⟨_, rfl⟩, .inl ⟨T, HJk.out⟩⟩
end Go.Proofs.Ytoakpepoopjlaaa
