/-
  Contracts: valid weights; the shares add up to the whole.
-/
import Derived.Test.YthlclieifcbkjabV6
namespace Go.Proofs.Ythlclieifcbkjab
open Go.RowKit
set_option linter.unusedVariables false

def wB (ws : List Int) : Bool := decide (1 ≤ ws.length ∧ ws.length ≤ 20) && (allB 100 ws && decide (sumTo ws ws.length ≠ 0))
theorem w_true {ws : List Int} (h : wB ws = true) : 0 < ws.length ∧ ws.length ≤ 20 ∧ Mild ws 10000 ∧ 0 < sumTo ws ws.length := by
  unfold wB at h
  simp only [Bool.and_eq_true, decide_eq_true_eq] at h
  obtain ⟨⟨h1, h2⟩, h3, h4⟩ := h
  have hm : Mild ws 10000 := fun j hj => by have := all_at h3 hj; omega
  have := sumTo_box hm ws.length (Nat.le_refl _)
  exact ⟨by omega, h2, hm, by omega⟩
theorem mild_of {ws : List Int} (h : allB 100 ws = true) : Mild ws 10000 := fun j hj => by have := all_at h hj; omega

set_option maxHeartbeats 2000000 in
theorem c_areWeights (ws : List Int) (v : Value) (w : World) (hl : ws.length ≤ 4000000) (h : Seen w v ws) :
    Calls Try.prog 37 #[v] w fun e w' => e = .returned (.bool (wB ws)) ∧ w = w' := by
  have HS := Lib.hid h
  obtain ⟨A, c, rfl, _, _⟩ := h
  by_cases hn : 1 ≤ ws.length ∧ ws.length ≤ 20
  · have CA := Lib.hid (c_areNumbers ws _ (ws.length : Int) 100 w hl HS.out)
    have e1 : areB (ws.length : Int) 100 ws = allB 100 ws := by unfold areB; simp
    rw [e1] at CA
    clear e1
    have a1 : ¬ (ws.length : Int) < 1 := by omega
    have a2 : ¬ 20 < (ws.length : Int) := by omega
    cases ha : allB 100 ws
    · rw [ha] at CA
      have hw : wB ws = false := by unfold wB; rw [ha]; simp
      rw [hw]
      clear ha hw hn
      go_enter Try.func37, Try.ntmps37
      go_wp2_with fail
      refine CA.out.mono ?_
      rintro e w1 ⟨rfl, rfl⟩
      go_wp2
      go_ret
      exact ⟨rfl, rfl⟩
    · rw [ha] at CA
      have hm := mild_of ha
      have CM := Lib.hid (c_Max ws _ w hn.2 (by omega) hm HS.out)
      have hp := maxTo_pos hm (by omega) ws.length (Nat.le_refl _) (by omega)
      have hw : wB ws = decide (0 < maxTo ws ws.length) := by
        unfold wB
        rw [ha, decide_eq_true hn, Bool.true_and, Bool.true_and]
        exact decide_eq_decide.2 hp.2.symm
      rw [hw]
      clear ha hw hn hp hm
      generalize maxTo ws ws.length = mx at *
      go_enter Try.func37, Try.ntmps37
      go_wp2_with fail
      refine CA.out.mono ?_
      rintro e w1 ⟨rfl, rfl⟩
      go_wp2_with fail
      refine CM.out.mono ?_
      rintro e w1 ⟨rfl, rfl⟩
      go_wp2
      go_ret
      exact ⟨rfl, rfl⟩
  · have hw : wB ws = false := by unfold wB; rw [decide_eq_false hn]; rfl
    rw [hw]
    clear hw
    by_cases h1 : (ws.length : Int) < 1
    · clear hn
      go_enter Try.func37, Try.ntmps37
      go_wp2
      go_ret
      exact ⟨rfl, rfl⟩
    · have h2 : 20 < (ws.length : Int) := by omega
      clear hn
      go_enter Try.func37, Try.ntmps37
      go_wp2
      go_ret
      exact ⟨rfl, rfl⟩

theorem sumTo_congr {xs ys : List Int} : ∀ {k : Nat}, (∀ j, j < k → xs.getD j 0 = ys.getD j 0) → sumTo xs k = sumTo ys k
  | 0, _ => rfl
  | k + 1, h => by rw [sumTo, sumTo, sumTo_congr (fun j hj => h j (by omega)), h k (by omega)]
theorem sumTo_set (xs : List Int) {i : Nat} (hi : i < xs.length) (v : Int) : ∀ k, sumTo (xs.set i v) k = sumTo xs k + (if i < k then v - xs.getD i 0 else 0)
  | 0 => by simp [sumTo]
  | k + 1 => by
    have ih := sumTo_set xs hi v k
    have e : (xs.set i v).getD k 0 = if i = k then v else xs.getD k 0 := by
      rw [List.getD_eq_getElem?_getD, List.getElem?_set]
      by_cases h : i = k
      · subst h; simp [hi]
      · rw [if_neg h, if_neg h, ← List.getD_eq_getElem?_getD]
    rw [sumTo, sumTo, ih, e]
    by_cases h1 : i = k
    · subst h1
      rw [if_neg (Nat.lt_irrefl _), if_pos rfl, if_pos (by omega)]
      omega
    · by_cases h2 : i < k
      · rw [if_pos h2, if_neg h1, if_pos (by omega)]; omega
      · rw [if_neg h2, if_neg h1, if_neg (by omega)]; omega
theorem sum_inc : ∀ (l base : List Int), (∀ x ∈ l, ∃ b : Nat, x = (b : Int) ∧ b < base.length) → sumTo (incA base l) base.length = sumTo base base.length + (l.length : Int)
  | [], base, _ => by simp [incA]
  | x :: l, base, h => by
    obtain ⟨b, rfl, hb⟩ := h x (by simp)
    have ih := sum_inc l (base.set b (base.getD b 0 + 1)) (fun y hy => by rw [List.length_set]; exact h y (by simp [hy]))
    rw [List.length_set] at ih
    have e := sumTo_set base hb (base.getD b 0 + 1) base.length
    rw [if_pos hb] at e
    unfold incA at *
    rw [List.foldl_cons, Int.toNat_natCast, ih, e, List.length_cons]
    omega
theorem sum_bas (N W : Int) (ws : List Int) (n : Nat) : ∀ k, k ≤ n → sumTo (basS N W ws n) k = N - lefS N W ws k
  | 0, _ => by simp [sumTo, lefS]
  | k + 1, h => by
    rw [sumTo, sum_bas N W ws n k (by omega), lefS]
    have : (basS N W ws n).getD k 0 = qoA N W ws k := by simp [basS, List.getD_eq_getElem?_getD, show k < n by omega]
    rw [this]; omega
/-- The shares: as many as the weights, none negative, together the whole. -/
theorem shaL_ok {N : Int} {ws : List Int} (hm : Mild ws 10000) (N0 : 0 ≤ N) (N1 : N ≤ 10000000) (W0 : 0 < sumTo ws ws.length) :
    sumTo (shaL N ws) ws.length = N ∧ ∀ j, j < ws.length → 0 ≤ (shaL N ws).getD j 0 ∧ (shaL N ws).getD j 0 ≤ N := by
  obtain ⟨lf0, lf1⟩ := left_box (N := N) W0 rfl
  have hs : sumTo (shaL N ws) ws.length = N := by
    have := sum_inc ((ordA N (sumTo ws ws.length) ws ws.length).take (lefS N (sumTo ws ws.length) ws ws.length).toNat) (basS N (sumTo ws ws.length) ws ws.length) (fun x hx => by
      rw [basS_len]
      exact sortN_mem _ _ (List.mem_of_mem_take hx))
    rw [basS_len, sum_bas _ _ _ _ _ (Nat.le_refl _), List.length_take, show (ordA N (sumTo ws ws.length) ws ws.length).length = ws.length from sortN_len _ _] at this
    unfold shaL
    rw [this]
    omega
  have hnn : ∀ j, 0 ≤ (shaL N ws).getD j 0 := fun j => by
    unfold shaL
    exact (incA_box _ _ 100000000000 (fun i => by
      by_cases hi : i < ws.length
      · have := qoA_box (k := i) N0 N1 W0 (hm i hi)
        simpa [basS, List.getD_eq_getElem?_getD, hi] using this
      · have : (basS N (sumTo ws ws.length) ws ws.length).getD i 0 = 0 := by rw [List.getD_eq_getElem?_getD, List.getElem?_eq_none (by rw [basS_len]; omega)]; rfl
        rw [this]; omega) j).1
  refine ⟨hs, fun j hj => ⟨hnn j, ?_⟩⟩
  have mono : ∀ k, j < k → k ≤ ws.length → (shaL N ws).getD j 0 ≤ sumTo (shaL N ws) k := fun k => by
    induction k with
    | zero => intro h; omega
    | succ k ih =>
      intro h hk
      rw [sumTo]
      have pos : ∀ q, 0 ≤ sumTo (shaL N ws) q := fun q => by
        induction q with
        | zero => exact Int.le_refl _
        | succ q ihq => rw [sumTo]; have := hnn q; omega
      by_cases e : j = k
      · subst e; have := pos j; omega
      · have := ih (by omega) (by omega); have := hnn k; omega
  have := mono ws.length hj (Nat.le_refl _)
  omega
end Go.Proofs.Ythlclieifcbkjab
