/-
  Contracts: LeastProfile and GreatestProfile, in the program and in the model of it.
-/
import Derived.Test.YtmkbjkmpincogaaSJ
import Derived.Test.YtmkbjkmpincogaaSK
namespace Go.Proofs.Ytmkbjkmpincogaa
open Go.RowKit
set_option linter.unusedVariables false

theorem lpL_len (f : Int → Int → Int) (xss : List (List Int)) (p : List Int) (h : p.length ≤ 4000000) : (lpL f xss p).length ≤ 4000000 := by
  unfold lpL
  split
  · rw [fit_len]; exact h
  · simp

set_option maxHeartbeats 1000000 in
theorem c_LeastProfile (xss : List (List Int)) (p : List Int) (v u : Value) (w : World) (hl : ShortL xss) (hl2 : p.length ≤ 4000000) (h : SeenL w v xss) (hp : Seen w u p) :
    Calls Try.prog 33 #[v, u] w (GivesRow2 w (lpL fMax xss p) (sdB xss p)) := by
  have H1 := Lib.hid (c_fitDepthsMax xss p v u w hl hl2 h hp)
  obtain ⟨A', c', rfl, _⟩ := h.shape
  obtain ⟨A, c, rfl⟩ := hp.shape
  clear h hp
  generalize lpL fMax xss p = R at *
  generalize sdB xss p = Z at *
  go_enter Try.func33, Try.ntmps33
  go_wp2_with fail
  refine H1.out.mono ?_
  rintro e w1 ⟨q, rfl, hr, hb⟩
  have HR := Lib.hid hr
  have HB := Lib.hid hb
  clear hr hb
  go_wp2
  go_ret2
  exact ⟨_, rfl, HR.out, HB.out⟩

set_option maxHeartbeats 1000000 in
theorem c_GreatestProfile (xss : List (List Int)) (p : List Int) (v u : Value) (w : World) (hl : ShortL xss) (hl2 : p.length ≤ 4000000) (h : SeenL w v xss) (hp : Seen w u p) :
    Calls Try.prog 35 #[v, u] w (GivesRow2 w (lpL fMin xss p) (sdB xss p)) := by
  have H1 := Lib.hid (c_fitDepthsMin xss p v u w hl hl2 h hp)
  obtain ⟨A', c', rfl, _⟩ := h.shape
  obtain ⟨A, c, rfl⟩ := hp.shape
  clear h hp
  generalize lpL fMin xss p = R at *
  generalize sdB xss p = Z at *
  go_enter Try.func35, Try.ntmps35
  go_wp2_with fail
  refine H1.out.mono ?_
  rintro e w1 ⟨q, rfl, hr, hb⟩
  have HR := Lib.hid hr
  have HB := Lib.hid hb
  clear hr hb
  go_wp2
  go_ret2
  exact ⟨_, rfl, HR.out, HB.out⟩

theorem sd_yes {xss : List (List Int)} {p : List Int} (h : sdB xss p = true) : secB xss = true ∧ Sec xss xss.length (depD xss) ∧ Pro p xss.length (depD xss) ∧ In0 6 p ∧ 1 ≤ p.length ∧ p.length ≤ 8 := by
  unfold sdB at h
  simp only [Bool.and_eq_true] at h
  have S := sec_yes h.1
  have P := are_yes h.2
  refine ⟨h.1, S, P, fun i hi => ?_, by have := P.len; have := S.n1; omega, by have := P.len; have := S.n2; omega⟩
  have := P.box i (by have := P.len; omega)
  have := S.d2
  omega

set_option maxHeartbeats 1000000 in
theorem c_GreatestProfileS (xss : List (List Int)) (p : List Int) (v u : Value) (w : World) (hl : ShortL xss) (hl2 : p.length ≤ 4000000) (h : SeenL w v xss) (hp : Seen w u p) :
    Calls Try.prog 34 #[v, u] w (GivesRow2 w (lpL fMin xss p) (sdB xss p)) := by
  have H1 := Lib.hid (c_seGood xss v w hl h)
  have H2 : Hid (secB xss = true → Calls Try.prog 55 #[v, u] w fun e w' => e = .returned (.bool (sdB xss p)) ∧ w = w') := fun hs => by
    have S := sec_yes hs
    unfold sdB
    rw [hs, Bool.true_and]
    exact c_seDepths xss p v u w (by have := S.n1; omega) hl2 h hp
  have H3 : Hid (sdB xss p = true → Calls Try.prog 56 #[u] w (GivesRow w (fitL fMin p))) := fun hs => by
    obtain ⟨_, _, _, h6, n1, n2⟩ := sd_yes hs
    exact c_seLower p u w n1 n2 h6 hp
  have H4 : Hid (secB xss = false → sdB xss p = false) := fun h => by unfold sdB; rw [h]; rfl
  obtain ⟨A', c', rfl, _⟩ := h.shape
  obtain ⟨A, c, rfl⟩ := hp.shape
  unfold lpL
  clear h hp hl hl2
  cases hz : secB xss
  · rw [hz] at H1
    rw [H4.out hz]
    clear H2 H3 hz
    go_enter Try.func34, Try.ntmps34
    go_wp2_with fail
    refine H1.out.mono ?_
    rintro e w1 ⟨rfl, rfl⟩
    go_wp2
    go_ret2
    exact ⟨_, rfl, Row.nil _ _, Below.refl _ _⟩
  rw [hz] at H1
  have H5 := Lib.hid (H2.out hz)
  clear H2 H4 hz
  cases hs : sdB xss p
  · rw [hs] at H5
    clear H3
    go_enter Try.func34, Try.ntmps34
    go_wp2_with fail
    refine H1.out.mono ?_
    rintro e w1 ⟨rfl, rfl⟩
    go_wp2_with fail
    refine H5.out.mono ?_
    rintro e w2 ⟨rfl, rfl⟩
    go_wp2
    go_ret2
    exact ⟨_, rfl, Row.nil _ _, Below.refl _ _⟩
  · rw [hs] at H5
    have H6 := Lib.hid (H3.out hs)
    rw [if_pos rfl]
    clear hs H3
    generalize fitL fMin p = R at *
    go_enter Try.func34, Try.ntmps34
    go_wp2_with fail
    refine H1.out.mono ?_
    rintro e w1 ⟨rfl, rfl⟩
    go_wp2_with fail
    refine H5.out.mono ?_
    rintro e w2 ⟨rfl, rfl⟩
    go_wp2_with fail
    refine H6.out.mono ?_
    rintro e w3 ⟨q, rfl, hr, hb⟩
    have HR := Lib.hid hr
    have HB := Lib.hid hb
    clear hr hb
    go_wp2
    go_ret2
    exact ⟨_, rfl, HR.out, HB.out⟩
end Go.Proofs.Ytmkbjkmpincogaa
