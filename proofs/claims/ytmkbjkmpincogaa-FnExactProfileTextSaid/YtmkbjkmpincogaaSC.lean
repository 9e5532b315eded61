/-
  Contracts: valid profiles, in the program and in the model of it.
-/
import Derived.Test.YtmkbjkmpincogaaSB
import Derived.BigRegion
namespace Go.Proofs.Ytmkbjkmpincogaa
open Go.RowKit
set_option linter.unusedVariables false

/-- The first column's length, as memory has it. -/
theorem SeenL.col0 {w : World} {A : Option Addr} {n c : Nat} {xss : List (List Int)} (h : SeenL w (.slice A n c) xss) (hk : 0 < xss.length) : ∃ b off A' c', A = some ⟨b, off, none⟩ ∧ w.cell? ⟨b, off, none⟩ = some (.slice A' (depD xss) c') := by
  obtain ⟨b, off, A', c', e, q, _⟩ := h.col hk
  rw [Nat.add_zero] at q
  exact ⟨b, off, A', c', e, q⟩

set_option maxHeartbeats 400000 in
theorem c_areDepths (xss : List (List Int)) (p : List Int) (v u : Value) (w : World) (h0 : 0 < xss.length) (hl2 : p.length ≤ 4000000) (h : SeenL w v xss) (hp : Seen w u p) :
    Calls Try.prog 48 #[v, u] w fun e w' => e = .returned (.bool (areB xss.length (depD xss) p)) ∧ w = w' := by
  have H1 := Lib.hid (fun (m hi : Int) => c_areNumbers p u m hi w hl2 hp)
  obtain ⟨A, c, rfl, hm⟩ := h.shape
  obtain ⟨b, off, A', c', rfl, q0⟩ := h.col0 h0
  obtain ⟨A2, c2, rfl⟩ := hp.shape
  have d3 : (0 : Int) < (xss.length : Int) := by omega
  unfold maxLen at hm
  clear h hp
  generalize xss.length = n at *
  generalize depD xss = D at *
  go_enter Try.func48, Try.ntmps48
  go_wp2_with fail
  refine (H1.out _ _).mono ?_
  rintro e w1 ⟨rfl, rfl⟩
  go_wp2
  go_ret
  exact ⟨rfl, rfl⟩

set_option maxHeartbeats 1000000 in
theorem c_areGentle (p : List Int) (v : Value) (w : World) (hl : p.length ≤ 4000000) (hb : ∀ i, i < p.length → 0 ≤ p.getD i 0 ∧ p.getD i 0 ≤ 1000) (h : Seen w v p) :
    Calls Try.prog 49 #[v] w fun e w' => e = .returned (.bool (genB p)) ∧ Below w.heap.size w w' := by
  obtain ⟨A, c, rfl, hm, hA⟩ := h
  clear hm
  have E1 : Hid (∀ k : Nat, k < p.length → ∃ b off, A = some ⟨b, off, none⟩ ∧ b < w.heap.size ∧ w.cell? ⟨b, off + k, none⟩ = some (.int .i64 (p.getD k 0))) := fun k hk => by
    obtain ⟨b, off, rfl, hlt, hc⟩ := hA (by omega)
    exact ⟨b, off, rfl, hlt, hc k hk⟩
  have EB : Hid (∀ i, i < p.length → 0 ≤ p.getD i 0 ∧ p.getD i 0 ≤ 1000) := hb
  have F1 : Hid (∀ i, i + 1 < p.length → ¬ (p.getD (i + 1) 0 - p.getD i 0 ≤ 1 ∧ -1 ≤ p.getD (i + 1) 0 - p.getD i 0) → genB p = false) := fun i hi h => gen_no hi h
  have F2 : Hid (GenTo p p.length → genB p = true) := gen_yes
  have F3 : Hid (∀ k, GenTo p (k + 1) → (p.getD (k + 1) 0 - p.getD k 0 ≤ 1 ∧ -1 ≤ p.getD (k + 1) 0 - p.getD k 0) → GenTo p (k + 1 + 1)) := fun k h h2 => h.succ h2
  have F0 : Hid (∀ k, k ≤ 1 → GenTo p k) := fun k h => GenTo.one p k h
  clear hA hb
  generalize genB p = R at *
  generalize hN : p.length = N at *
  clear hN
  go_enter Try.func49, Try.ntmps49
  go_wp2_with fail
  go_loopw [3] (fun i wr => ∃ k : Nat, (k + 1 ≤ N ∨ k = 0) ∧ i = .int .i64 ((k + 1 : Nat) : Int) ∧ Hid (GenTo p (k + 1)) ∧ Hid (Below w.heap.size w wr)) (fun i _ => N - (intOf i).toNat)
  case atStart => exact ⟨0, .inr rfl, by go_num, F0.out 1 (by omega), Below.refl _ _⟩
  case round =>
    obtain ⟨k, hk, rfl, HV, HB⟩ := hrel
    by_cases hlt : k + 1 < N
    · obtain ⟨b, off, rfl, hbl, q1⟩ := E1.out (k + 1) hlt
      obtain ⟨b2, off2, e2, _, q2⟩ := E1.out k (by omega)
      simp at e2
      obtain ⟨rfl, rfl⟩ := e2
      rw [← HB.out.cell (p := ⟨b, off + (k + 1), none⟩) hbl] at q1
      rw [← HB.out.cell (p := ⟨b, off + k, none⟩) hbl] at q2
      have T1 := EB.out (k + 1) hlt
      have T2 := EB.out k (by omega)
      have G1 := Lib.hid (F1.out k hlt)
      have G3 := Lib.hid (F3.out k HV.out)
      generalize p.getD (k + 1) 0 = t at *
      generalize p.getD k 0 = s at *
      have b1 : (0 : Int) ≤ ((k + 1 : Nat) : Int) := by omega
      have b2 : ((k + 1 : Nat) : Int) < (N : Int) := by omega
      have b3 : (0 : Int) ≤ ((k + 1 : Nat) : Int) - 1 := by omega
      have b4 : ((k + 1 : Nat) : Int) - 1 < (N : Int) := by omega
      have b5 : (((k + 1 : Nat) : Int) - 1).toNat = k := by omega
      have b6 : ((k + 1 : Nat) : Int) - 1 = (k : Int) := by omega
      obtain ⟨t1, t2⟩ := T1
      obtain ⟨s1, s2⟩ := T2
      by_cases h1 : t - s ≤ 1 ∧ -1 ≤ t - s
      · have G := Lib.hid (G3.out h1)
        obtain ⟨h2, h3⟩ := h1
        go_wp2_with fail
        go_region
        go_wp2
        go_roundw
        case rel => exact ⟨k + 1, by omega, by go_num, G, by first | exact HB | exact HB.out.drew⟩
        case measure => simp [intOf]; omega
      · have G := Lib.hid (G1.out h1)
        by_cases h2 : t - s < -1
        · go_wp2_with fail
          go_region
          go_wp2
          go_ret
          exact ⟨ret_bool G.out.symm, by first | exact HB.out | exact HB.out.drew⟩
        · have h3 : t - s > 1 := by omega
          go_wp2_with fail
          go_region
          go_wp2
          go_ret
          exact ⟨ret_bool G.out.symm, by first | exact HB.out | exact HB.out.drew⟩
    · have G := Lib.hid (F2.out (fun i hi => HV.out i (by omega)))
      go_wp2
      go_ret
      exact ⟨ret_bool G.out.symm, HB.out⟩

set_option maxHeartbeats 400000 in
theorem c_l1MostE (a b : Int) (w : World) : Calls Try.prog 60 #[.int .i64 a, .int .i64 b] w fun e w' => e = .returned (.int .i64 (max a b)) ∧ w = w' := by
  by_cases h : b < a
  · rw [show max a b = a by omega]
    go_enter Try.func60, Try.ntmps60
    go_wp2
    go_ret
    exact ⟨rfl, rfl⟩
  · rw [show max a b = b by omega]
    go_enter Try.func60, Try.ntmps60
    go_wp2
    go_ret
    exact ⟨rfl, rfl⟩
set_option maxHeartbeats 400000 in
theorem c_l1LeastE (a b : Int) (w : World) : Calls Try.prog 65 #[.int .i64 a, .int .i64 b] w fun e w' => e = .returned (.int .i64 (min a b)) ∧ w = w' := by
  by_cases h : a < b
  · rw [show min a b = a by omega]
    go_enter Try.func65, Try.ntmps65
    go_wp2
    go_ret
    exact ⟨rfl, rfl⟩
  · rw [show min a b = b by omega]
    go_enter Try.func65, Try.ntmps65
    go_wp2
    go_ret
    exact ⟨rfl, rfl⟩
/-- What the model's l1Abs says of any number. -/
def absW (n : Int) : Int := max n (wrap64 (-n))
theorem absW_in {n : Int} (h : -1000000 ≤ n) (h2 : n ≤ 1000000) : absW n = max n (-n) := by
  unfold absW
  rw [IntWalk.wrap64_in _ (by omega)]
set_option maxHeartbeats 400000 in
theorem c_l1AbsW (n : Int) (w : World) : Calls Try.prog 77 #[.int .i64 n] w fun e w' => e = .returned (.int .i64 (absW n)) ∧ w = w' := by
  unfold absW
  go_enter Try.func77, Try.ntmps77
  go_wp2_with fail
  refine (c_l1MostE _ _ _).mono ?_
  rintro e w1 ⟨rfl, rfl⟩
  go_wp2
  go_ret
  exact ⟨rfl, rfl⟩

set_option maxHeartbeats 400000 in
theorem c_seDepths (xss : List (List Int)) (p : List Int) (v u : Value) (w : World) (h0 : 0 < xss.length) (hl2 : p.length ≤ 4000000) (h : SeenL w v xss) (hp : Seen w u p) :
    Calls Try.prog 55 #[v, u] w fun e w' => e = .returned (.bool (areB xss.length (depD xss) p)) ∧ w = w' := by
  have H1 := Lib.hid (fun (hi : Int) => c_l1All p u hi w hl2 hp)
  obtain ⟨A, c, rfl, hm⟩ := h.shape
  obtain ⟨b, off, A', c', rfl, q0⟩ := h.col0 h0
  obtain ⟨A2, c2, rfl⟩ := hp.shape
  have d3 : (0 : Int) < (xss.length : Int) := by omega
  unfold maxLen at hm
  clear h hp
  unfold areB
  by_cases hq : (p.length : Int) = xss.length
  · rw [decide_eq_true hq, Bool.true_and]
    have hq' : ((p.length : Int) == (xss.length : Int)) = true := by simpa using hq
    generalize hR : allB (depD xss) p = R at *
    have H2 := Lib.hid (H1.out (depD xss))
    rw [hR] at H2
    clear H1 hR hq
    generalize xss.length = n at *
    generalize p.length = m at *
    generalize depD xss = D at *
    go_enter Try.func55, Try.ntmps55
    go_wp2_with fail
    refine (H2.out).mono ?_
    rintro e w1 ⟨rfl, rfl⟩
    go_wp2
    go_ret
    exact ⟨rfl, rfl⟩
  · rw [decide_eq_false hq, Bool.false_and]
    have hq' : ((p.length : Int) == (xss.length : Int)) = false := by simpa using hq
    clear H1
    generalize xss.length = n at *
    generalize p.length = m at *
    generalize depD xss = D at *
    go_enter Try.func55, Try.ntmps55
    go_wp2
    go_ret
    exact ⟨rfl, rfl⟩

theorem gen_far {n D : Nat} {p : List Int} (h : areB n D p = true) {k : Nat} (hk : k + 1 < p.length) (hD : D ≤ 1000000) : -1000000 ≤ p.getD (k + 1) 0 - p.getD k 0 ∧ p.getD (k + 1) 0 - p.getD k 0 ≤ 1000000 := by
  have := are_yes h
  have a := this.box (k + 1) (by have := this.len; omega)
  have b := this.box k (by have := this.len; omega)
  omega

set_option maxHeartbeats 1000000 in
theorem c_seProfile (xss : List (List Int)) (p : List Int) (v u : Value) (w : World) (h0 : 0 < xss.length) (hD : depD xss ≤ 1000000) (hl2 : p.length ≤ 4000000) (h : SeenL w v xss) (hp : Seen w u p) :
    Calls Try.prog 47 #[v, u] w fun e w' => e = .returned (.bool (proB xss.length (depD xss) p)) ∧ Below w.heap.size w w' := by
  have H1 := Lib.hid (fun (w' : World) (hb : Below w.heap.size w w') => c_seDepths xss p v u w' h0 hl2 (h.below hb) (hp.below hb))
  obtain ⟨A', c', rfl, _⟩ := h.shape
  obtain ⟨A, c, rfl, hm, hA⟩ := hp
  clear hm h
  have E1 : Hid (∀ k : Nat, k < p.length → ∃ b off, A = some ⟨b, off, none⟩ ∧ b < w.heap.size ∧ w.cell? ⟨b, off + k, none⟩ = some (.int .i64 (p.getD k 0))) := fun k hk => by
    obtain ⟨b, off, rfl, hlt, hc⟩ := hA (by omega)
    exact ⟨b, off, rfl, hlt, hc k hk⟩
  have F1 : Hid (∀ k, k + 1 < p.length → absW (wrap64 (p.getD (k + 1) 0 - p.getD k 0)) > 1 → proB xss.length (depD xss) p = false) := fun k hk h => by
    unfold proB
    cases ha : areB (xss.length : Int) (depD xss : Int) p
    · rfl
    · have g := gen_far ha hk hD
      rw [IntWalk.wrap64_in _ (by omega), absW_in g.1 g.2] at h
      rw [gen_no hk (by omega)]; rfl
  have F3 : Hid (∀ k, k + 1 < p.length → ¬ absW (wrap64 (p.getD (k + 1) 0 - p.getD k 0)) > 1 → (areB (xss.length : Int) (depD xss : Int) p = true → GenTo p (k + 1)) → (areB (xss.length : Int) (depD xss : Int) p = true → GenTo p (k + 1 + 1))) := fun k hk h h2 ha => by
    have g := gen_far ha hk hD
    rw [IntWalk.wrap64_in _ (by omega), absW_in g.1 g.2] at h
    exact (h2 ha).succ (by omega)
  have F2 : Hid ((areB (xss.length : Int) (depD xss : Int) p = true → GenTo p p.length) → proB xss.length (depD xss) p = areB xss.length (depD xss) p) := fun h => by
    unfold proB
    cases ha : areB (xss.length : Int) (depD xss : Int) p
    · rfl
    · rw [gen_yes (h ha)]; rfl
  have F0 : Hid (∀ k, k ≤ 1 → GenTo p k) := fun k h => GenTo.one p k h
  clear hA
  generalize proB xss.length (depD xss) p = R at *
  generalize areB xss.length (depD xss) p = R2 at *
  generalize xss.length = n at *
  generalize hN : p.length = N at *
  clear hN h0 hD
  go_enter Try.func47, Try.ntmps47
  go_wp2_with fail
  go_loopw [5] (fun i wr => ∃ k : Nat, (k + 1 ≤ N ∨ k = 0) ∧ i = .int .i64 ((k + 1 : Nat) : Int) ∧ Hid (R2 = true → GenTo p (k + 1)) ∧ Hid (Below w.heap.size w wr)) (fun i _ => N - (intOf i).toNat)
  case atStart => exact ⟨0, .inr rfl, by go_num, fun _ => F0.out 1 (by omega), Below.refl _ _⟩
  case round =>
    obtain ⟨k, hk, rfl, HV, HB⟩ := hrel
    by_cases hlt : k + 1 < N
    · obtain ⟨b, off, rfl, hbl, q1⟩ := E1.out (k + 1) hlt
      obtain ⟨b2, off2, e2, _, q2⟩ := E1.out k (by omega)
      simp at e2
      obtain ⟨rfl, rfl⟩ := e2
      rw [← HB.out.cell (p := ⟨b, off + (k + 1), none⟩) hbl] at q1
      rw [← HB.out.cell (p := ⟨b, off + k, none⟩) hbl] at q2
      have G1 := Lib.hid (F1.out k hlt)
      have G3 := Lib.hid (fun h => F3.out k hlt h HV.out)
      generalize p.getD (k + 1) 0 = t at *
      generalize p.getD k 0 = s at *
      have b1 : (0 : Int) ≤ ((k + 1 : Nat) : Int) := by omega
      have b2 : ((k + 1 : Nat) : Int) < (N : Int) := by omega
      have b3 : (0 : Int) ≤ ((k + 1 : Nat) : Int) - 1 := by omega
      have b4 : ((k + 1 : Nat) : Int) - 1 < (N : Int) := by omega
      have b5 : (((k + 1 : Nat) : Int) - 1).toNat = k := by omega
      have b6 : ((k + 1 : Nat) : Int) - 1 = (k : Int) := by omega
      have hbl2 : b < wr.heap.size := Nat.lt_of_lt_of_le hbl HB.out.size
      go_wp2_with fail
      refine wp_region_grow (by kernel_rfl) (by kernel_rfl) ?_
      repeat (go_big_quiet_step ((go_at_call 77; exact grow_same (c_l1AbsW _ _))))
      refine wpQuiet_nil ?_
      intro _ hw'
      obtain ⟨v, hw''⟩ := hw'
      subst hw''
      have hb2 := wOf_below wr v
      generalize wOf wr v = w2 at hb2 ⊢
      have HB2 : Hid (Below w.heap.size w w2) := HB.out.trans (hb2.mono HB.out.size)
      clear hb2
      generalize absW (wrap64 (t - s)) = d at *
      by_cases hd : d > 1
      · have G := Lib.hid (G1.out hd)
        go_wp2
        go_ret
        exact ⟨ret_bool G.out.symm, HB2.out⟩
      · have G := Lib.hid (G3.out (by omega))
        go_wp2
        go_roundw
        case rel => exact ⟨k + 1, by omega, by go_num, G, HB2⟩
        case measure => simp [intOf]; omega
    · have G := Lib.hid (F2.out (fun h i hi => HV.out h i (by omega)))
      go_wp2_with fail
      refine (H1.out _ HB.out).mono ?_
      rintro e w1 ⟨rfl, rfl⟩
      go_wp2
      go_ret
      exact ⟨ret_bool G.out.symm, HB.out⟩

set_option maxHeartbeats 1000000 in
theorem c_IsProfile (xss : List (List Int)) (p : List Int) (v u : Value) (w : World) (hl : ShortL xss) (hl2 : p.length ≤ 4000000) (h : SeenL w v xss) (hp : Seen w u p) :
    Calls Try.prog 21 #[v, u] w fun e w' => e = .returned (.tuple #[.bool (spB xss p), .bool (secB xss)]) ∧ Below w.heap.size w w' := by
  have H1 := Lib.hid (c_IsSection xss v w hl h)
  unfold spB
  cases hs : secB xss
  · rw [hs] at H1
    obtain ⟨A', c', rfl, _⟩ := h.shape
    obtain ⟨A, c, rfl⟩ := hp.shape
    clear h hp
    go_enter Try.func21, Try.ntmps21
    go_wp2_with fail
    refine H1.out.mono ?_
    rintro e w1 ⟨rfl, rfl⟩
    go_wp2
    go_ret2
    exact ⟨rfl, Below.refl _ _⟩
  · rw [hs, ] at H1
    have S := sec_yes hs
    have h0 : 0 < xss.length := by have := S.n1; omega
    have H2 := Lib.hid (c_areDepths xss p v u w h0 hl2 h hp)
    have H3 : Hid (areB xss.length (depD xss) p = true → Calls Try.prog 49 #[u] w fun e w' => e = .returned (.bool (genB p)) ∧ Below w.heap.size w w') := fun ha => c_areGentle p u w hl2 (fun i hi => by
      have P := are_yes ha
      have := P.box i (by have := P.len; omega)
      have := S.d2
      omega) hp
    obtain ⟨A', c', rfl, _⟩ := h.shape
    obtain ⟨A, c, rfl⟩ := hp.shape
    clear h hp S hs h0 hl
    unfold proB
    generalize areB xss.length (depD xss) p = R at *
    cases R
    · clear H3
      go_enter Try.func21, Try.ntmps21
      go_wp2_with fail
      refine H1.out.mono ?_
      rintro e w1 ⟨rfl, rfl⟩
      go_wp2_with fail
      refine H2.out.mono ?_
      rintro e w2 ⟨rfl, rfl⟩
      go_wp2
      go_ret2
      exact ⟨rfl, Below.refl _ _⟩
    · have H4 := Lib.hid (H3.out rfl)
      clear H3
      generalize genB p = R at *
      go_enter Try.func21, Try.ntmps21
      go_wp2_with fail
      refine H1.out.mono ?_
      rintro e w1 ⟨rfl, rfl⟩
      go_wp2_with fail
      refine H2.out.mono ?_
      rintro e w2 ⟨rfl, rfl⟩
      go_wp2_with fail
      refine H4.out.mono ?_
      rintro e w3 ⟨rfl, hb⟩
      have HB := Lib.hid hb
      clear hb
      go_wp2
      go_ret2
      exact ⟨by simp, HB.out⟩

set_option maxHeartbeats 1000000 in
theorem c_IsProfileS (xss : List (List Int)) (p : List Int) (v u : Value) (w : World) (hl : ShortL xss) (hl2 : p.length ≤ 4000000) (h : SeenL w v xss) (hp : Seen w u p) :
    Calls Try.prog 19 #[v, u] w fun e w' => e = .returned (.tuple #[.bool (spB xss p), .bool (secB xss)]) ∧ Below w.heap.size w w' := by
  have H1 := Lib.hid (c_seGood xss v w hl h)
  unfold spB
  cases hs : secB xss
  · rw [hs] at H1
    obtain ⟨A', c', rfl, _⟩ := h.shape
    obtain ⟨A, c, rfl⟩ := hp.shape
    clear h hp
    go_enter Try.func19, Try.ntmps19
    go_wp2_with fail
    refine H1.out.mono ?_
    rintro e w1 ⟨rfl, rfl⟩
    go_wp2
    go_ret2
    exact ⟨rfl, Below.refl _ _⟩
  · rw [hs, ] at H1
    have S := sec_yes hs
    have h0 : 0 < xss.length := by have := S.n1; omega
    have H2 := Lib.hid (c_seProfile xss p v u w h0 (by have := S.d2; omega) hl2 h hp)
    obtain ⟨A', c', rfl, _⟩ := h.shape
    obtain ⟨A, c, rfl⟩ := hp.shape
    clear h hp S hs h0 hl
    generalize proB xss.length (depD xss) p = R at *
    go_enter Try.func19, Try.ntmps19
    go_wp2_with fail
    refine H1.out.mono ?_
    rintro e w1 ⟨rfl, rfl⟩
    go_wp2_with fail
    refine H2.out.mono ?_
    rintro e w2 ⟨rfl, hb⟩
    have HB := Lib.hid hb
    clear hb
    go_wp2
    go_ret2
    exact ⟨by simp, HB.out⟩
end Go.Proofs.Ytmkbjkmpincogaa
