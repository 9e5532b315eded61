/-
  Contracts: valid networks, in the program and in the model of it.
-/
import Derived.Test.YtgboedfnkkckkaaZB
import Derived.IntWalk
namespace Go.Proofs.Ytgboedfnkkckkaa
open Go.RowKit
set_option linter.unusedVariables false

def edgB (n f t c : Int) : Bool := decide (0 ≤ f ∧ f < n ∧ 0 ≤ t ∧ t < n ∧ 0 ≤ c ∧ c ≤ 1000000000)
theorem edg_mk {n f t c : Int} (h : 0 ≤ f ∧ f < n ∧ 0 ≤ t ∧ t < n ∧ 0 ≤ c ∧ c ≤ 1000000000) : edgB n f t c = true := decide_eq_true h
theorem edg_no {n f t c : Int} (h : ¬ (0 ≤ f ∧ f < n ∧ 0 ≤ t ∧ t < n ∧ 0 ≤ c ∧ c ≤ 1000000000)) : edgB n f t c = false := decide_eq_false h
theorem edg_true {n f t c : Int} (h : edgB n f t c = true) : 0 ≤ f ∧ f < n ∧ 0 ≤ t ∧ t < n ∧ 0 ≤ c ∧ c ≤ 1000000000 := of_decide_eq_true h
/-- The first k edges are valid. -/
def EdgTo (n : Int) (xs : List Int) (k : Nat) : Prop := ∀ j : Nat, j < k → edgB n (xs.getD (j * 3) 0) (xs.getD (j * 3 + 1) 0) (xs.getD (j * 3 + 2) 0) = true
def edgAll (n : Int) (m : Nat) (xs : List Int) : Bool := (List.range m).all fun j => edgB n (xs.getD (j * 3) 0) (xs.getD (j * 3 + 1) 0) (xs.getD (j * 3 + 2) 0)
theorem edgAll_true {n : Int} {m : Nat} {xs : List Int} (h : EdgTo n xs m) : edgAll n m xs = true := by
  unfold edgAll
  rw [List.all_eq_true]
  exact fun j hj => h j (List.mem_range.1 hj)
theorem edgAll_false {n : Int} {m : Nat} {xs : List Int} {k : Nat} (hk : k < m) (h : edgB n (xs.getD (k * 3) 0) (xs.getD (k * 3 + 1) 0) (xs.getD (k * 3 + 2) 0) = false) : edgAll n m xs = false := by
  unfold edgAll
  rw [List.all_eq_false]
  exact ⟨k, List.mem_range.2 hk, by show ¬ edgB _ _ _ _ = true; rw [h]; simp⟩
theorem edgAll_at {n : Int} {m : Nat} {xs : List Int} (h : edgAll n m xs = true) {k : Nat} (hk : k < m) : edgB n (xs.getD (k * 3) 0) (xs.getD (k * 3 + 1) 0) (xs.getD (k * 3 + 2) 0) = true := by
  unfold edgAll at h
  rw [List.all_eq_true] at h
  exact h k (List.mem_range.2 hk)
theorem EdgTo.zero (n : Int) (xs : List Int) : EdgTo n xs 0 := fun j hj => by omega
theorem EdgTo.succ {n : Int} {xs : List Int} {k : Nat} (h : EdgTo n xs k) (hk : edgB n (xs.getD (k * 3) 0) (xs.getD (k * 3 + 1) 0) (xs.getD (k * 3 + 2) 0) = true) : EdgTo n xs (k + 1) := fun j hj => by
  by_cases e : j = k
  · rw [e]; exact hk
  · exact h j (by omega)
/-- A network of n nodes and m edges. -/
def netB (n : Int) (m : Nat) (xs : List Int) : Bool := decide (2 ≤ n ∧ n ≤ 130 ∧ m ≤ 2000) && edgAll n m xs
/-- The same, with more edges. -/
def netW (n : Int) (m : Nat) (xs : List Int) : Bool := decide (2 ≤ n ∧ n ≤ 130 ∧ m ≤ 8000) && edgAll n m xs
theorem netW_true {n : Int} {m : Nat} {xs : List Int} (h : netW n m xs = true) : 2 ≤ n ∧ n ≤ 130 ∧ m ≤ 8000 ∧ edgAll n m xs = true := by
  unfold netW at h
  simp only [Bool.and_eq_true, decide_eq_true_eq] at h
  exact ⟨h.1.1, h.1.2.1, h.1.2.2, h.2⟩
theorem netW_mk {n : Int} {m : Nat} {xs : List Int} (h1 : 2 ≤ n) (h2 : n ≤ 130) (h3 : m ≤ 8000) (h4 : edgAll n m xs = true) : netW n m xs = true := by
  unfold netW
  rw [h4, decide_eq_true (show 2 ≤ n ∧ n ≤ 130 ∧ m ≤ 8000 from ⟨h1, h2, h3⟩)]
  rfl
theorem net_true {n : Int} {m : Nat} {xs : List Int} (h : netB n m xs = true) : 2 ≤ n ∧ n ≤ 130 ∧ m ≤ 2000 ∧ edgAll n m xs = true := by
  unfold netB at h
  simp only [Bool.and_eq_true, decide_eq_true_eq] at h
  exact ⟨h.1.1, h.1.2.1, h.1.2.2, h.2⟩
theorem netW_of {n : Int} {m : Nat} {xs : List Int} (h : netB n m xs = true) : netW n m xs = true := by
  obtain ⟨h1, h2, h3, h4⟩ := net_true h
  exact netW_mk h1 h2 (by omega) h4

set_option maxHeartbeats 400000 in
theorem c_isNode (n x : Int) (w : World) : Calls Try.prog 113 #[.int .i64 n, .int .i64 x] w fun e w' => e = .returned (.bool (decide (0 ≤ x ∧ x < n))) ∧ w = w' := by
  by_cases h1 : 0 ≤ x
  · by_cases h2 : x < n
    all_goals
      go_enter Try.func113, Try.ntmps113
      go_wp2
      go_ret
      exact ⟨ret_bool (by simp; omega), rfl⟩
  · go_enter Try.func113, Try.ntmps113
    go_wp2
    go_ret
    exact ⟨ret_bool (by simp; omega), rfl⟩

set_option maxHeartbeats 4000000 in
theorem c_IsNetwork (n : Int) (m : Nat) (xs : List Int) (v : Value) (w : World) (hl : m ≤ 1048576) (h : SeenP w v m xs) :
    Calls Try.prog 67 #[.int .i64 n, v] w fun e w' => e = .returned (.bool (netB n m xs)) ∧ Below w.heap.size w w' := by
  obtain ⟨A, c, rfl, hm, hx, hA⟩ := h
  clear hm
  by_cases hn : 2 ≤ n ∧ n ≤ 130 ∧ m ≤ 2000
  · obtain ⟨n1, n2, n3⟩ := hn
    have E0 : Hid (∀ k : Nat, k < m → ∃ b off, A = some ⟨b, off, none⟩ ∧ b < w.heap.size ∧ ∀ j : Nat, j < m * 3 → w.cell? ⟨b, off + j, none⟩ = some (.int .i64 (xs.getD j 0))) := fun k hk => hA (by omega)
    have F1 : Hid (∀ k : Nat, k < m → edgB n (xs.getD (k * 3) 0) (xs.getD (k * 3 + 1) 0) (xs.getD (k * 3 + 2) 0) = false → netB n m xs = false) := fun k hk h => by unfold netB; rw [edgAll_false hk h, Bool.and_false]
    have F2 : Hid (EdgTo n xs m → netB n m xs = true) := fun h => by unfold netB; rw [edgAll_true h, decide_eq_true (p := 2 ≤ n ∧ n ≤ 130 ∧ m ≤ 2000) ⟨n1, n2, n3⟩]; rfl
    clear hA
    generalize netB n m xs = R at *
    have a1 : ¬ n < 2 := by omega
    have a2 : ¬ 130 < n := by omega
    have a3 : ¬ 2000 < (m : Int) := by omega
    go_enter Try.func67, Try.ntmps67
    go_wp2_with fail
    go_loopw [20] (fun i wr => ∃ k : Nat, k ≤ m ∧ i = .int .i64 k ∧ EdgTo n xs k ∧ Below w.heap.size w wr) (fun i _ => m - (intOf i).toNat)
    case atStart => exact ⟨0, Nat.zero_le _, rfl, EdgTo.zero _ _, Below.refl _ _⟩
    case round =>
      obtain ⟨k, hk, rfl, hP, hbw⟩ := hrel
      have HP := Lib.hid hP
      have HB := Lib.hid hbw
      clear hP hbw
      by_cases hlt : k < m
      · obtain ⟨b, off, rfl, hb, hc⟩ := E0.out k hlt
        have q0 : wr.cell? ⟨b, off + k * 3, none⟩ = some (.int .i64 (xs.getD (k * 3) 0)) := by rw [HB.out.cell (p := ⟨b, off + k * 3, none⟩) hb]; exact hc _ (by omega)
        have q1 : wr.cell? ⟨b, off + k * 3 + 1, none⟩ = some (.int .i64 (xs.getD (k * 3 + 1) 0)) := by rw [HB.out.cell (p := ⟨b, off + k * 3 + 1, none⟩) hb]; exact hc (k * 3 + 1) (by omega)
        have q2 : wr.cell? ⟨b, off + k * 3 + 2, none⟩ = some (.int .i64 (xs.getD (k * 3 + 2) 0)) := by rw [HB.out.cell (p := ⟨b, off + k * 3 + 2, none⟩) hb]; exact hc (k * 3 + 2) (by omega)
        have HF1 := Lib.hid (F1.out k hlt)
        have g1 : Hid (edgB n (xs.getD (k * 3) 0) (xs.getD (k * 3 + 1) 0) (xs.getD (k * 3 + 2) 0) = true → EdgTo n xs (k + 1)) := fun h => HP.out.succ h
        clear hc hb
        generalize xs.getD (k * 3) 0 = f at *
        generalize xs.getD (k * 3 + 1) 0 = t at *
        generalize xs.getD (k * 3 + 2) 0 = r at *
        have b1 : (0 : Int) ≤ (k : Int) := by omega
        have b2 : (k : Int) < (m : Int) := by omega
        have HBa : Hid (Below w.heap.size w (wr.alloc (.cells #[.int .i64 f, .int .i64 t, .int .i64 r] 60))) := HB.out.alloc HB.out.size _
        clear a1 a2 a3
        by_cases e1 : 0 ≤ f ∧ f < n
        · go_wp2_with fail
          refine (c_isNode _ _ _).mono ?_
          rintro e w2 ⟨rfl, rfl⟩
          rw [decide_eq_true e1]
          by_cases e2 : 0 ≤ t ∧ t < n
          · go_wp2_with fail
            refine (c_isNode _ _ _).mono ?_
            rintro e w2 ⟨rfl, rfl⟩
            rw [decide_eq_true e2]
            by_cases e3 : r < 0
            · have G := Lib.hid (HF1.out (edg_no (by omega)))
              go_wp2
              go_ret
              exact ⟨ret_bool G.out.symm, HBa.out⟩
            · by_cases e4 : 1000000000 < r
              · have G := Lib.hid (HF1.out (edg_no (by omega)))
                go_wp2
                go_ret
                exact ⟨ret_bool G.out.symm, HBa.out⟩
              · have G := Lib.hid (g1.out (edg_mk (by omega)))
                go_wp2
                go_roundw
                case rel => exact ⟨k + 1, by omega, by go_num, G.out, HBa.out⟩
                case measure => simp [intOf]; omega
          · have G := Lib.hid (HF1.out (edg_no (by omega)))
            go_wp2_with fail
            refine (c_isNode _ _ _).mono ?_
            rintro e w2 ⟨rfl, rfl⟩
            rw [decide_eq_false e2]
            go_wp2
            go_ret
            exact ⟨ret_bool G.out.symm, HBa.out⟩
        · have G := Lib.hid (HF1.out (edg_no (by omega)))
          go_wp2_with fail
          refine (c_isNode _ _ _).mono ?_
          rintro e w2 ⟨rfl, rfl⟩
          rw [decide_eq_false e1]
          go_wp2
          go_ret
          exact ⟨ret_bool G.out.symm, HBa.out⟩
      · obtain rfl : k = m := by omega
        have G := Lib.hid (F2.out HP.out)
        go_wp2
        go_ret
        exact ⟨ret_bool G.out.symm, HB.out⟩
  · have hB : netB n m xs = false := by unfold netB; rw [decide_eq_false hn]; rfl
    rw [hB]
    clear hB hA
    by_cases n1 : n < 2
    · go_enter Try.func67, Try.ntmps67
      go_wp2
      go_ret
      exact ⟨rfl, Below.refl _ _⟩
    · by_cases n2 : 130 < n
      · go_enter Try.func67, Try.ntmps67
        go_wp2
        go_ret
        exact ⟨rfl, Below.refl _ _⟩
      · have n3 : 2000 < (m : Int) := by omega
        go_enter Try.func67, Try.ntmps67
        go_wp2
        go_ret
        exact ⟨rfl, Below.refl _ _⟩

set_option maxHeartbeats 4000000 in
theorem c_mfGood (n : Int) (m : Nat) (xs : List Int) (v : Value) (w : World) (hl : m ≤ 1048576) (hw : -9223372036854775808 ≤ n ∧ n ≤ 9223372036854775807) (h : SeenP w v m xs) :
    Calls Try.prog 64 #[.int .i64 n, v] w fun e w' => e = .returned (.bool (netB n m xs)) ∧ Below w.heap.size w w' := by
  obtain ⟨A, c, rfl, hm, hx, hA⟩ := h
  clear hm
  have E0 : Hid (∀ k : Nat, k < m → ∃ b off, A = some ⟨b, off, none⟩ ∧ b < w.heap.size ∧ ∀ j : Nat, j < m * 3 → w.cell? ⟨b, off + j, none⟩ = some (.int .i64 (xs.getD j 0))) := fun k hk => hA (by omega)
  have F1 : Hid (∀ k : Nat, k < m → edgB n (xs.getD (k * 3) 0) (xs.getD (k * 3 + 1) 0) (xs.getD (k * 3 + 2) 0) = false → netB n m xs = false) := fun k hk h => by unfold netB; rw [edgAll_false hk h, Bool.and_false]
  have F2 : Hid (EdgTo n xs m → netB n m xs = decide (2 ≤ n ∧ n ≤ 130 ∧ m ≤ 2000)) := fun h => by unfold netB; rw [edgAll_true h, Bool.and_true]
  have F3 : Hid (¬ (2 ≤ n ∧ n ≤ 130) → netB n m xs = false) := fun h => by unfold netB; rw [decide_eq_false (by omega)]; rfl
  clear hA
  generalize netB n m xs = R at *
  obtain ⟨n1, hn1, hn2⟩ : ∃ n1 : Int, IntKind.i64.wrap (n - 1) = n1 ∧ (2 ≤ n ∧ n ≤ 130 → n1 = n - 1) := ⟨_, rfl, fun h => IntWalk.i64_in _ (by omega)⟩
  have HN2 := Lib.hid hn2
  clear hn2 hw
  go_enter Try.func64, Try.ntmps64
  go_wp2_with fail
  go_loopw [9] (fun i wr => ∃ k : Nat, k ≤ m ∧ i = .int .i64 k ∧ (2 ≤ n ∧ n ≤ 130 → EdgTo n xs k) ∧ Below w.heap.size w wr) (fun i _ => m - (intOf i).toNat)
  case atStart => exact ⟨0, Nat.zero_le _, rfl, fun _ => EdgTo.zero _ _, Below.refl _ _⟩
  case round =>
    obtain ⟨k, hk, rfl, hP, hbw⟩ := hrel
    have HP : Hid (2 ≤ n ∧ n ≤ 130 → EdgTo n xs k) := hP
    have HB := Lib.hid hbw
    clear hP hbw
    by_cases hlt : k < m
    · obtain ⟨b, off, rfl, hb, hc⟩ := E0.out k hlt
      have q0 : wr.cell? ⟨b, off + k * 3, none⟩ = some (.int .i64 (xs.getD (k * 3) 0)) := by rw [HB.out.cell (p := ⟨b, off + k * 3, none⟩) hb]; exact hc _ (by omega)
      have q1 : wr.cell? ⟨b, off + k * 3 + 1, none⟩ = some (.int .i64 (xs.getD (k * 3 + 1) 0)) := by rw [HB.out.cell (p := ⟨b, off + k * 3 + 1, none⟩) hb]; exact hc (k * 3 + 1) (by omega)
      have q2 : wr.cell? ⟨b, off + k * 3 + 2, none⟩ = some (.int .i64 (xs.getD (k * 3 + 2) 0)) := by rw [HB.out.cell (p := ⟨b, off + k * 3 + 2, none⟩) hb]; exact hc (k * 3 + 2) (by omega)
      have HF1 := Lib.hid (F1.out k hlt)
      have g1 : Hid (edgB n (xs.getD (k * 3) 0) (xs.getD (k * 3 + 1) 0) (xs.getD (k * 3 + 2) 0) = true → (2 ≤ n ∧ n ≤ 130 → EdgTo n xs (k + 1))) := fun h h' => (HP.out h').succ h
      clear hc hb
      generalize xs.getD (k * 3) 0 = f at *
      generalize xs.getD (k * 3 + 1) 0 = t at *
      generalize xs.getD (k * 3 + 2) 0 = r at *
      have K1 : Hid (¬ (0 ≤ f ∧ f ≤ n1) → R = false) := fun h => by
        by_cases hg : 2 ≤ n ∧ n ≤ 130
        · have := HN2.out hg
          exact HF1.out (edg_no (by omega))
        · exact F3.out hg
      have K2 : Hid (¬ (0 ≤ t ∧ t ≤ n1) → R = false) := fun h => by
        by_cases hg : 2 ≤ n ∧ n ≤ 130
        · have := HN2.out hg
          exact HF1.out (edg_no (by omega))
        · exact F3.out hg
      have K3 : Hid (¬ (0 ≤ r ∧ r ≤ 1000000000) → R = false) := fun h => HF1.out (edg_no (by omega))
      have K4 : Hid ((0 ≤ f ∧ f ≤ n1) → (0 ≤ t ∧ t ≤ n1) → (0 ≤ r ∧ r ≤ 1000000000) → (2 ≤ n ∧ n ≤ 130 → EdgTo n xs (k + 1))) := fun h1 h2 h3 hg => by
        have := HN2.out hg
        exact g1.out (edg_mk (by omega)) hg
      clear g1 HF1
      have b1 : (0 : Int) ≤ (k : Int) := by omega
      have b2 : (k : Int) < (m : Int) := by omega
      have HBa : Hid (Below w.heap.size w (wr.alloc (.cells #[.int .i64 f, .int .i64 t, .int .i64 r] 60))) := HB.out.alloc HB.out.size _
      by_cases e1 : 0 ≤ f ∧ f ≤ n1
      · have E1 := Lib.hid e1
        go_wp2_with fail
        refine (c_l1In _ _ _ _).mono ?_
        rintro e w2 ⟨rfl, rfl⟩
        rw [decide_eq_true E1.out]
        clear e1
        by_cases e2 : 0 ≤ t ∧ t ≤ n1
        · have E2 := Lib.hid e2
          go_wp2_with fail
          refine (c_l1In _ _ _ _).mono ?_
          rintro e w2 ⟨rfl, rfl⟩
          rw [decide_eq_true E2.out]
          clear e2
          by_cases e3 : 0 ≤ r ∧ r ≤ 1000000000
          · have E3 := Lib.hid e3
            have G := Lib.hid (K4.out E1.out E2.out E3.out)
            go_wp2_with fail
            refine (c_l1In _ _ _ _).mono ?_
            rintro e w2 ⟨rfl, rfl⟩
            rw [decide_eq_true E3.out]
            clear e3
            go_wp2
            go_roundw
            case rel => exact ⟨k + 1, by omega, by go_num, G.out, HBa.out⟩
            case measure => simp [intOf]; omega
          · have G := Lib.hid (K3.out e3)
            have E3 := Lib.hid e3
            clear e3
            go_wp2_with fail
            refine (c_l1In _ _ _ _).mono ?_
            rintro e w2 ⟨rfl, rfl⟩
            rw [decide_eq_false E3.out]
            go_wp2
            go_ret
            exact ⟨ret_bool G.out.symm, HBa.out⟩
        · have G := Lib.hid (K2.out e2)
          have E2 := Lib.hid e2
          clear e2
          go_wp2_with fail
          refine (c_l1In _ _ _ _).mono ?_
          rintro e w2 ⟨rfl, rfl⟩
          rw [decide_eq_false E2.out]
          go_wp2
          go_ret
          exact ⟨ret_bool G.out.symm, HBa.out⟩
      · have G := Lib.hid (K1.out e1)
        have E1 := Lib.hid e1
        clear e1
        go_wp2_with fail
        refine (c_l1In _ _ _ _).mono ?_
        rintro e w2 ⟨rfl, rfl⟩
        rw [decide_eq_false E1.out]
        go_wp2
        go_ret
        exact ⟨ret_bool G.out.symm, HBa.out⟩
    · obtain rfl : k = m := by omega
      by_cases hg : 2 ≤ n ∧ n ≤ 130
      · have G := Lib.hid (F2.out (HP.out hg))
        have HG := Lib.hid hg
        by_cases h3 : (k : Int) ≤ 2000
        · have G2 : Hid (R = true) := by rw [Hid, G.out]; exact decide_eq_true (by omega)
          clear hg
          go_wp2_with fail
          refine (c_l1In _ _ _ _).mono ?_
          rintro e w2 ⟨rfl, rfl⟩
          rw [decide_eq_true HG.out]
          go_wp2
          go_ret
          exact ⟨ret_bool G2.out.symm, HB.out⟩
        · have G2 : Hid (R = false) := by rw [Hid, G.out]; exact decide_eq_false (by omega)
          clear hg
          go_wp2_with fail
          refine (c_l1In _ _ _ _).mono ?_
          rintro e w2 ⟨rfl, rfl⟩
          rw [decide_eq_true HG.out]
          go_wp2
          go_ret
          exact ⟨ret_bool (by rw [G2.out]; exact decide_eq_false (by omega)), HB.out⟩
      · have G := Lib.hid (F3.out hg)
        have HG := Lib.hid hg
        clear hg
        go_wp2_with fail
        refine (c_l1In _ _ _ _).mono ?_
        rintro e w2 ⟨rfl, rfl⟩
        rw [decide_eq_false HG.out]
        go_wp2
        go_ret
        exact ⟨ret_bool G.out.symm, HB.out⟩

end Go.Proofs.Ytgboedfnkkckkaa
