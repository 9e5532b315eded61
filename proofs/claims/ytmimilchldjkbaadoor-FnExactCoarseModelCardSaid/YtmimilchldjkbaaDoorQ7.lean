/-
  Contracts: lists of valid pieces, in the program and in the model of it.
-/
import Derived.Test.YtmimilchldjkbaaDoorQ6
namespace Go.Proofs.YtmimilchldjkbaaDoor
open Go.RowKit
set_option linter.unusedVariables false

/-- The first k pieces are valid. -/
def PieTo (xs : List Int) (k : Nat) : Prop := ∀ j : Nat, j < k → pieB (xs.getD (j * 3) 0) (xs.getD (j * 3 + 1) 0) (xs.getD (j * 3 + 2) 0) = true
def pieAll (n : Nat) (xs : List Int) : Bool := (List.range n).all fun j => pieB (xs.getD (j * 3) 0) (xs.getD (j * 3 + 1) 0) (xs.getD (j * 3 + 2) 0)
theorem pieAll_true {n : Nat} {xs : List Int} (h : PieTo xs n) : pieAll n xs = true := by
  unfold pieAll
  rw [List.all_eq_true]
  exact fun j hj => h j (List.mem_range.1 hj)
theorem pieAll_false {n : Nat} {xs : List Int} {k : Nat} (hk : k < n) (h : pieB (xs.getD (k * 3) 0) (xs.getD (k * 3 + 1) 0) (xs.getD (k * 3 + 2) 0) = false) : pieAll n xs = false := by
  unfold pieAll
  rw [List.all_eq_false]
  exact ⟨k, List.mem_range.2 hk, by show ¬ pieB _ _ _ = true; rw [h]; simp⟩
theorem pieAll_at {n : Nat} {xs : List Int} (h : pieAll n xs = true) {k : Nat} (hk : k < n) : pieB (xs.getD (k * 3) 0) (xs.getD (k * 3 + 1) 0) (xs.getD (k * 3 + 2) 0) = true := by
  unfold pieAll at h
  rw [List.all_eq_true] at h
  exact h k (List.mem_range.2 hk)
theorem PieTo.zero (xs : List Int) : PieTo xs 0 := fun j hj => by omega
theorem PieTo.succ {xs : List Int} {k : Nat} (h : PieTo xs k) (hk : pieB (xs.getD (k * 3) 0) (xs.getD (k * 3 + 1) 0) (xs.getD (k * 3 + 2) 0) = true) : PieTo xs (k + 1) := fun j hj => by
  by_cases e : j = k
  · rw [e]; exact hk
  · exact h j (by omega)
/-- 1 to 20 valid pieces. -/
def piesB (n : Nat) (xs : List Int) : Bool := decide (1 ≤ n ∧ n ≤ 20) && pieAll n xs
theorem pies_true {n : Nat} {xs : List Int} (h : piesB n xs = true) : 1 ≤ n ∧ n ≤ 20 ∧ pieAll n xs = true := by
  unfold piesB at h
  simp only [Bool.and_eq_true, decide_eq_true_eq] at h
  exact ⟨h.1.1, h.1.2, h.2⟩

set_option maxHeartbeats 2000000 in
theorem c_arePieces (n : Nat) (xs : List Int) (v : Value) (w : World) (hl : n ≤ 1048576) (h : SeenP w v n xs) :
    Calls Tryd.prog 113 #[v] w fun e w' => e = .returned (.bool (piesB n xs)) ∧ Below w.heap.size w w' := by
  obtain ⟨A, c, rfl, hm, hx, hA⟩ := h
  clear hm
  by_cases hn : 1 ≤ n ∧ n ≤ 20
  · obtain ⟨n1, n2⟩ := hn
    obtain ⟨b, off, rfl, hb, hc⟩ := hA (by omega)
    have E1 : Hid (∀ j : Nat, j < n * 3 → w.cell? ⟨b, off + j, none⟩ = some (.int .i64 (xs.getD j 0))) := hc
    have F1 : Hid (∀ k : Nat, k < n → pieB (xs.getD (k * 3) 0) (xs.getD (k * 3 + 1) 0) (xs.getD (k * 3 + 2) 0) = false → piesB n xs = false) := fun k hk h => by unfold piesB; rw [pieAll_false hk h, Bool.and_false]
    have F2 : Hid (PieTo xs n → piesB n xs = true) := fun h => by unfold piesB; rw [pieAll_true h, decide_eq_true (p := 1 ≤ n ∧ n ≤ 20) ⟨n1, n2⟩]; rfl
    clear hA hc
    generalize piesB n xs = R at *
    have a1 : ¬ (n : Int) < 1 := by omega
    have a2 : ¬ 20 < (n : Int) := by omega
    go_enter Tryd.func113, Tryd.ntmps113
    go_wp2_with fail
    go_loopw [15] (fun i wr => ∃ k : Nat, k ≤ n ∧ i = .int .i64 k ∧ PieTo xs k ∧ Below w.heap.size w wr) (fun i _ => n - (intOf i).toNat)
    case atStart => exact ⟨0, Nat.zero_le _, rfl, PieTo.zero _, Below.refl _ _⟩
    case round =>
      obtain ⟨k, hk, rfl, hP, hbw⟩ := hrel
      have HP := Lib.hid hP
      have HB := Lib.hid hbw
      clear hP hbw
      by_cases hlt : k < n
      · have q0 : wr.cell? ⟨b, off + k * 3, none⟩ = some (.int .i64 (xs.getD (k * 3) 0)) := by rw [HB.out.cell (p := ⟨b, off + k * 3, none⟩) hb]; exact E1.out _ (by omega)
        have q1 : wr.cell? ⟨b, off + k * 3 + 1, none⟩ = some (.int .i64 (xs.getD (k * 3 + 1) 0)) := by rw [HB.out.cell (p := ⟨b, off + k * 3 + 1, none⟩) hb]; exact E1.out (k * 3 + 1) (by omega)
        have q2 : wr.cell? ⟨b, off + k * 3 + 2, none⟩ = some (.int .i64 (xs.getD (k * 3 + 2) 0)) := by rw [HB.out.cell (p := ⟨b, off + k * 3 + 2, none⟩) hb]; exact E1.out (k * 3 + 2) (by omega)
        have f1 := F1.out k hlt
        have g1 : Hid (pieB (xs.getD (k * 3) 0) (xs.getD (k * 3 + 1) 0) (xs.getD (k * 3 + 2) 0) = true → PieTo xs (k + 1)) := fun h => HP.out.succ h
        generalize xs.getD (k * 3) 0 = t at *
        generalize xs.getD (k * 3 + 1) 0 = m at *
        generalize xs.getD (k * 3 + 2) 0 = r at *
        have HF1 := Lib.hid f1
        clear f1
        have b1 : (0 : Int) ≤ (k : Int) := by omega
        have b2 : (k : Int) < (n : Int) := by omega
        have HBa : Hid (Below w.heap.size w (wr.alloc (.cells #[.int .i64 t, .int .i64 m, .int .i64 r] 105))) := HB.out.alloc HB.out.size _
        go_wp2_with fail
        refine (c_IsPiece _ _ _ _).mono ?_
        rintro e w2 ⟨rfl, hb2⟩
        have HB2 : Hid (Below w.heap.size w w2) := HBa.out.trans (hb2.mono HBa.out.size)
        clear hb2
        cases hp : pieB t m r
        · have G := Lib.hid (HF1.out hp)
          clear hp
          go_wp2
          go_ret
          exact ⟨ret_bool G.out.symm, HB2.out⟩
        · have G := Lib.hid (g1.out hp)
          clear hp
          go_wp2
          go_roundw
          case rel => exact ⟨k + 1, by omega, by go_num, G.out, HB2.out⟩
          case measure => simp [intOf]; omega
      · obtain rfl : k = n := by omega
        have G := Lib.hid (F2.out HP.out)
        go_wp2
        go_ret
        exact ⟨ret_bool G.out.symm, HB.out⟩
  · have hB : piesB n xs = false := by unfold piesB; rw [decide_eq_false hn]; rfl
    rw [hB]
    clear hB hA
    by_cases n1 : (n : Int) < 1
    · go_enter Tryd.func113, Tryd.ntmps113
      go_wp2
      go_ret
      exact ⟨rfl, Below.refl _ _⟩
    · have n2 : 20 < (n : Int) := by omega
      go_enter Tryd.func113, Tryd.ntmps113
      go_wp2
      go_ret
      exact ⟨rfl, Below.refl _ _⟩

end Go.Proofs.YtmimilchldjkbaaDoor
