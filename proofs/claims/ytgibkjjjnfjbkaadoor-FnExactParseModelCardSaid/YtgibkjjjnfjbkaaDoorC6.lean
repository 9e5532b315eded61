/-
  Contracts of the law's own helpers over rows of integers: two rows compared, a row marked, a row found as it was marked.
-/
import Derived.Test.YtgibkjjjnfjbkaaDoorC4
import Derived.Test.YtgibkjjjnfjbkaaDoorRow
import Derived.Lib.Hide
namespace Go.Proofs.YtgibkjjjnfjbkaaDoor
open Go.RowKit

theorem Row.draws {w : World} {B : Nat} {v : Value} {xs : List Int} (h : Row w B v xs) (n : Nat) : Row (w.drewN n) B v xs := h
theorem grow_below {a w : World} (h : Below a.heap.size a w) (row : Option Nat) : a.grownBy w row := ⟨h.os, h.tape, h.output, h.size, fun k hk _ => h.block k hk⟩

set_option maxHeartbeats 40000000 in
theorem c_eqIntS (xs : List Int) (v1 v2 : Value) (B1 B2 : Nat) (w : World) (hl : xs.length ≤ 4000000) (h1 : Row w B1 v1 xs) (h2 : Row w B2 v2 xs) :
    Calls Tryd.prog 17 #[v1, v2] w fun e w' => e = .returned (.bool true) ∧ Below w.heap.size w w' := by
  by_cases h0 : xs.length = 0
  · obtain ⟨A1, c1, rfl⟩ := h1.shape
    obtain ⟨A2, c2, rfl⟩ := h2.shape
    rw [h0]
    clear h1 h2 h0 hl
    go_enter Tryd.func17, Tryd.ntmps17
    go_wp2
    go_rounds 1
    go_ret
    exact ⟨rfl, Below.refl _ _⟩
  · obtain ⟨g1, c1, rfl, _, _⟩ := h1.form (by omega)
    obtain ⟨g2, c2, rfl, _, _⟩ := h2.form (by omega)
    have e1 := h1.cell
    have e2 := h2.cell
    have hne : ((xs.length : Int) != (xs.length : Int)) = false := by simp
    clear h1 h2 h0
    have E1 : Hid (∀ k : Nat, k < xs.length → w.cell? ⟨g1, k, none⟩ = some (.int .i64 (xs.getD k 0))) := e1
    have E2 : Hid (∀ k : Nat, k < xs.length → w.cell? ⟨g2, k, none⟩ = some (.int .i64 (xs.getD k 0))) := e2
    clear e1 e2
    generalize xs.length = n at *
    go_enter Tryd.func17, Tryd.ntmps17
    go_wp2
    go_loopw [5] (fun i wr => ∃ k : Nat, k ≤ n ∧ i = .int .i64 k ∧ ∃ m, wr = w.drewN m) (fun i _ => n - (intOf i).toNat)
    case atStart => exact ⟨0, Nat.zero_le _, rfl, 0, rfl⟩
    case round =>
      obtain ⟨k, hk, rfl, m, rfl⟩ := hrel
      by_cases hlt : k < n
      · have q1 := E1.out k hlt
        have q2 := E2.out k hlt
        generalize xs.getD k 0 = t at q1 q2
        have ht : (t != t) = false := by simp
        have b1 : (0 : Int) ≤ (k : Int) := by omega
        have b2 : (k : Int) < (n : Int) := by omega
        go_wp2
        go_quiet (fail)
        go_wp2
        go_roundw
        case rel => exact ⟨k + 1, by omega, by go_num, _, rfl⟩
        case measure => simp [intOf]; omega
      · go_wp2
        go_ret
        exact ⟨rfl, below_draws (Below.refl _ _) _⟩

/-- Behind marking: the row holds k0, k0 + 1, ..; nothing else that was there has turned. -/
def Marks (w : World) (B : Nat) (v : Value) (n : Nat) (k0 : Int) (e : Ending) (w' : World) : Prop :=
  e = .returned (.int .i64 (k0 + n)) ∧ Row w' B v (marks k0 n) ∧ w.grownBy w' v.ownBlock

theorem Row.set_ {w : World} {B g c n : Nat} {xs : List Int} (hn : n = xs.length) (h : Row w B (.slice (some ⟨g, 0, none⟩) n c) xs) (j : Nat) (u : Int) :
    Row (w.setCell ⟨g, j, none⟩ (.int .i64 u)) B (.slice (some ⟨g, 0, none⟩) n c) (xs.set j u) ∧ w.grownBy (w.setCell ⟨g, j, none⟩ (.int .i64 u)) (some g) := by
  subst hn
  have := World.ownsRow.stored h j (.int .i64 u)
  refine ⟨?_, this.2⟩
  unfold Row
  rw [List.length_set, show ints (xs.set j u) = (ints xs).set j (.int .i64 u) by simp [ints, List.map_set]]
  exact this.1

set_option maxHeartbeats 40000000 in
theorem c_markIntS (xs : List Int) (v : Value) (B : Nat) (k0 : Int) (w : World) (hl : xs.length ≤ 4000000) (hk1 : 0 ≤ k0) (hk2 : k0 ≤ 4000000) (h : Row w B v xs) :
    Calls Tryd.prog 18 #[v, .int .i64 k0] w (Marks w B v xs.length k0) := by
  by_cases h0 : xs.length = 0
  · obtain rfl : xs = [] := List.eq_nil_of_length_eq_zero h0
    obtain ⟨A1, c1, rfl⟩ := h.shape
    have H := Lib.hid h
    clear h
    simp only [List.length_nil]
    go_enter Tryd.func18, Tryd.ntmps18
    go_wp2
    go_rounds 1
    go_ret
    exact ⟨ret_int (by simp), H.out, World.grownBy.refl _ _⟩
  · obtain ⟨g, c, rfl, _, _⟩ := h.form (by omega)
    have H0 : Hid (Row w B (.slice (some ⟨g, 0, none⟩) xs.length c) (marked k0 xs 0)) := by rw [marked_zero]; exact h
    clear h
    have HL : Hid (∀ j, j ≤ xs.length → (marked k0 xs j).length = xs.length) := marked_len k0 xs
    have HS : Hid (∀ j, j < xs.length → (marked k0 xs j).set j (k0 + j) = marked k0 xs (j + 1)) := marked_set k0 xs
    have HA : Hid (marked k0 xs xs.length = marks k0 xs.length) := marked_all k0 xs
    generalize hM : marked k0 xs = M at *
    clear hM
    generalize xs.length = n at *
    clear xs
    go_enter Tryd.func18, Tryd.ntmps18
    go_wp2
    go_loopw [1, 5] (fun q i wr => ∃ k : Nat, k ≤ n ∧ i = .int .i64 k ∧ q = .int .i64 (k0 + k) ∧ Row wr B (.slice (some ⟨g, 0, none⟩) n c) (M k) ∧ w.grownBy wr (some g)) (fun _ i _ => n - (intOf i).toNat)
    case atStart => exact ⟨0, Nat.zero_le _, rfl, by simp, H0.out, World.grownBy.refl _ _⟩
    case round =>
      obtain ⟨k, hk, rfl, rfl, hr, hg⟩ := hrel
      have HR := Lib.hid hr
      have HG := Lib.hid hg
      clear hr hg
      by_cases hlt : k < n
      · have hkl : k < (M k).length := by rw [HL.out k hk]; exact hlt
        have q1 : wr.cell? ⟨g, k, none⟩ = some (.int .i64 ((M k).getD k 0)) := by
          have hr := HR.out
          rw [← HL.out k hk] at hr
          exact hr.cell k hkl
        have q2 : wr.frozen? ⟨g, k, none⟩ = false := by
          have hr := HR.out
          rw [← HL.out k hk] at hr
          exact hr.frozen k
        generalize (M k).getD k 0 = t at q1
        have b1 : (0 : Int) ≤ (k : Int) := by omega
        have b2 : (k : Int) < (n : Int) := by omega
        have N1 : Hid (Row (wr.setCell ⟨g, k, none⟩ (.int .i64 (k0 + k))) B (.slice (some ⟨g, 0, none⟩) n c) (M (k + 1)) ∧ wr.grownBy (wr.setCell ⟨g, k, none⟩ (.int .i64 (k0 + k))) (some g)) := by
          have := Row.set_ (HL.out k hk).symm HR.out k (k0 + k)
          rw [HS.out k hlt] at this
          exact this
        clear hkl
        go_wp2
        go_roundw
        case rel => exact ⟨k + 1, by omega, by go_num, by rw [show (k0 + (k : Int) + 1) = k0 + ((k + 1 : Nat) : Int) by omega], N1.out.1, HG.out.trans N1.out.2⟩
        case measure => simp [intOf]; omega
      · obtain rfl : k = n := by omega
        go_wp2
        go_ret
        exact ⟨rfl, by rw [← HA.out]; exact HR.out, HG.out⟩

set_option maxHeartbeats 40000000 in
theorem c_heldIntS (v : Value) (B n : Nat) (k0 : Int) (w : World) (hl : n ≤ 4000000) (hk1 : 0 ≤ k0) (hk2 : k0 ≤ 4000000) (h : Row w B v (marks k0 n)) :
    Calls Tryd.prog 19 #[v, .int .i64 k0] w fun e w' => e = .returned (.int .i64 (k0 + n)) ∧ w = w' := by
  have hlen := marks_len k0 n
  by_cases h0 : n = 0
  · subst h0
    obtain ⟨A1, c1, rfl⟩ := h.shape
    rw [hlen]
    clear h hlen
    go_enter Tryd.func19, Tryd.ntmps19
    go_wp2
    go_rounds 1
    go_ret
    exact ⟨ret_int (by simp), rfl⟩
  · obtain ⟨g, c, rfl, _, _⟩ := h.form (by omega)
    have E1 : Hid (∀ k : Nat, k < n → w.cell? ⟨g, k, none⟩ = some (.int .i64 (k0 + k))) := by
      intro k hk
      rw [h.cell k (by omega), marks_getD _ _ _ hk]
    rw [hlen]
    clear h hlen h0
    go_enter Tryd.func19, Tryd.ntmps19
    go_wp2
    go_loop [1, 5] (fun q i => ∃ k : Nat, k ≤ n ∧ i = .int .i64 k ∧ q = .int .i64 (k0 + k)) (fun _ i => n - (intOf i).toNat)
    case atStart => exact ⟨0, Nat.zero_le _, rfl, by simp⟩
    case round =>
      obtain ⟨k, hk, rfl, rfl⟩ := hrel
      by_cases hlt : k < n
      · have q1 := E1.out k hlt
        have ht : (k0 + (k : Int) != k0 + (k : Int)) = false := by simp
        have b1 : (0 : Int) ≤ (k : Int) := by omega
        have b2 : (k : Int) < (n : Int) := by omega
        go_wp2
        go_round
        case rel => exact ⟨k + 1, by omega, by go_num, by rw [show (k0 + (k : Int) + 1) = k0 + ((k + 1 : Nat) : Int) by omega]⟩
        case measure => simp [intOf]; omega
      · obtain rfl : k = n := by omega
        go_wp2
        go_ret
        exact ⟨rfl, rfl⟩
end Go.Proofs.YtgibkjjjnfjbkaaDoor
