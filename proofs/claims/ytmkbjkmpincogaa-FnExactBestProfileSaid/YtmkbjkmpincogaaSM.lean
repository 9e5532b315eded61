/-
  Contracts: the part of a row for the depths beside a depth.
-/
import Derived.Test.YtmkbjkmpincogaaSD
import Derived.BigRegion
namespace Go.Proofs.Ytmkbjkmpincogaa
open Go.RowKit
set_option linter.unusedVariables false

/-- The least depth beside depth d, and how many there are, of len. -/
def loN (d : Nat) : Nat := d - 1
def cnN (d len : Nat) : Nat := min (d + 2) len - (d - 1)
theorem near_facts {d len : Nat} (h : d < len) : 1 ≤ cnN d len ∧ loN d + cnN d len ≤ len ∧ cnN d len ≤ 3 ∧ loN d ≤ d ∧ d < loN d + cnN d len := by
  unfold loN cnN
  omega

set_option maxHeartbeats 1000000 in
theorem c_nearDepths (b off len c d : Nat) (w : World) (h : d ≤ len) (h0 : 1 ≤ len) (hc : len ≤ c) (hm : c ≤ 9223372036854775807) (hlen : len ≤ 1000000) :
    Calls Try.prog 66 #[.slice (some ⟨b, off, none⟩) len c, .int .i64 d] w fun e w' => e = .returned (.tuple #[.int .i64 (loN d), .slice (some ⟨b, off + loN d, none⟩) (cnN d len) (cnN d len)]) ∧ Below w.heap.size w w' := by
  have X1 : Hid (∀ L K : Nat, loN d = L → cnN d len = K → (Ending.returned (.tuple #[.int .i64 (L : Int), .slice (some ⟨b, off + L, none⟩) K K]) = .returned (.tuple #[.int .i64 (loN d), .slice (some ⟨b, off + loN d, none⟩) (cnN d len) (cnN d len)]))) := fun L K h1 h2 => by rw [h1, h2]
  obtain ⟨R, hR⟩ : ∃ R, Ending.returned (.tuple #[.int .i64 (loN d), .slice (some ⟨b, off + loN d, none⟩) (cnN d len) (cnN d len)]) = R := ⟨_, rfl⟩
  rw [hR]
  rw [hR] at X1
  have HL : Hid (loN d = d - 1) := rfl
  have HK : Hid (cnN d len = min (d + 2) len - (d - 1)) := rfl
  clear hR
  by_cases d0 : d = 0
  · subst d0
    by_cases l1 : len = 0 + 1
    · obtain rfl : len = 0 + 1 := by omega
      have c2 : (0 : Int) + 1 ≤ (c : Int) := by omega
      have c3 : (c : Int) ≤ 9223372036854775807 := by omega
      have X := Lib.hid (X1.out (0) 1 (by rw [HL.out] <;> omega) (by rw [HK.out] <;> omega))
      clear X1 HL HK
      go_enter Try.func66, Try.ntmps66
      go_wp2_with fail
      go_region
      go_wp2
      go_ret2
      exact ⟨Eq.trans (by first | rfl | (simp <;> omega)) X.out, by first | exact (Below.refl _ _).drew | exact Below.refl _ _⟩
    by_cases l2 : len = 0 + 2
    · obtain rfl : len = 0 + 2 := by omega
      have c2 : (0 : Int) + 2 ≤ (c : Int) := by omega
      have c3 : (c : Int) ≤ 9223372036854775807 := by omega
      have X := Lib.hid (X1.out (0) 2 (by rw [HL.out] <;> omega) (by rw [HK.out] <;> omega))
      clear X1 HL HK
      go_enter Try.func66, Try.ntmps66
      go_wp2_with fail
      go_region
      go_wp2
      go_ret2
      exact ⟨Eq.trans (by first | rfl | (simp <;> omega)) X.out, by first | exact (Below.refl _ _).drew | exact Below.refl _ _⟩
    have c1 : (0 : Int) + 2 < (len : Int) := by omega
    have c2 : (0 : Int) + 2 ≤ (c : Int) := by omega
    have c3 : (c : Int) ≤ 9223372036854775807 := by omega
    have X := Lib.hid (X1.out (0) 2 (by rw [HL.out] <;> omega) (by rw [HK.out] <;> omega))
    clear X1 HL HK
    go_enter Try.func66, Try.ntmps66
    go_wp2_with fail
    go_region
    go_wp2
    go_ret2
    exact ⟨Eq.trans (by first | rfl | (simp <;> omega)) X.out, by first | exact (Below.refl _ _).drew | exact Below.refl _ _⟩
  by_cases d1 : d = 1
  · subst d1
    by_cases lz : len = 1
    · obtain rfl : len = 1 := by omega
      have c2 : (1 : Int) ≤ (c : Int) := by omega
      have c3 : (c : Int) ≤ 9223372036854775807 := by omega
      have X := Lib.hid (X1.out (0) 1 (by rw [HL.out] <;> omega) (by rw [HK.out] <;> omega))
      clear X1 HL HK
      go_enter Try.func66, Try.ntmps66
      go_wp2_with fail
      go_region
      go_wp2
      go_ret2
      exact ⟨Eq.trans (by first | rfl | (simp <;> omega)) X.out, by first | exact (Below.refl _ _).drew | exact Below.refl _ _⟩
    by_cases l1 : len = 1 + 1
    · obtain rfl : len = 1 + 1 := by omega
      have c2 : (1 : Int) + 1 ≤ (c : Int) := by omega
      have c3 : (c : Int) ≤ 9223372036854775807 := by omega
      have X := Lib.hid (X1.out (0) 2 (by rw [HL.out] <;> omega) (by rw [HK.out] <;> omega))
      clear X1 HL HK
      go_enter Try.func66, Try.ntmps66
      go_wp2_with fail
      go_region
      go_wp2
      go_ret2
      exact ⟨Eq.trans (by first | rfl | (simp <;> omega)) X.out, by first | exact (Below.refl _ _).drew | exact Below.refl _ _⟩
    by_cases l2 : len = 1 + 2
    · obtain rfl : len = 1 + 2 := by omega
      have c2 : (1 : Int) + 2 ≤ (c : Int) := by omega
      have c3 : (c : Int) ≤ 9223372036854775807 := by omega
      have X := Lib.hid (X1.out (0) 3 (by rw [HL.out] <;> omega) (by rw [HK.out] <;> omega))
      clear X1 HL HK
      go_enter Try.func66, Try.ntmps66
      go_wp2_with fail
      go_region
      go_wp2
      go_ret2
      exact ⟨Eq.trans (by first | rfl | (simp <;> omega)) X.out, by first | exact (Below.refl _ _).drew | exact Below.refl _ _⟩
    have c1 : (1 : Int) + 2 < (len : Int) := by omega
    have c2 : (1 : Int) + 2 ≤ (c : Int) := by omega
    have c3 : (c : Int) ≤ 9223372036854775807 := by omega
    have X := Lib.hid (X1.out (0) 3 (by rw [HL.out] <;> omega) (by rw [HK.out] <;> omega))
    clear X1 HL HK
    go_enter Try.func66, Try.ntmps66
    go_wp2_with fail
    go_region
    go_wp2
    go_ret2
    exact ⟨Eq.trans (by first | rfl | (simp <;> omega)) X.out, by first | exact (Below.refl _ _).drew | exact Below.refl _ _⟩
  obtain ⟨k, rfl⟩ : ∃ k, d = k + 2 := ⟨d - 2, by omega⟩
  by_cases lz : len = k + 2
  · obtain rfl : len = k + 2 := by omega
    have c2 : (k : Int) + 2 ≤ (c : Int) := by omega
    have c3 : (c : Int) ≤ 9223372036854775807 := by omega
    have c4 : (k : Int) ≤ 1000000 := by omega
    have c5 : (0 : Int) ≤ (k : Int) := by omega
    have X := Lib.hid (X1.out (k + 1) 1 (by rw [HL.out] <;> omega) (by rw [HK.out] <;> omega))
    clear X1 HL HK
    go_enter Try.func66, Try.ntmps66
    go_wp2_with fail
    go_region
    go_wp2
    go_ret2
    exact ⟨Eq.trans (by first | rfl | (simp <;> omega)) X.out, by first | exact (Below.refl _ _).drew | exact Below.refl _ _⟩
  by_cases l1 : len = k + 2 + 1
  · obtain rfl : len = k + 2 + 1 := by omega
    have c2 : (k : Int) + 2 + 1 ≤ (c : Int) := by omega
    have c3 : (c : Int) ≤ 9223372036854775807 := by omega
    have c4 : (k : Int) ≤ 1000000 := by omega
    have c5 : (0 : Int) ≤ (k : Int) := by omega
    have X := Lib.hid (X1.out (k + 1) 2 (by rw [HL.out] <;> omega) (by rw [HK.out] <;> omega))
    clear X1 HL HK
    go_enter Try.func66, Try.ntmps66
    go_wp2_with fail
    go_region
    go_wp2
    go_ret2
    exact ⟨Eq.trans (by first | rfl | (simp <;> omega)) X.out, by first | exact (Below.refl _ _).drew | exact Below.refl _ _⟩
  by_cases l2 : len = k + 2 + 2
  · obtain rfl : len = k + 2 + 2 := by omega
    have c2 : (k : Int) + 2 + 2 ≤ (c : Int) := by omega
    have c3 : (c : Int) ≤ 9223372036854775807 := by omega
    have c4 : (k : Int) ≤ 1000000 := by omega
    have c5 : (0 : Int) ≤ (k : Int) := by omega
    have X := Lib.hid (X1.out (k + 1) 3 (by rw [HL.out] <;> omega) (by rw [HK.out] <;> omega))
    clear X1 HL HK
    go_enter Try.func66, Try.ntmps66
    go_wp2_with fail
    go_region
    go_wp2
    go_ret2
    exact ⟨Eq.trans (by first | rfl | (simp <;> omega)) X.out, by first | exact (Below.refl _ _).drew | exact Below.refl _ _⟩
  have c1 : (k : Int) + 2 + 2 < (len : Int) := by omega
  have c2 : (k : Int) + 2 + 2 ≤ (c : Int) := by omega
  have c3 : (c : Int) ≤ 9223372036854775807 := by omega
  have c4 : (k : Int) ≤ 1000000 := by omega
  have c5 : (0 : Int) ≤ (k : Int) := by omega
  have X := Lib.hid (X1.out (k + 1) 3 (by rw [HL.out] <;> omega) (by rw [HK.out] <;> omega))
  clear X1 HL HK
  go_enter Try.func66, Try.ntmps66
  go_wp2_with fail
  go_region
  go_wp2
  go_ret2
  exact ⟨Eq.trans (by first | rfl | (simp <;> omega)) X.out, by first | exact (Below.refl _ _).drew | exact Below.refl _ _⟩
end Go.Proofs.Ytmkbjkmpincogaa
