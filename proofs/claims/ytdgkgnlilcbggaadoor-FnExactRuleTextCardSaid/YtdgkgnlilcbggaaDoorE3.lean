/-
  Contracts: the number of parts that the last part of a list is made of.
-/
import Derived.Test.YtdgkgnlilcbggaaDoorE2
import Derived.Lib.Hide
namespace Go.Proofs.YtdgkgnlilcbggaaDoor
open Go.RowKit
set_option linter.unusedVariables false

/-- Behind z parts, from place e back, nothing is missing for the first time; 0: never, within len parts. -/
def LastIs (ks : Nat → Int) (e len z : Nat) : Prop :=
  (z = 0 ∧ ∀ t, 0 < t → t ≤ len → mis ks e t ≠ 0) ∨ (0 < z ∧ z ≤ len ∧ mis ks e z = 0 ∧ ∀ t, 0 < t → t < z → mis ks e t ≠ 0)
theorem At.last {ks : Nat → Int} {t : Tr} {e len : Nat} (h : At ks t e) (hl : t.size ≤ len) : LastIs ks e len t.size :=
  .inr ⟨t.size_pos, hl, h.mis.1, fun s h1 h2 => by have := h.mis.2 s h2; omega⟩
theorem lastIs_ex (ks : Nat → Int) (e : Nat) : ∀ len, ∃ z, LastIs ks e len z
  | 0 => ⟨0, .inl ⟨rfl, fun t h1 h2 => by omega⟩⟩
  | len + 1 => by
    obtain ⟨z, h⟩ := lastIs_ex ks e len
    rcases h with ⟨rfl, h⟩ | ⟨h0, h1, h2, h3⟩
    · by_cases hm : mis ks e (len + 1) = 0
      · exact ⟨len + 1, .inr ⟨by omega, Nat.le_refl _, hm, fun t a b => h t a (by omega)⟩⟩
      · refine ⟨0, .inl ⟨rfl, fun t a b => ?_⟩⟩
        by_cases e : t = len + 1
        · rw [e]; exact hm
        · exact h t a (by omega)
    · exact ⟨z, .inr ⟨h0, by omega, h2, h3⟩⟩
theorem mis_box (ks : Nat → Int) (e : Nat) : ∀ s : Nat, -(s : Int) ≤ mis ks e s ∧ mis ks e s ≤ 1 + 3 * (s : Int)
  | 0 => by simp [mis]
  | s + 1 => by
    have ih := mis_box ks e s
    rw [mis]
    rcases ndK_cases (ks (e - s)) with h | h | h <;> rw [show ndA ks (e - s) = _ from h] <;> omega

set_option maxHeartbeats 2000000 in
theorem c_lastSize (ks : Nat → Int) (b o lo len c z : Nat) (w : World) (hl : len ≤ 1048576) (h0 : 0 < len) (hv : ∀ j : Nat, j < len → 0 ≤ ks (lo + j) ∧ ks (lo + j) ≤ 8)
    (hc : ∀ j : Nat, j < len → w.cell? ⟨b, o + j * 2, none⟩ = some (.int .i64 (ks (lo + j)))) (hz : LastIs ks (lo + len - 1) len z) :
    Calls Tryd.prog 20 #[.slice (some ⟨b, o, none⟩) len c] w fun e w' => e = .returned (.int .i64 z) ∧ w = w' := by
  have HV : Hid (∀ j : Nat, j < len → 0 ≤ ks (lo + j) ∧ ks (lo + j) ≤ 8) := hv
  have HC : Hid (∀ j : Nat, j < len → w.cell? ⟨b, o + j * 2, none⟩ = some (.int .i64 (ks (lo + j)))) := hc
  have HZ := Lib.hid hz
  have HM : Hid (∀ t r : Nat, len = t + 1 + r → mis ks (lo + len - 1) (t + 1) = mis ks (lo + len - 1) t + (ndK (ks (lo + r)) : Int) - 1) := fun t r h => by
    rw [mis]
    unfold ndA
    rw [show lo + len - 1 - t = lo + r by omega]
  have HB : Hid (∀ t : Nat, -(t : Int) ≤ mis ks (lo + len - 1) t ∧ mis ks (lo + len - 1) t ≤ 1 + 3 * (t : Int)) := mis_box ks _
  have HM0 : Hid (mis ks (lo + len - 1) 0 = 1) := rfl
  clear hv hc hz
  have HE : Hid (∀ t : Nat, t < len → (z = 0 ∨ t < z) → mis ks (lo + len - 1) (t + 1) = 0 → z = t + 1) := fun t ht hz h => by
    rcases HZ.out with ⟨rfl, k⟩ | ⟨k0, k1, k2, k3⟩
    · exact absurd h (k _ (by omega) (by omega))
    · by_cases e : t + 1 = z
      · exact e.symm
      · exact absurd h (k3 _ (by omega) (by omega))
  have HN : Hid (∀ t : Nat, t < len → (z = 0 ∨ t < z) → mis ks (lo + len - 1) (t + 1) ≠ 0 → (z = 0 ∨ t + 1 < z)) := fun t ht hz h => by
    rcases HZ.out with ⟨rfl, k⟩ | ⟨k0, k1, k2, k3⟩
    · exact .inl rfl
    · by_cases e : t + 1 = z
      · rw [e] at h; exact absurd k2 h
      · right; omega
  have HX : Hid ((z = 0 ∨ len < z) → z = 0) := fun h => by
    rcases HZ.out with ⟨e, k⟩ | ⟨k0, k1, k2, k3⟩
    · exact e
    · omega
  clear HZ
  generalize mis ks (lo + len - 1) = M at *
  have M0 := HM0.out
  go_enter Tryd.func20, Tryd.ntmps20
  go_wp2_with fail
  go_loop [3, 4] (fun q s => ∃ t : Nat, t ≤ len ∧ (z = 0 ∨ t < z) ∧ s = .int .i64 ((t : Int) + 1) ∧ q = .int .i64 (M t)) (fun _ s => len + 1 - (intOf s).toNat)
  case atStart => exact ⟨0, Nat.zero_le _, by omega, rfl, by rw [HM0.out]⟩
  case round =>
    obtain ⟨t, ht, htz, rfl, rfl⟩ := hrel
    have HT := Lib.hid htz
    clear htz M0
    by_cases hlt : t < len
    · obtain ⟨r, hr⟩ : ∃ r, len = t + 1 + r := ⟨len - (t + 1), by omega⟩
      have hi : ((len : Int) - ((t : Int) + 1)) = (r : Int) := by omega
      have q0 := HC.out r (by omega)
      obtain ⟨v0, v1⟩ := HV.out r (by omega)
      have m1 := Lib.hid (HM.out t r hr)
      have e1 := Lib.hid (HE.out t hlt HT.out)
      have n1 := Lib.hid (HN.out t hlt HT.out)
      obtain ⟨bx0, bx1⟩ := HB.out t
      have r1 : (r : Int) < (len : Int) := by omega
      have r0 : (0 : Int) ≤ (r : Int) := by omega
      have lt1 : (t : Int) + 1 ≤ (len : Int) := by omega
      have HR := Lib.hid hr
      clear hr
      have nn := ndK_cases (ks (lo + r))
      have nb : (ndK (ks (lo + r)) : Int) ≤ 4 := by omega
      clear nn
      generalize ks (lo + r) = k at *
      go_wp2_with fail
      refine (c_countNeeds k w v0 v1).mono ?_
      rintro e w1 ⟨rfl, rfl⟩
      generalize ndK k = d at *
      by_cases hm : M (t + 1) = 0
      · have hz := Lib.hid (e1.out hm)
        have hq : M t + ((d : Int) - 1) = 0 := by rw [m1.out] at hm; omega
        clear hm
        go_wp2
        go_ret
        exact ⟨ret_int (by rw [hz.out]; simp), rfl⟩
      · have hz := Lib.hid (n1.out hm)
        have hq : Hid (M t + ((d : Int) - 1) = M (t + 1)) := by have := m1.out; unfold Hid; omega
        have hq' : ¬ (M t + ((d : Int) - 1) = 0) := by rw [hq.out]; exact hm
        clear hm
        go_wp2
        go_round
        case rel => exact ⟨t + 1, by omega, hz.out, by go_num, by rw [hq.out]⟩
        case measure => simp [intOf]; omega
    · have hz := Lib.hid (HX.out (by have := HT.out; omega))
      have lt1 : ¬ (t : Int) + 1 ≤ (len : Int) := by omega
      go_wp2
      go_ret
      exact ⟨ret_int (by rw [hz.out]; rfl), rfl⟩
end Go.Proofs.YtdgkgnlilcbggaaDoor
