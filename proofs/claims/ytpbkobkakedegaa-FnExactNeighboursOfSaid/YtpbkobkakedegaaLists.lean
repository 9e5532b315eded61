/-
  The lists of LevelBlocks and ColumnBlocks as the model makes them are those of the program.
-/
import Derived.Test.YtpbkobkakedegaaC8
namespace Go.Proofs.Ytpbkobkakedegaa
open Go.RowKit

/-! ### The lists: no Go in sight -/
def lvS (c : Int) (n : Nat) : List Int := (List.range n).map fun (t : Nat) => c + t
theorem lvS_len (c : Int) (n : Nat) : (lvS c n).length = n := by simp [lvS]
theorem lvS_succ (c : Int) (n : Nat) : lvS c (n + 1) = lvS c n ++ [c + n] := by simp [lvS, List.range_succ]
def coS (x y a b : Int) (n : Nat) : List Int := (List.range n).map fun (t : Nat) => (t * y + b) * x + a
theorem coS_len (x y a b : Int) (n : Nat) : (coS x y a b n).length = n := by simp [coS]
theorem coS_succ (x y a b : Int) (n : Nat) : coS x y a b (n + 1) = coS x y a b n ++ [(n * y + b) * x + a] := by simp [coS, List.range_succ]

def lvChk : Bool := (List.range 9).all fun X => (List.range 7).all fun Y => (List.range 6).all fun Z => (List.range Z).all fun C =>
  !decide (X * Y * Z ≤ 120 ∧ 0 < X ∧ 0 < Y) || sel (fun k => k / (X : Int) / (Y : Int) == (C : Int)) (X * Y * Z) == lvS ((C : Int) * X * Y) (X * Y)
theorem lvChk_ok : lvChk = true := by decide +kernel
theorem lv_nat {X Y Z C : Nat} (hx : X < 9) (hy : Y < 7) (hz : Z < 6) (h : X * Y * Z ≤ 120) (hx0 : 0 < X) (hy0 : 0 < Y) (hc : C < Z) : sel (fun k => k / (X : Int) / (Y : Int) == (C : Int)) (X * Y * Z) = lvS ((C : Int) * X * Y) (X * Y) := by
  have h0 := lvChk_ok
  simp only [lvChk, List.all_eq_true, List.mem_range] at h0
  have h1 := h0 X hx Y hy Z hz C hc
  rw [decide_eq_true ⟨h, hx0, hy0⟩] at h1
  simpa using h1
def coChk : Bool := (List.range 9).all fun X => (List.range 7).all fun Y => (List.range 6).all fun Z => (List.range X).all fun A => (List.range Y).all fun B =>
  !decide (X * Y * Z ≤ 120) || sel (fun k => k % (X : Int) == (A : Int) && k / (X : Int) % (Y : Int) == (B : Int)) (X * Y * Z) == coS X Y A B Z
theorem coChk_ok : coChk = true := by decide +kernel
theorem co_nat {X Y Z A B : Nat} (hx : X < 9) (hy : Y < 7) (hz : Z < 6) (h : X * Y * Z ≤ 120) (ha : A < X) (hb : B < Y) : sel (fun k => k % (X : Int) == (A : Int) && k / (X : Int) % (Y : Int) == (B : Int)) (X * Y * Z) = coS X Y A B Z := by
  have h0 := coChk_ok
  simp only [coChk, List.all_eq_true, List.mem_range] at h0
  have h1 := h0 X hx Y hy Z hz A ha B hb
  rw [decide_eq_true h] at h1
  simpa using h1

theorem lv_same {x y z a : Int} (h : lvB x y z a = true) : lvL x y z a = lvS (a * x * y) (x * y).toNat := by
  unfold lvL
  rw [if_pos h]
  unfold lvB at h
  simp only [Bool.and_eq_true] at h
  obtain ⟨h1, h2⟩ := h
  obtain ⟨x1, x2, y1, y2, z1, z2, p1, p2, q1, q2⟩ := good_box h1
  obtain ⟨_, _, a1, a2⟩ := of_decide_eq_true h2
  clear h1 h2
  obtain ⟨X, rfl⟩ := Int.eq_ofNat_of_zero_le (show 0 ≤ x by omega)
  obtain ⟨Y, rfl⟩ := Int.eq_ofNat_of_zero_le (show 0 ≤ y by omega)
  obtain ⟨Z, rfl⟩ := Int.eq_ofNat_of_zero_le (show 0 ≤ z by omega)
  obtain ⟨C, rfl⟩ := Int.eq_ofNat_of_zero_le a1
  have e1 : nB (X : Int) Y Z = X * Y * Z := by unfold nB; rw [← Int.natCast_mul, ← Int.natCast_mul]; exact Int.toNat_natCast _
  have e2 : ((X : Int) * Y).toNat = X * Y := by rw [← Int.natCast_mul]; exact Int.toNat_natCast _
  rw [e1, e2]
  exact lv_nat (by omega) (by omega) (by omega) (by rw [← Int.natCast_mul, ← Int.natCast_mul] at q2; omega) (by omega) (by omega) (by omega)

theorem co_same {x y z a b : Int} (h : coB x y z a b = true) : coL x y z a b = coS x y a b z.toNat := by
  unfold coL
  rw [if_pos h]
  unfold coB at h
  simp only [Bool.and_eq_true] at h
  obtain ⟨h1, h2⟩ := h
  obtain ⟨x1, x2, y1, y2, z1, z2, p1, p2, q1, q2⟩ := good_box h1
  obtain ⟨⟨a1, a2⟩, ⟨b1, b2⟩, _, _⟩ := of_decide_eq_true h2
  clear h1 h2
  obtain ⟨X, rfl⟩ := Int.eq_ofNat_of_zero_le (show 0 ≤ x by omega)
  obtain ⟨Y, rfl⟩ := Int.eq_ofNat_of_zero_le (show 0 ≤ y by omega)
  obtain ⟨Z, rfl⟩ := Int.eq_ofNat_of_zero_le (show 0 ≤ z by omega)
  obtain ⟨A, rfl⟩ := Int.eq_ofNat_of_zero_le a1
  obtain ⟨B, rfl⟩ := Int.eq_ofNat_of_zero_le b1
  have e1 : nB (X : Int) Y Z = X * Y * Z := by unfold nB; rw [← Int.natCast_mul, ← Int.natCast_mul]; exact Int.toNat_natCast _
  rw [e1, Int.toNat_natCast]
  exact co_nat (by omega) (by omega) (by omega) (by rw [← Int.natCast_mul, ← Int.natCast_mul] at q2; omega) (by omega) (by omega)
end Go.Proofs.Ytpbkobkakedegaa
