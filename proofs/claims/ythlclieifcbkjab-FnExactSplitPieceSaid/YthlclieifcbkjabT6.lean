/-
  Contracts: the program's SortPieces.
-/
import Derived.Test.YthlclieifcbkjabT5
namespace Go.Proofs.Ythlclieifcbkjab
open Go.RowKit
set_option linter.unusedVariables false

def cfP (xs : List Int) (a b : Int) : Int := cgI (xs.getD (a.toNat * 3) 0) (xs.getD (a.toNat * 3 + 1) 0) (xs.getD (b.toNat * 3) 0) (xs.getD (b.toNat * 3 + 1) 0)
theorem cfP_nat (xs : List Int) (a b : Nat) : cfP xs a b = cgI (xs.getD (a * 3) 0) (xs.getD (a * 3 + 1) 0) (xs.getD (b * 3) 0) (xs.getD (b * 3 + 1) 0) := rfl
def soL (n : Nat) (xs : List Int) : List Int := if piesB n xs then sortN (fun a b => decide (cfP xs a b < 0)) n else []
theorem pie_box {n : Nat} {xs : List Int} (h : pieAll n xs = true) {k : Nat} (hk : k < n) : 0 ≤ xs.getD (k * 3) 0 ∧ xs.getD (k * 3) 0 ≤ 10000 ∧ 0 ≤ xs.getD (k * 3 + 1) 0 ∧ xs.getD (k * 3 + 1) 0 ≤ 10000000 := by
  obtain ⟨a1, a2, a3, a4, _⟩ := pie_true (pieAll_at h hk)
  omega

set_option maxHeartbeats 2000000 in
theorem c_fnSort (b0 n bb off c : Nat) (xs : List Int) (a b : Nat) (u : World) (h0 : b0 < u.heap.size) (hb : bb < u.heap.size) (ha : a < n) (hbn : b < n) (hn : n ≤ 20) (hp : pieAll n xs = true) (hc : u.cell? ⟨b0, 0, none⟩ = some (.slice (some ⟨bb, off, none⟩) n c)) (hx : ∀ j : Nat, j < n * 3 → u.cell? ⟨bb, off + j, none⟩ = some (.int .i64 (xs.getD j 0))) :
    Calls Try.prog 26 #[.int .i64 a, .int .i64 b, .pointer (some ⟨b0, 0, none⟩)] u fun e w' => e = .returned (.int .i64 (cfP xs a b)) ∧ Below u.heap.size u w' := by
  obtain ⟨t0, t1, m0, m1⟩ := pie_box hp ha
  obtain ⟨u0, u1, k0, k1⟩ := pie_box hp hbn
  rw [cfP_nat]
  have p0 : u.cell? ⟨bb, off + a * 3, none⟩ = some (.int .i64 (xs.getD (a * 3) 0)) := hx _ (by omega)
  have p1 : u.cell? ⟨bb, off + a * 3 + 1, none⟩ = some (.int .i64 (xs.getD (a * 3 + 1) 0)) := hx (a * 3 + 1) (by omega)
  have p2 : u.cell? ⟨bb, off + a * 3 + 2, none⟩ = some (.int .i64 (xs.getD (a * 3 + 2) 0)) := hx (a * 3 + 2) (by omega)
  have q0 : u.cell? ⟨bb, off + b * 3, none⟩ = some (.int .i64 (xs.getD (b * 3) 0)) := hx _ (by omega)
  have q1 : u.cell? ⟨bb, off + b * 3 + 1, none⟩ = some (.int .i64 (xs.getD (b * 3 + 1) 0)) := hx (b * 3 + 1) (by omega)
  have q2 : u.cell? ⟨bb, off + b * 3 + 2, none⟩ = some (.int .i64 (xs.getD (b * 3 + 2) 0)) := hx (b * 3 + 2) (by omega)
  clear hx hp
  have C := Lib.hid (fun (v : World) => c_compareGrades (xs.getD (a * 3) 0) (xs.getD (a * 3 + 1) 0) (xs.getD (a * 3 + 2) 0) (xs.getD (b * 3) 0) (xs.getD (b * 3 + 1) 0) (xs.getD (b * 3 + 2) 0) v t0 t1 m0 m1 u0 u1 k0 k1)
  clear t0 t1 m0 m1 u0 u1 k0 k1
  generalize xs.getD (a * 3) 0 = t at *
  generalize xs.getD (a * 3 + 1) 0 = m at *
  generalize xs.getD (a * 3 + 2) 0 = r at *
  generalize xs.getD (b * 3) 0 = t' at *
  generalize xs.getD (b * 3 + 1) 0 = m' at *
  generalize xs.getD (b * 3 + 2) 0 = r' at *
  have a0 : (0 : Int) ≤ (a : Int) := by omega
  have a1 : (a : Int) < (n : Int) := by omega
  have b1 : (0 : Int) ≤ (b : Int) := by omega
  have b2 : (b : Int) < (n : Int) := by omega
  go_enter Try.func26, Try.ntmps26
  go_wp2_with fail
  refine wp_region_grow (by kernel_rfl) (by kernel_rfl) ?_
  repeat (go_big_quiet_step ((go_at_call 27; exact grow_of (C.out _))))
  refine wpQuiet_nil ?_
  intro _ hw'
  obtain ⟨v, hw''⟩ := hw'
  subst hw''
  have hb2 := wOf_below u v
  generalize wOf u v = w2 at hb2 ⊢
  go_wp2
  go_ret
  exact ⟨rfl, hb2⟩

set_option maxHeartbeats 2000000 in
theorem c_SortPieces (n : Nat) (xs : List Int) (v : Value) (w : World) (hl : n ≤ 1048576) (h : SeenP w v n xs) :
    Calls Try.prog 9 #[v] w fun e w' => ∃ v', e = .returned (.tuple #[v', .bool (piesB n xs)]) ∧ Row w' w.heap.size v' (soL n xs) ∧ Below w.heap.size w w' := by
  have HS := Lib.hid h
  obtain ⟨A, c, rfl, hm, hx, hA⟩ := h
  have HB0 : Hid (Below w.heap.size w (w.alloc (.cells #[.slice A n c] 27))) := (Below.refl _ _).alloc (Nat.le_refl _) _
  have HC0 : Hid (∀ u, Below (w.heap.size + 1) (w.alloc (.cells #[.slice A n c] 27)) u → u.cell? ⟨w.heap.size, 0, none⟩ = some (.slice A n c)) := fun u hu => by
    rw [hu.cell (p := ⟨w.heap.size, 0, none⟩) (by show w.heap.size < _; omega)]
    simp
  have HZ0 : Hid ((w.alloc (.cells #[.slice A n c] 27)).heap.size = w.heap.size + 1) := by simp [Hid]
  clear hm hx
  unfold soL
  cases hp : piesB n xs
  · have HP := Lib.hid hp
    simp only [Bool.false_eq_true, if_false]
    clear hp hA
    go_enter Try.func9, Try.ntmps9
    go_wp2_with fail
    refine (c_arePieces n xs _ _ hl (HS.out.below HB0.out)).mono ?_
    rintro e w1 ⟨rfl, hb1⟩
    rw [HP.out]
    have HB1 : Hid (Below w.heap.size w w1) := HB0.out.trans (hb1.mono HB0.out.size)
    clear hb1
    go_wp2
    go_ret2
    exact ⟨_, rfl, Row.nil _ _, HB1.out⟩
  · have HP := Lib.hid hp
    obtain ⟨n1, n2, ha⟩ := pies_true hp
    simp only [if_true]
    obtain ⟨bb, off, rfl, hbb, hcc⟩ := hA (by omega)
    have HF : Hid (∀ (a b : Nat) (u : World), a < n → b < n → Below (w.heap.size + 1) (w.alloc (.cells #[.slice (some ⟨bb, off, none⟩) n c] 27)) u → Calls Try.prog 26 #[.int .i64 a, .int .i64 b, .pointer (some ⟨w.heap.size, 0, none⟩)] u fun e u' => e = .returned (.int .i64 (cfP xs a b)) ∧ Below u.heap.size u u') := fun a b u ha' hb' hu => by
      have hs := hu.size
      rw [HZ0.out] at hs
      have hw := HB0.out.trans (hu.mono (by omega))
      exact c_fnSort w.heap.size n bb off c xs a b u (by omega) (by omega) ha' hb' n2 ha (HC0.out u hu) (fun j hj => by rw [hw.cell (p := ⟨bb, off + j, none⟩) hbb]; exact hcc j hj)
    clear hp hA ha hcc
    go_enter Try.func9, Try.ntmps9
    go_wp2_with fail
    refine (c_arePieces n xs _ _ hl (HS.out.below HB0.out)).mono ?_
    rintro e w1 ⟨rfl, hb1⟩
    rw [HP.out]
    have HB1 : Hid (Below w.heap.size w w1) := HB0.out.trans (hb1.mono HB0.out.size)
    rw [HZ0.out] at hb1
    have HV1 := Lib.hid hb1
    clear hb1
    have d0 := HC0.out w1 HV1.out
    have CO := Lib.hid (c_orderOf n w.heap.size (cfP xs) w1 n2 (by omega) (fun a b u ha' hb' hu => HF.out a b u ha' hb' (HV1.out.trans (hu.mono (by have := HV1.out.size; rw [HZ0.out] at this; omega)))))
    go_wp2_with fail
    refine CO.out.mono ?_
    rintro e w2 ⟨v', rfl, hr2, hb2⟩
    have HB2 : Hid (Below w.heap.size w w2) := HB1.out.trans (hb2.mono HB1.out.size)
    have HR2 := Lib.hid (hr2.mono HB1.out.size)
    clear hr2 hb2
    go_wp2
    go_ret2
    exact ⟨_, rfl, HR2.out, HB2.out⟩
end Go.Proofs.Ythlclieifcbkjab
