/-
  Contracts: the fields of a block, in the program and in the model; the worth of a block by a rule.
-/
import Derived.Test.YtdodmcmkelegoaaF8
import Derived.Test.YtdodmcmkelegoaaW1
import Derived.Test.YtdodmcmkelegoaaM6
import Derived.Deep.RegionHeld3
namespace Go.Proofs.Ytdodmcmkelegoaa
open Go.RowKit
set_option linter.unusedVariables false
set_option linter.unusedSimpArgs false

/-- The fields of block k. -/
def fsO (x y : Int) (ts gs rs : List Int) (k : Nat) : List Int := [ts.getD k 0, gs.getD k 0, rs.getD k 0, (k : Int) / x / y, metal ts gs k]
theorem row_five (w : World) (a b c d e : Int) : Row (w.alloc (.cells #[.int .i64 a, .int .i64 b, .int .i64 c, .int .i64 d, .int .i64 e] 3)) w.heap.size (.slice (some ⟨w.heap.size, 0, none⟩) 5 5) [a, b, c, d, e] :=
  World.ownsRow_lit (base := w.heap.size) (e := 3) (size := 1) w #[.int .i64 a, .int .i64 b, .int .i64 c, .int .i64 d, .int .i64 e] 5 (Nat.le_refl _) (by unfold maxLen; omega) (by simp)
theorem divk_box {x y : Int} {k : Nat} (hx : 1 ≤ x) (hy : 1 ≤ y) (hk : (k : Int) ≤ 1000) : 0 ≤ (k : Int) / x / y ∧ (k : Int) / x / y ≤ 1000 := by
  have a : 0 ≤ (k : Int) / x := Int.ediv_nonneg (by omega) (by omega)
  have b : (k : Int) / x ≤ (k : Int) := Int.ediv_le_self _ (by omega)
  have c : 0 ≤ (k : Int) / x / y := Int.ediv_nonneg a (by omega)
  have d : (k : Int) / x / y ≤ (k : Int) / x := Int.ediv_le_self _ a
  omega
theorem fs_ok {x y z : Int} {ts gs rs : List Int} (h : moB x y z ts gs rs = true) {k : Nat} (hk : (k : Int) < x * y * z) : FldOk false (fsO x y ts gs rs k) := by
  obtain ⟨k1, k2, k3, t0, t1, g0, g1, r0, r1, m0, m1⟩ := metal_box h hk
  obtain ⟨x0, x1, y0, y1, z0, z1, _, _, q1, q2⟩ := good_box (mo_true h).1
  obtain ⟨d0, d1⟩ := divk_box (k := k) x0 y0 (by omega)
  refine ⟨rfl, fun j => ?_⟩
  unfold fsO
  generalize metal ts gs k = m at *
  generalize ts.getD k 0 = t at *
  generalize gs.getD k 0 = g at *
  generalize rs.getD k 0 = r at *
  match j with
  | 0 => simpa using ⟨t0, by omega⟩
  | 1 => simpa using ⟨g0, by omega⟩
  | 2 => simpa using ⟨r0, by omega⟩
  | 3 => simpa using ⟨d0, by omega⟩
  | 4 => simpa using ⟨m0, m1⟩
  | j + 5 => simp

set_option maxHeartbeats 4000000 in
set_option maxRecDepth 100000 in
theorem c_fieldsOf (x y z : Int) (v1 v2 v3 : Value) (ts gs rs : List Int) (k : Nat) (w : World) (h : Look w v1 v2 v3 ts gs rs) (hm : moB x y z ts gs rs = true) (hk : (k : Int) < x * y * z) (l1 : ts.length ≤ 4000000) (l2 : gs.length ≤ 4000000) :
    Calls Try.prog 116 #[.agg #[.int .i64 x, .int .i64 y, .int .i64 z, v1, v2, v3], .int .i64 k] w (GivesRow w (fsO x y ts gs rs k)) := by
  obtain ⟨k1, k2, k3, t0, t1, g0, g1, r0, r1, m0, m1⟩ := metal_box hm hk
  obtain ⟨x0, x1, y0, y1, z0, z1, _, _, q1, q2⟩ := good_box (mo_true hm).1
  have CM : Hid (∀ u, Below w.heap.size w u → Calls Try.prog 152 #[.agg #[.int .i64 x, .int .i64 y, .int .i64 z, v1, v2, v3], .int .i64 k] u fun e w' => e = .returned (.int .i64 (metal ts gs k)) ∧ Below u.heap.size u w') := fun u hu => c_metalIn x y z v1 v2 v3 ts gs rs k u (h.below hu) k1 k2 l1 l2 t0 t1 g0 g1
  have CP : Hid (∀ u, Calls Try.prog 151 #[.agg #[.int .i64 x, .int .i64 y, .int .i64 z], .int .i64 k] u fun e w' => e = .returned (.agg #[.int .i64 ((k : Int) % x), .int .i64 ((k : Int) / x % y), .int .i64 ((k : Int) / x / y)]) ∧ Below u.heap.size u w') := fun u => c_findPlace x y z k u x0 x1 y0 y1 (by omega) (by omega)
  obtain ⟨b1, o1, c1, rfl, hb1, hc1⟩ := h.t.at_ k1
  obtain ⟨b2, o2, c2, rfl, hb2, hc2⟩ := h.g.at_ k2
  obtain ⟨b3, o3, c3, rfl, hb3, hc3⟩ := h.r.at_ k3
  clear h hm
  unfold fsO
  generalize metal ts gs k = m at *
  generalize ts.getD k 0 = t at *
  generalize gs.getD k 0 = g at *
  generalize rs.getD k 0 = r at *
  generalize ts.length = n1 at *
  generalize gs.length = n2 at *
  generalize rs.length = n3 at *
  generalize (k : Int) / x / y = lv at *
  have a0 : (0 : Int) ≤ (k : Int) := by omega
  have a1 : (k : Int) < (n1 : Int) := by omega
  have a2 : (k : Int) < (n2 : Int) := by omega
  have a3 : (k : Int) < (n3 : Int) := by omega
  have HX0 : Hid (Box6 (w.alloc (.cells #[.int .i64 x, .int .i64 y, .int .i64 z, .slice (some ⟨b1, o1, none⟩) n1 c1, .slice (some ⟨b2, o2, none⟩) n2 c2, .slice (some ⟨b3, o3, none⟩) n3 c3] 34)) w.heap.size x y z (.slice (some ⟨b1, o1, none⟩) n1 c1) (.slice (some ⟨b2, o2, none⟩) n2 c2) (.slice (some ⟨b3, o3, none⟩) n3 c3)) := Box6.new _ _ _ _ _ _ _ _
  have HB0 : Hid (Below w.heap.size w (w.alloc (.cells #[.int .i64 x, .int .i64 y, .int .i64 z, .slice (some ⟨b1, o1, none⟩) n1 c1, .slice (some ⟨b2, o2, none⟩) n2 c2, .slice (some ⟨b3, o3, none⟩) n3 c3] 34))) := (Below.refl _ _).alloc (Nat.le_refl _) _
  have HC := Lib.hid (And.intro hc1 (And.intro hc2 hc3))
  clear hc1 hc2 hc3 hb1 hb2 hb3 hk k1 k2 k3 t0 t1 g0 g1 r0 r1 m0 m1 x0 x1 y0 y1 z0 z1 q1 q2
  go_enter Try.func116, Try.ntmps116
  go_wp2_with fail
  refine (CP.out _).mono ?_
  rintro e w2 ⟨rfl, hb2⟩
  have HX2 := Lib.hid (HX0.out.below hb2)
  have HB2 : Hid (Below w.heap.size w w2) := HB0.out.trans (hb2.mono HB0.out.size)
  clear hb2 HX0 HB0 CP
  generalize (k : Int) % x = e0 at *
  generalize (k : Int) / x % y = e1 at *
  have KE : Hid (∀ u, Below w2.heap.size w2 u → Below w.heap.size w u ∧ (u.cell? ⟨w.heap.size, 0, none⟩ = some (.int .i64 x) ∧ u.cell? ⟨w.heap.size, 1, none⟩ = some (.int .i64 y) ∧ u.cell? ⟨w.heap.size, 2, none⟩ = some (.int .i64 z) ∧ u.cell? ⟨w.heap.size, 3, none⟩ = some (.slice (some ⟨b1, o1, none⟩) n1 c1) ∧ u.cell? ⟨w.heap.size, 4, none⟩ = some (.slice (some ⟨b2, o2, none⟩) n2 c2) ∧ u.cell? ⟨w.heap.size, 5, none⟩ = some (.slice (some ⟨b3, o3, none⟩) n3 c3) ∧ u.cell? ⟨b1, o1 + k, none⟩ = some (.int .i64 t) ∧ u.cell? ⟨b2, o2 + k, none⟩ = some (.int .i64 g) ∧ u.cell? ⟨b3, o3 + k, none⟩ = some (.int .i64 r))) := fun u hu => by
    have hX := HX2.out.below hu
    have hB := HB2.out.trans (hu.mono HB2.out.size)
    exact ⟨hB, hX.c0, hX.c1, hX.c2, hX.c3, hX.c4, hX.c5, cell_at hB HC.out.1, cell_at hB HC.out.2.1, cell_at hB HC.out.2.2⟩
  have KD : Hid (Below w2.heap.size w2 w2.drew) := (Below.refl _ _).drew
  have hix := ix2
  go_wp2_with (simp only [hix])
  go_region_held3 (fun u => u.cell? ⟨w.heap.size, 0, none⟩ = some (.int .i64 x) ∧ u.cell? ⟨w.heap.size, 1, none⟩ = some (.int .i64 y) ∧ u.cell? ⟨w.heap.size, 2, none⟩ = some (.int .i64 z) ∧ u.cell? ⟨w.heap.size, 3, none⟩ = some (.slice (some ⟨b1, o1, none⟩) n1 c1) ∧ u.cell? ⟨w.heap.size, 4, none⟩ = some (.slice (some ⟨b2, o2, none⟩) n2 c2) ∧ u.cell? ⟨w.heap.size, 5, none⟩ = some (.slice (some ⟨b3, o3, none⟩) n3 c3) ∧ u.cell? ⟨b1, o1 + k, none⟩ = some (.int .i64 t) ∧ u.cell? ⟨b2, o2 + k, none⟩ = some (.int .i64 g) ∧ u.cell? ⟨b3, o3 + k, none⟩ = some (.int .i64 r)) (first | with_reducible exact (KE.out _ KD.out).2 | with_reducible exact (KE.out _ HU3.out).2 | exact (KE.out _ (HU3.out.alloc HU3.out.size _)).2)
    (first | (go_at_call 152; refine (CM.out _ (KE.out _ KD.out).1).mono ?_; rintro e w3 ⟨rfl, hb⟩; have HU3 : Hid (Below w2.heap.size w2 w3) := KD.out.trans (hb.mono KD.out.size); clear hb))
  have HB3 := Lib.hid (KE.out _ HU3.out).1
  have R5 := Lib.hid (row_five w3 t g r lv m)
  have B5 : Hid (Below w.heap.size w (w3.alloc (.cells #[.int .i64 t, .int .i64 g, .int .i64 r, .int .i64 lv, .int .i64 m] 3))) := HB3.out.alloc HB3.out.size _
  have sz := HB3.out.size
  clear KE CM HC HU3 HX2
  go_wp2
  go_ret
  exact ⟨_, rfl, R5.out.mono sz, B5.out⟩

set_option maxHeartbeats 4000000 in
set_option maxRecDepth 100000 in
theorem c_vaFields (x y z : Int) (v1 v2 v3 : Value) (ts gs rs : List Int) (k : Nat) (w : World) (h : Look w v1 v2 v3 ts gs rs) (hm : moB x y z ts gs rs = true) (hk : (k : Int) < x * y * z) (l1 : ts.length ≤ 4000000) (l2 : gs.length ≤ 4000000) :
    Calls Try.prog 61 #[.agg #[.int .i64 x, .int .i64 y, .int .i64 z, v1, v2, v3], .int .i64 k] w (GivesRow w (fsO x y ts gs rs k)) := by
  obtain ⟨k1, k2, k3, t0, t1, g0, g1, r0, r1, m0, m1⟩ := metal_box hm hk
  obtain ⟨x0, x1, y0, y1, z0, z1, _, _, q1, q2⟩ := good_box (mo_true hm).1
  have CM : Hid (∀ u, Below w.heap.size w u → Calls Try.prog 113 #[.agg #[.int .i64 x, .int .i64 y, .int .i64 z, v1, v2, v3], .int .i64 k] u fun e w' => e = .returned (.int .i64 (metal ts gs k)) ∧ Below u.heap.size u w') := fun u hu => c_moMetal x y z v1 v2 v3 ts gs rs k u (h.below hu) k1 k2 l1 l2 t0 t1 g0 g1
  have CP : Hid (∀ u, Calls Try.prog 112 #[.agg #[.int .i64 x, .int .i64 y, .int .i64 z], .int .i64 k] u fun e w' => e = .returned (.int .i64 ((k : Int) / x / y)) ∧ Below u.heap.size u w') := fun u => c_grZ x y z k u x0 x1 y0 y1 (by omega) (by omega)
  obtain ⟨b1, o1, c1, rfl, hb1, hc1⟩ := h.t.at_ k1
  obtain ⟨b2, o2, c2, rfl, hb2, hc2⟩ := h.g.at_ k2
  obtain ⟨b3, o3, c3, rfl, hb3, hc3⟩ := h.r.at_ k3
  clear h hm
  unfold fsO
  generalize metal ts gs k = m at *
  generalize ts.getD k 0 = t at *
  generalize gs.getD k 0 = g at *
  generalize rs.getD k 0 = r at *
  generalize ts.length = n1 at *
  generalize gs.length = n2 at *
  generalize rs.length = n3 at *
  generalize (k : Int) / x / y = lv at *
  have a0 : (0 : Int) ≤ (k : Int) := by omega
  have a1 : (k : Int) < (n1 : Int) := by omega
  have a2 : (k : Int) < (n2 : Int) := by omega
  have a3 : (k : Int) < (n3 : Int) := by omega
  have HX0 : Hid (Box6 (w.alloc (.cells #[.int .i64 x, .int .i64 y, .int .i64 z, .slice (some ⟨b1, o1, none⟩) n1 c1, .slice (some ⟨b2, o2, none⟩) n2 c2, .slice (some ⟨b3, o3, none⟩) n3 c3] 34)) w.heap.size x y z (.slice (some ⟨b1, o1, none⟩) n1 c1) (.slice (some ⟨b2, o2, none⟩) n2 c2) (.slice (some ⟨b3, o3, none⟩) n3 c3)) := Box6.new _ _ _ _ _ _ _ _
  have HB0 : Hid (Below w.heap.size w (w.alloc (.cells #[.int .i64 x, .int .i64 y, .int .i64 z, .slice (some ⟨b1, o1, none⟩) n1 c1, .slice (some ⟨b2, o2, none⟩) n2 c2, .slice (some ⟨b3, o3, none⟩) n3 c3] 34))) := (Below.refl _ _).alloc (Nat.le_refl _) _
  have HC := Lib.hid (And.intro hc1 (And.intro hc2 hc3))
  clear hc1 hc2 hc3 hb1 hb2 hb3 hk k1 k2 k3 t0 t1 g0 g1 r0 r1 m0 m1 x0 x1 y0 y1 z0 z1 q1 q2
  go_enter Try.func61, Try.ntmps61
  go_wp2_with fail
  generalize (w.alloc (.cells #[.int .i64 x, .int .i64 y, .int .i64 z, .slice (some ⟨b1, o1, none⟩) n1 c1, .slice (some ⟨b2, o2, none⟩) n2 c2, .slice (some ⟨b3, o3, none⟩) n3 c3] 34)) = w2 at *
  have KE : Hid (∀ u, Below w2.heap.size w2 u → Below w.heap.size w u ∧ (u.cell? ⟨w.heap.size, 0, none⟩ = some (.int .i64 x) ∧ u.cell? ⟨w.heap.size, 1, none⟩ = some (.int .i64 y) ∧ u.cell? ⟨w.heap.size, 2, none⟩ = some (.int .i64 z) ∧ u.cell? ⟨w.heap.size, 3, none⟩ = some (.slice (some ⟨b1, o1, none⟩) n1 c1) ∧ u.cell? ⟨w.heap.size, 4, none⟩ = some (.slice (some ⟨b2, o2, none⟩) n2 c2) ∧ u.cell? ⟨w.heap.size, 5, none⟩ = some (.slice (some ⟨b3, o3, none⟩) n3 c3) ∧ u.cell? ⟨b1, o1 + k, none⟩ = some (.int .i64 t) ∧ u.cell? ⟨b2, o2 + k, none⟩ = some (.int .i64 g) ∧ u.cell? ⟨b3, o3 + k, none⟩ = some (.int .i64 r))) := fun u hu => by
    have hX := HX0.out.below hu
    have hB := HB0.out.trans (hu.mono HB0.out.size)
    exact ⟨hB, hX.c0, hX.c1, hX.c2, hX.c3, hX.c4, hX.c5, cell_at hB HC.out.1, cell_at hB HC.out.2.1, cell_at hB HC.out.2.2⟩
  have KD : Hid (Below w2.heap.size w2 w2.drew) := (Below.refl _ _).drew
  go_region_held3 (fun u => u.cell? ⟨w.heap.size, 0, none⟩ = some (.int .i64 x) ∧ u.cell? ⟨w.heap.size, 1, none⟩ = some (.int .i64 y) ∧ u.cell? ⟨w.heap.size, 2, none⟩ = some (.int .i64 z) ∧ u.cell? ⟨w.heap.size, 3, none⟩ = some (.slice (some ⟨b1, o1, none⟩) n1 c1) ∧ u.cell? ⟨w.heap.size, 4, none⟩ = some (.slice (some ⟨b2, o2, none⟩) n2 c2) ∧ u.cell? ⟨w.heap.size, 5, none⟩ = some (.slice (some ⟨b3, o3, none⟩) n3 c3) ∧ u.cell? ⟨b1, o1 + k, none⟩ = some (.int .i64 t) ∧ u.cell? ⟨b2, o2 + k, none⟩ = some (.int .i64 g) ∧ u.cell? ⟨b3, o3 + k, none⟩ = some (.int .i64 r)) (first | with_reducible exact (KE.out _ KD.out).2 | with_reducible exact (KE.out _ HU3.out).2 | with_reducible exact (KE.out _ HU4.out).2 | exact (KE.out _ (HU4.out.alloc HU4.out.size _)).2)
    (first | (go_at_call 112; refine (CP.out _).mono ?_; rintro e w3 ⟨rfl, hb⟩; have HU3 : Hid (Below w2.heap.size w2 w3) := KD.out.trans (hb.mono KD.out.size); clear hb)
           | (go_at_call 113; refine (CM.out _ (KE.out _ HU3.out).1).mono ?_; rintro e w4 ⟨rfl, hb⟩; have HU4 : Hid (Below w2.heap.size w2 w4) := HU3.out.trans (hb.mono HU3.out.size); clear hb))
  have HB4 := Lib.hid (KE.out _ HU4.out).1
  have R5 := Lib.hid (row_five w4 t g r lv m)
  have B5 : Hid (Below w.heap.size w (w4.alloc (.cells #[.int .i64 t, .int .i64 g, .int .i64 r, .int .i64 lv, .int .i64 m] 3))) := HB4.out.alloc HB4.out.size _
  have sz := HB4.out.size
  clear KE CM CP HC HU3 HU4 HX0
  go_wp2
  go_ret
  exact ⟨_, rfl, R5.out.mono sz, B5.out⟩

end Go.Proofs.Ytdodmcmkelegoaa
