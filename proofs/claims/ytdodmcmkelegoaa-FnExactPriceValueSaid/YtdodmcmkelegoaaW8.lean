/-
  Contracts: the worth of a block by prices, in the program and in the model of it.
-/
import Derived.Test.YtdodmcmkelegoaaM5
import Derived.Test.YtdodmcmkelegoaaW7
import Derived.Test.YtdodmcmkelegoaaDN
import Derived.Deep.RegionHeld3
namespace Go.Proofs.Ytdodmcmkelegoaa
open Go.RowKit
set_option linter.unusedVariables false

theorem met_le {t g : Int} (t0 : 0 ≤ t) (t1 : t ≤ 10000) (g0 : 0 ≤ g) (g1 : g ≤ 1000) : 0 ≤ t * g ∧ t * g ≤ 10000000 := by
  have a : t * g ≤ 10000 * g := Int.mul_le_mul_of_nonneg_right t1 g0
  exact ⟨Int.mul_nonneg t0 g0, by omega⟩
set_option maxHeartbeats 400000 in
theorem c_most (a b : Int) (w : World) : Calls Try.prog 131 #[.int .i64 a, .int .i64 b] w fun e w' => e = .returned (.int .i64 (max a b)) ∧ w = w' := by
  by_cases h : b < a
  all_goals
    go_enter Try.func131, Try.ntmps131
    go_wp2
    go_ret
    exact ⟨ret_int (by omega), rfl⟩
/-- The cents in the mill of a block with metal m and tonnes t; its value. -/
def cimV (m t p q r : Int) : Int := (m * (q * p) - t * (1000 * r)) / 1000
def worV (m t p q r s : Int) : Int := (max 0 (cimV m t p q r) - t * s) / 10000
theorem cim_box {m t p q r : Int} (m0 : 0 ≤ m) (m1 : m ≤ 10000000) (t0 : 0 ≤ t) (t1 : t ≤ 10000) (a0 : 0 ≤ q * p) (a1 : q * p ≤ 1000000) (r0 : 0 ≤ r) (r1 : r ≤ 1000) :
    0 ≤ m * (q * p) ∧ m * (q * p) ≤ 10000000000000 ∧ 0 ≤ t * (1000 * r) ∧ t * (1000 * r) ≤ 10000000000 ∧ -10000001 ≤ cimV m t p q r ∧ cimV m t p q r ≤ 10000000000 := by
  have a : m * (q * p) ≤ 10000000 * (q * p) := Int.mul_le_mul_of_nonneg_right m1 a0
  have b := Int.mul_nonneg m0 a0
  have c : t * (1000 * r) ≤ 10000 * (1000 * r) := Int.mul_le_mul_of_nonneg_right t1 (by omega)
  have d := Int.mul_nonneg t0 (show (0 : Int) ≤ 1000 * r by omega)
  unfold cimV
  omega

set_option maxHeartbeats 4000000 in
set_option maxRecDepth 100000 in
theorem c_centsInMill (x y z : Int) (v1 v2 v3 : Value) (ts gs rs : List Int) (p q r s : Int) (k : Nat) (w : World) (h : Look w v1 v2 v3 ts gs rs) (k1 : k < ts.length) (k2 : k < gs.length) (l1 : ts.length ≤ 4000000) (l2 : gs.length ≤ 4000000)
    (t0 : 0 ≤ ts.getD k 0) (t1 : ts.getD k 0 ≤ 10000) (g0 : 0 ≤ gs.getD k 0) (g1 : gs.getD k 0 ≤ 1000) (hp : priB p q r s = true) :
    Calls Try.prog 132 #[.agg #[.int .i64 x, .int .i64 y, .int .i64 z, v1, v2, v3], .agg #[.int .i64 p, .int .i64 q, .int .i64 r, .int .i64 s], .int .i64 k] w fun e w' => e = .returned (.int .i64 (cimV (metal ts gs k) (ts.getD k 0) p q r)) ∧ Below w.heap.size w w' := by
  obtain ⟨p0, p1, q0, q1, r0, r1, s0, s1⟩ := pri_yes hp
  obtain ⟨mp0, mp1⟩ := cut_box3 p0 p1 q0 q1
  obtain ⟨me0, me1⟩ := met_le t0 t1 g0 g1
  have C : Hid (∀ u : World, Below w.heap.size w u → Calls Try.prog 152 #[.agg #[.int .i64 x, .int .i64 y, .int .i64 z, v1, v2, v3], .int .i64 k] u fun e w' => e = .returned (.int .i64 (metal ts gs k)) ∧ Below u.heap.size u w') := fun u hu => c_metalIn x y z v1 v2 v3 ts gs rs k u (h.below hu) k1 k2 l1 l2 t0 t1 g0 g1
  obtain ⟨b1, o1, c1, rfl, hb1, hc1⟩ := h.t.at_ k1
  obtain ⟨A2, c2, rfl⟩ := h.g.shape
  obtain ⟨A3, c3, rfl⟩ := h.r.shape
  clear h hp
  change 0 ≤ metal ts gs k at me0
  change metal ts gs k ≤ 10000000 at me1
  generalize metal ts gs k = m at *
  generalize ts.getD k 0 = t at *
  generalize ts.length = n1 at *
  generalize gs.length = n2 at *
  generalize rs.length = n3 at *
  obtain ⟨x1, x2, x3, x4, x5, x6⟩ := cim_box me0 me1 t0 t1 mp0 mp1 r0 r1
  obtain ⟨fm, _⟩ := fl_int m 23 (by show _ < 16777216; omega) (by omega)
  obtain ⟨ft, _⟩ := fl_int t 13 (by show _ < 16384; omega) (by omega)
  obtain ⟨fp, _⟩ := fl_int (q * p) 19 (by show _ < 1048576; omega) (by omega)
  obtain ⟨fc, _⟩ := fl_int (1000 * r) 19 (by show _ < 1048576; omega) (by omega)
  obtain ⟨ac, hac, Fac⟩ := fl_mul fm fp (by omega) (by omega)
  obtain ⟨bd, hbd, Fbd⟩ := fl_mul ft fc (by omega) (by omega)
  obtain ⟨re, hre, Fre⟩ := fl_sub (k := 46) (Fac.mono (by omega)) (Fbd.mono (by omega)) (by omega) (by omega)
  obtain ⟨ad, had, Fad⟩ := fl_mul fm fc (by omega) (by omega)
  obtain ⟨bc, hbc, Fbc⟩ := fl_mul ft fp (by omega) (by omega)
  obtain ⟨im, him, _⟩ := fl_add (k := 46) (Fad.mono (by omega)) (Fbc.mono (by omega)) (by omega) (by omega)
  have hcm : cMulBits (floatOfInt .f64 m) (floatOfInt .f64 t) (floatOfInt .f64 (q * p)) (floatOfInt .f64 (1000 * r)) = some (re, im) := by
    unfold cMulBits
    rw [hac]; simp only [Option.bind_some]
    rw [hbd]; simp only [Option.bind_some]
    rw [hre]; simp only [Option.bind_some]
    rw [had]; simp only [Option.bind_some]
    rw [hbc]; simp only [Option.bind_some]
    rw [him]; simp only [Option.bind_some]
  obtain ⟨qe, hqe, Fqe⟩ := fl_div Fre g_1000 (by omega) (by omega)
  obtain ⟨i0, hi0, ia, ib⟩ := fl_toInt (K := 40) (Fqe.mono (by omega)) (by omega)
  have e41 : ((2 ^ (40 + 1) : Nat) : Int) = 2199023255552 := rfl
  rw [e41] at ia ib
  have HE : Hid (∀ u, Calls Try.prog 133 #[.float .f64 qe, .int .i64 (m * (q * p) - t * (1000 * r)), .int .i64 1000] u fun e w' => e = .returned (.int .i64 (cimV m t p q r)) ∧ u = w') := fun u => c_makeExact qe i0 _ 1000 u hi0 (by omega) (by omega) (by omega) (by omega) (by omega) (by omega) (by unfold cimV at x5; omega) (by unfold cimV at x6; omega)
  have hop : ∀ T w, (binOp .mul T (.complex .f64 (floatOfInt .f64 m) (floatOfInt .f64 t)) (.complex .f64 (floatOfInt .f64 (q * p)) (floatOfInt .f64 (1000 * r)))).run Try.prog w = .ok (.complex .f64 re im) w := fun T w => run_complex_mul w T _ _ _ _ re im hcm
  have hoq : ∀ T w, (binOp .quo T (.float .f64 re) (.float .f64 4652007308841189376)).run Try.prog w = .ok (.float .f64 qe) w := fun T w => run_float_arith w .quo T .f64 _ _ qe hqe
  clear hac hbd hre had hbc him hcm hqe hi0 ia ib Fac Fbd Fre Fad Fbc Fqe fm ft fp fc e41
  generalize cimV m t p q r = R at *
  have a0 : (0 : Int) ≤ (k : Int) := by omega
  have a1 : (k : Int) < (n1 : Int) := by omega
  have HC1 := Lib.hid hc1
  have HX0 : Hid (Box6 ((w.alloc (.cells #[.int .i64 x, .int .i64 y, .int .i64 z, .slice (some ⟨b1, o1, none⟩) n1 c1, .slice A2 n2 c2, .slice A3 n3 c3] 34)).alloc (.cells #[.int .i64 p, .int .i64 q, .int .i64 r, .int .i64 s] 51)) w.heap.size x y z (.slice (some ⟨b1, o1, none⟩) n1 c1) (.slice A2 n2 c2) (.slice A3 n3 c3)) := (Box6.new _ _ _ _ _ _ _ _).below ((Below.refl _ _).alloc (Nat.le_refl _) _)
  have HY0 : Hid (Box4 ((w.alloc (.cells #[.int .i64 x, .int .i64 y, .int .i64 z, .slice (some ⟨b1, o1, none⟩) n1 c1, .slice A2 n2 c2, .slice A3 n3 c3] 34)).alloc (.cells #[.int .i64 p, .int .i64 q, .int .i64 r, .int .i64 s] 51)) (w.heap.size + 1) p q r s) := by
    have := Box4.new (w.alloc (.cells #[.int .i64 x, .int .i64 y, .int .i64 z, .slice (some ⟨b1, o1, none⟩) n1 c1, .slice A2 n2 c2, .slice A3 n3 c3] 34)) p q r s 51
    simp at this
    exact this
  have HB0 : Hid (Below w.heap.size w ((w.alloc (.cells #[.int .i64 x, .int .i64 y, .int .i64 z, .slice (some ⟨b1, o1, none⟩) n1 c1, .slice A2 n2 c2, .slice A3 n3 c3] 34)).alloc (.cells #[.int .i64 p, .int .i64 q, .int .i64 r, .int .i64 s] 51))) := ((Below.refl _ _).alloc (Nat.le_refl _) _).alloc (by simp) _
  clear hc1
  go_enter Try.func132, Try.ntmps132
  go_wp2_with fail
  generalize ((w.alloc (.cells #[.int .i64 x, .int .i64 y, .int .i64 z, .slice (some ⟨b1, o1, none⟩) n1 c1, .slice A2 n2 c2, .slice A3 n3 c3] 34)).alloc (.cells #[.int .i64 p, .int .i64 q, .int .i64 r, .int .i64 s] 51)) = W at *
  have KE : Hid (∀ u, Below W.heap.size W u → Below w.heap.size w u ∧ (u.cell? ⟨w.heap.size, 0, none⟩ = some (.int .i64 x) ∧ u.cell? ⟨w.heap.size, 1, none⟩ = some (.int .i64 y) ∧ u.cell? ⟨w.heap.size, 2, none⟩ = some (.int .i64 z) ∧ u.cell? ⟨w.heap.size, 3, none⟩ = some (.slice (some ⟨b1, o1, none⟩) n1 c1) ∧ u.cell? ⟨w.heap.size, 4, none⟩ = some (.slice A2 n2 c2) ∧ u.cell? ⟨w.heap.size, 5, none⟩ = some (.slice A3 n3 c3) ∧ u.cell? ⟨w.heap.size + 1, 0, none⟩ = some (.int .i64 p) ∧ u.cell? ⟨w.heap.size + 1, 1, none⟩ = some (.int .i64 q) ∧ u.cell? ⟨w.heap.size + 1, 2, none⟩ = some (.int .i64 r) ∧ u.cell? ⟨w.heap.size + 1, 3, none⟩ = some (.int .i64 s) ∧ u.cell? ⟨b1, o1 + k, none⟩ = some (.int .i64 t))) := fun u hu => by
    have hX := HX0.out.below hu
    have hY := HY0.out.below hu
    have hB := HB0.out.trans (hu.mono HB0.out.size)
    exact ⟨hB, hX.c0, hX.c1, hX.c2, hX.c3, hX.c4, hX.c5, hY.c0, hY.c1, hY.c2, hY.c3, by rw [hB.cell (p := ⟨b1, o1 + k, none⟩) hb1]; exact HC1.out⟩
  clear HX0 HY0
  have KD : Hid (Below W.heap.size W W.drew) := (Below.refl _ _).drew
  go_region_held3 (fun u => u.cell? ⟨w.heap.size, 0, none⟩ = some (.int .i64 x) ∧ u.cell? ⟨w.heap.size, 1, none⟩ = some (.int .i64 y) ∧ u.cell? ⟨w.heap.size, 2, none⟩ = some (.int .i64 z) ∧ u.cell? ⟨w.heap.size, 3, none⟩ = some (.slice (some ⟨b1, o1, none⟩) n1 c1) ∧ u.cell? ⟨w.heap.size, 4, none⟩ = some (.slice A2 n2 c2) ∧ u.cell? ⟨w.heap.size, 5, none⟩ = some (.slice A3 n3 c3) ∧ u.cell? ⟨w.heap.size + 1, 0, none⟩ = some (.int .i64 p) ∧ u.cell? ⟨w.heap.size + 1, 1, none⟩ = some (.int .i64 q) ∧ u.cell? ⟨w.heap.size + 1, 2, none⟩ = some (.int .i64 r) ∧ u.cell? ⟨w.heap.size + 1, 3, none⟩ = some (.int .i64 s) ∧ u.cell? ⟨b1, o1 + k, none⟩ = some (.int .i64 t)) (first | exact (KE.out _ KD.out).2 | exact HS1.out.2)
    (first | (go_at_call 152; refine (C.out _ (KE.out _ KD.out).1).mono ?_; rintro e w1 ⟨rfl, hb⟩; have hbd := KD.out.trans (hb.mono KD.out.size); have HS1 := Lib.hid (KE.out w1 hbd); clear hb hbd))
  obtain ⟨hB1, d0, d1, d2, d3, d4, d5, d6, d7, d8, d9, d10⟩ := HS1.out
  have HB1 := Lib.hid hB1
  clear hB1 HS1 KE C
  go_wp2_with fail
  go_quiet (fail)
  go_wp2_with (simp only [hop, hoq])
  refine (HE.out _).mono ?_
  rintro e w2 ⟨rfl, rfl⟩
  go_wp2
  go_ret
  exact ⟨rfl, below_draws HB1.out _⟩

set_option maxHeartbeats 4000000 in
set_option maxRecDepth 100000 in
theorem c_worthAt (x y z : Int) (v1 v2 v3 : Value) (ts gs rs : List Int) (p q r s : Int) (k : Nat) (w : World) (h : Look w v1 v2 v3 ts gs rs) (k1 : k < ts.length) (k2 : k < gs.length) (l1 : ts.length ≤ 4000000) (l2 : gs.length ≤ 4000000)
    (t0 : 0 ≤ ts.getD k 0) (t1 : ts.getD k 0 ≤ 10000) (g0 : 0 ≤ gs.getD k 0) (g1 : gs.getD k 0 ≤ 1000) (hp : priB p q r s = true) :
    Calls Try.prog 75 #[.agg #[.int .i64 x, .int .i64 y, .int .i64 z, v1, v2, v3], .agg #[.int .i64 p, .int .i64 q, .int .i64 r, .int .i64 s], .int .i64 k] w fun e w' => e = .returned (.int .i64 (worV (metal ts gs k) (ts.getD k 0) p q r s)) ∧ Below w.heap.size w w' := by
  obtain ⟨p0, p1, q0, q1, r0, r1, s0, s1⟩ := pri_yes hp
  obtain ⟨mp0, mp1⟩ := cut_box3 p0 p1 q0 q1
  obtain ⟨me0, me1⟩ := met_le t0 t1 g0 g1
  have C : Hid (∀ u : World, Below w.heap.size w u → Calls Try.prog 132 #[.agg #[.int .i64 x, .int .i64 y, .int .i64 z, v1, v2, v3], .agg #[.int .i64 p, .int .i64 q, .int .i64 r, .int .i64 s], .int .i64 k] u fun e w' => e = .returned (.int .i64 (cimV (metal ts gs k) (ts.getD k 0) p q r)) ∧ Below u.heap.size u w') := fun u hu => c_centsInMill x y z v1 v2 v3 ts gs rs p q r s k u (h.below hu) k1 k2 l1 l2 t0 t1 g0 g1 hp
  obtain ⟨b1, o1, c1, rfl, hb1, hc1⟩ := h.t.at_ k1
  obtain ⟨A2, c2, rfl⟩ := h.g.shape
  obtain ⟨A3, c3, rfl⟩ := h.r.shape
  clear h hp
  change 0 ≤ metal ts gs k at me0
  change metal ts gs k ≤ 10000000 at me1
  obtain ⟨x1, x2, x3, x4, x5, x6⟩ := cim_box me0 me1 t0 t1 mp0 mp1 r0 r1
  unfold worV
  generalize cimV (metal ts gs k) (ts.getD k 0) p q r = cc at *
  generalize metal ts gs k = m at *
  generalize ts.getD k 0 = t at *
  generalize ts.length = n1 at *
  generalize gs.length = n2 at *
  generalize rs.length = n3 at *
  have y0 : 0 ≤ t * s := Int.mul_nonneg t0 s0
  have y1 : t * s ≤ 10000000 := by
    have a : t * s ≤ 10000 * s := Int.mul_le_mul_of_nonneg_right t1 s0
    omega
  have z0 : 0 ≤ max 0 cc ∧ max 0 cc ≤ 10000000000 := by omega
  obtain ⟨fm, _⟩ := fl_int (max 0 cc - t * s) 33 (by show _ < 17179869184; omega) (by omega)
  obtain ⟨qe, hqe, Fqe⟩ := fl_div fm g_10000 (by omega) (by omega)
  obtain ⟨i0, hi0, ia, ib⟩ := fl_toInt (K := 22) (Fqe.mono (by omega)) (by omega)
  have e23 : ((2 ^ (22 + 1) : Nat) : Int) = 8388608 := rfl
  rw [e23] at ia ib
  have HE : Hid (∀ u, Calls Try.prog 133 #[.float .f64 qe, .int .i64 (max 0 cc - t * s), .int .i64 10000] u fun e w' => e = .returned (.int .i64 ((max 0 cc - t * s) / 10000)) ∧ u = w') := fun u => c_makeExact qe i0 _ 10000 u hi0 (by omega) (by omega) (by omega) (by omega) (by omega) (by omega) (by omega) (by omega)
  have hoq : ∀ T w, (binOp .quo T (.float .f64 (floatOfInt .f64 (max 0 cc - t * s))) (.float .f64 4666723172467343360)).run Try.prog w = .ok (.float .f64 qe) w := fun T w => run_float_arith w .quo T .f64 _ _ qe hqe
  have wx : IntKind.i64.wrap (t * s) = t * s := IntWalk.i64_in _ (by omega)
  have wy : IntKind.i64.wrap (max 0 cc - t * s) = max 0 cc - t * s := IntWalk.i64_in _ (by omega)
  clear hqe hi0 ia ib Fqe fm e23 x1 x2 x3 x4
  generalize (max 0 cc - t * s) / 10000 = R at *
  have a0 : (0 : Int) ≤ (k : Int) := by omega
  have a1 : (k : Int) < (n1 : Int) := by omega
  have HC1 := Lib.hid hc1
  have HX0 : Hid (Box6 ((w.alloc (.cells #[.int .i64 x, .int .i64 y, .int .i64 z, .slice (some ⟨b1, o1, none⟩) n1 c1, .slice A2 n2 c2, .slice A3 n3 c3] 34)).alloc (.cells #[.int .i64 p, .int .i64 q, .int .i64 r, .int .i64 s] 51)) w.heap.size x y z (.slice (some ⟨b1, o1, none⟩) n1 c1) (.slice A2 n2 c2) (.slice A3 n3 c3)) := (Box6.new _ _ _ _ _ _ _ _).below ((Below.refl _ _).alloc (Nat.le_refl _) _)
  have HY0 : Hid (Box4 ((w.alloc (.cells #[.int .i64 x, .int .i64 y, .int .i64 z, .slice (some ⟨b1, o1, none⟩) n1 c1, .slice A2 n2 c2, .slice A3 n3 c3] 34)).alloc (.cells #[.int .i64 p, .int .i64 q, .int .i64 r, .int .i64 s] 51)) (w.heap.size + 1) p q r s) := by
    have := Box4.new (w.alloc (.cells #[.int .i64 x, .int .i64 y, .int .i64 z, .slice (some ⟨b1, o1, none⟩) n1 c1, .slice A2 n2 c2, .slice A3 n3 c3] 34)) p q r s 51
    simp at this
    exact this
  have HB0 : Hid (Below w.heap.size w ((w.alloc (.cells #[.int .i64 x, .int .i64 y, .int .i64 z, .slice (some ⟨b1, o1, none⟩) n1 c1, .slice A2 n2 c2, .slice A3 n3 c3] 34)).alloc (.cells #[.int .i64 p, .int .i64 q, .int .i64 r, .int .i64 s] 51))) := ((Below.refl _ _).alloc (Nat.le_refl _) _).alloc (by simp) _
  clear hc1
  rcases (by omega : (0 < cc ∧ max 0 cc = cc) ∨ (cc ≤ 0 ∧ max 0 cc = 0)) with ⟨hc, hm⟩ | ⟨hc, hm⟩
  · simp only [hm] at wy HE hoq z0
    clear hm
    go_enter Try.func75, Try.ntmps75
    go_wp2_with fail
    generalize ((w.alloc (.cells #[.int .i64 x, .int .i64 y, .int .i64 z, .slice (some ⟨b1, o1, none⟩) n1 c1, .slice A2 n2 c2, .slice A3 n3 c3] 34)).alloc (.cells #[.int .i64 p, .int .i64 q, .int .i64 r, .int .i64 s] 51)) = W at *
    have KE : Hid (∀ u, Below W.heap.size W u → Below w.heap.size w u ∧ (u.cell? ⟨w.heap.size, 0, none⟩ = some (.int .i64 x) ∧ u.cell? ⟨w.heap.size, 1, none⟩ = some (.int .i64 y) ∧ u.cell? ⟨w.heap.size, 2, none⟩ = some (.int .i64 z) ∧ u.cell? ⟨w.heap.size, 3, none⟩ = some (.slice (some ⟨b1, o1, none⟩) n1 c1) ∧ u.cell? ⟨w.heap.size, 4, none⟩ = some (.slice A2 n2 c2) ∧ u.cell? ⟨w.heap.size, 5, none⟩ = some (.slice A3 n3 c3) ∧ u.cell? ⟨w.heap.size + 1, 0, none⟩ = some (.int .i64 p) ∧ u.cell? ⟨w.heap.size + 1, 1, none⟩ = some (.int .i64 q) ∧ u.cell? ⟨w.heap.size + 1, 2, none⟩ = some (.int .i64 r) ∧ u.cell? ⟨w.heap.size + 1, 3, none⟩ = some (.int .i64 s) ∧ u.cell? ⟨b1, o1 + k, none⟩ = some (.int .i64 t))) := fun u hu => by
      have hX := HX0.out.below hu
      have hY := HY0.out.below hu
      have hB := HB0.out.trans (hu.mono HB0.out.size)
      exact ⟨hB, hX.c0, hX.c1, hX.c2, hX.c3, hX.c4, hX.c5, hY.c0, hY.c1, hY.c2, hY.c3, by rw [hB.cell (p := ⟨b1, o1 + k, none⟩) hb1]; exact HC1.out⟩
    clear HX0 HY0
    have KD : Hid (Below W.heap.size W W.drew) := (Below.refl _ _).drew
    go_region_held3 (fun u => u.cell? ⟨w.heap.size, 0, none⟩ = some (.int .i64 x) ∧ u.cell? ⟨w.heap.size, 1, none⟩ = some (.int .i64 y) ∧ u.cell? ⟨w.heap.size, 2, none⟩ = some (.int .i64 z) ∧ u.cell? ⟨w.heap.size, 3, none⟩ = some (.slice (some ⟨b1, o1, none⟩) n1 c1) ∧ u.cell? ⟨w.heap.size, 4, none⟩ = some (.slice A2 n2 c2) ∧ u.cell? ⟨w.heap.size, 5, none⟩ = some (.slice A3 n3 c3) ∧ u.cell? ⟨w.heap.size + 1, 0, none⟩ = some (.int .i64 p) ∧ u.cell? ⟨w.heap.size + 1, 1, none⟩ = some (.int .i64 q) ∧ u.cell? ⟨w.heap.size + 1, 2, none⟩ = some (.int .i64 r) ∧ u.cell? ⟨w.heap.size + 1, 3, none⟩ = some (.int .i64 s) ∧ u.cell? ⟨b1, o1 + k, none⟩ = some (.int .i64 t)) (first | exact (KE.out _ KD.out).2 | exact HS1.out.2)
      (first | (go_at_call 132; refine (C.out _ (KE.out _ KD.out).1).mono ?_; rintro e w1 ⟨rfl, hb⟩; have hbd := KD.out.trans (hb.mono KD.out.size); have HS1 := Lib.hid (KE.out w1 hbd); clear hb hbd))
    have HB1 := Lib.hid HS1.out.1
    clear HS1 KE C
    go_wp2_with (simp only [hoq])
    refine (HE.out _).mono ?_
    rintro e w2 ⟨rfl, rfl⟩
    go_wp2
    go_ret
    exact ⟨rfl, HB1.out⟩
  · simp only [hm, Int.zero_sub] at wy HE hoq z0
    clear hm
    go_enter Try.func75, Try.ntmps75
    go_wp2_with fail
    generalize ((w.alloc (.cells #[.int .i64 x, .int .i64 y, .int .i64 z, .slice (some ⟨b1, o1, none⟩) n1 c1, .slice A2 n2 c2, .slice A3 n3 c3] 34)).alloc (.cells #[.int .i64 p, .int .i64 q, .int .i64 r, .int .i64 s] 51)) = W at *
    have KE : Hid (∀ u, Below W.heap.size W u → Below w.heap.size w u ∧ (u.cell? ⟨w.heap.size, 0, none⟩ = some (.int .i64 x) ∧ u.cell? ⟨w.heap.size, 1, none⟩ = some (.int .i64 y) ∧ u.cell? ⟨w.heap.size, 2, none⟩ = some (.int .i64 z) ∧ u.cell? ⟨w.heap.size, 3, none⟩ = some (.slice (some ⟨b1, o1, none⟩) n1 c1) ∧ u.cell? ⟨w.heap.size, 4, none⟩ = some (.slice A2 n2 c2) ∧ u.cell? ⟨w.heap.size, 5, none⟩ = some (.slice A3 n3 c3) ∧ u.cell? ⟨w.heap.size + 1, 0, none⟩ = some (.int .i64 p) ∧ u.cell? ⟨w.heap.size + 1, 1, none⟩ = some (.int .i64 q) ∧ u.cell? ⟨w.heap.size + 1, 2, none⟩ = some (.int .i64 r) ∧ u.cell? ⟨w.heap.size + 1, 3, none⟩ = some (.int .i64 s) ∧ u.cell? ⟨b1, o1 + k, none⟩ = some (.int .i64 t))) := fun u hu => by
      have hX := HX0.out.below hu
      have hY := HY0.out.below hu
      have hB := HB0.out.trans (hu.mono HB0.out.size)
      exact ⟨hB, hX.c0, hX.c1, hX.c2, hX.c3, hX.c4, hX.c5, hY.c0, hY.c1, hY.c2, hY.c3, by rw [hB.cell (p := ⟨b1, o1 + k, none⟩) hb1]; exact HC1.out⟩
    clear HX0 HY0
    have KD : Hid (Below W.heap.size W W.drew) := (Below.refl _ _).drew
    go_region_held3 (fun u => u.cell? ⟨w.heap.size, 0, none⟩ = some (.int .i64 x) ∧ u.cell? ⟨w.heap.size, 1, none⟩ = some (.int .i64 y) ∧ u.cell? ⟨w.heap.size, 2, none⟩ = some (.int .i64 z) ∧ u.cell? ⟨w.heap.size, 3, none⟩ = some (.slice (some ⟨b1, o1, none⟩) n1 c1) ∧ u.cell? ⟨w.heap.size, 4, none⟩ = some (.slice A2 n2 c2) ∧ u.cell? ⟨w.heap.size, 5, none⟩ = some (.slice A3 n3 c3) ∧ u.cell? ⟨w.heap.size + 1, 0, none⟩ = some (.int .i64 p) ∧ u.cell? ⟨w.heap.size + 1, 1, none⟩ = some (.int .i64 q) ∧ u.cell? ⟨w.heap.size + 1, 2, none⟩ = some (.int .i64 r) ∧ u.cell? ⟨w.heap.size + 1, 3, none⟩ = some (.int .i64 s) ∧ u.cell? ⟨b1, o1 + k, none⟩ = some (.int .i64 t)) (first | exact (KE.out _ KD.out).2 | exact HS1.out.2)
      (first | (go_at_call 132; refine (C.out _ (KE.out _ KD.out).1).mono ?_; rintro e w1 ⟨rfl, hb⟩; have hbd := KD.out.trans (hb.mono KD.out.size); have HS1 := Lib.hid (KE.out w1 hbd); clear hb hbd))
    have HB1 := Lib.hid HS1.out.1
    clear HS1 KE C
    go_wp2_with (simp only [hoq])
    refine (HE.out _).mono ?_
    rintro e w2 ⟨rfl, rfl⟩
    go_wp2
    go_ret
    exact ⟨rfl, HB1.out⟩

theorem cim_eq (m t p q r : Int) : m * q * p / 1000 - t * r = cimV m t p q r := by
  unfold cimV
  rw [Int.mul_assoc m q p, Int.mul_left_comm t 1000 r]
  omega

set_option maxHeartbeats 4000000 in
set_option maxRecDepth 100000 in
theorem c_vaPrice (x y z : Int) (v1 v2 v3 : Value) (ts gs rs : List Int) (p q r s : Int) (k : Nat) (w : World) (h : Look w v1 v2 v3 ts gs rs) (k1 : k < ts.length) (k2 : k < gs.length) (l1 : ts.length ≤ 4000000) (l2 : gs.length ≤ 4000000)
    (t0 : 0 ≤ ts.getD k 0) (t1 : ts.getD k 0 ≤ 10000) (g0 : 0 ≤ gs.getD k 0) (g1 : gs.getD k 0 ≤ 1000) (hp : priB p q r s = true) :
    Calls Try.prog 73 #[.agg #[.int .i64 x, .int .i64 y, .int .i64 z, v1, v2, v3], .agg #[.int .i64 p, .int .i64 q, .int .i64 r, .int .i64 s], .int .i64 k] w fun e w' => e = .returned (.int .i64 (worV (metal ts gs k) (ts.getD k 0) p q r s)) ∧ Below w.heap.size w w' := by
  obtain ⟨p0, p1, q0, q1, r0, r1, s0, s1⟩ := pri_yes hp
  obtain ⟨mp0, mp1⟩ := cut_box3 p0 p1 q0 q1
  obtain ⟨me0, me1⟩ := met_le t0 t1 g0 g1
  have C : Hid (∀ u : World, Below w.heap.size w u → Calls Try.prog 113 #[.agg #[.int .i64 x, .int .i64 y, .int .i64 z, v1, v2, v3], .int .i64 k] u fun e w' => e = .returned (.int .i64 (metal ts gs k)) ∧ Below u.heap.size u w') := fun u hu => c_moMetal x y z v1 v2 v3 ts gs rs k u (h.below hu) k1 k2 l1 l2 t0 t1 g0 g1
  obtain ⟨b1, o1, c1, rfl, hb1, hc1⟩ := h.t.at_ k1
  obtain ⟨A2, c2, rfl⟩ := h.g.shape
  obtain ⟨A3, c3, rfl⟩ := h.r.shape
  clear h hp
  change 0 ≤ metal ts gs k at me0
  change metal ts gs k ≤ 10000000 at me1
  generalize metal ts gs k = m at *
  generalize ts.getD k 0 = t at *
  generalize ts.length = n1 at *
  generalize gs.length = n2 at *
  generalize rs.length = n3 at *
  obtain ⟨x1, x2, x3, x4, x5, x6⟩ := cim_box me0 me1 t0 t1 mp0 mp1 r0 r1
  have u0 : 0 ≤ m * q := Int.mul_nonneg me0 q0
  have u1 : m * q ≤ 10000000000 := by
    have a : m * q ≤ 10000000 * q := Int.mul_le_mul_of_nonneg_right me1 q0
    omega
  have u2 : 0 ≤ m * q * p := Int.mul_nonneg u0 p0
  have u3 : m * q * p ≤ 10000000000000 := by
    have a : m * q * p ≤ 10000000000 * p := Int.mul_le_mul_of_nonneg_right u1 p0
    omega
  have u4 : 0 ≤ t * r := Int.mul_nonneg t0 r0
  have u5 : t * r ≤ 10000000 := by
    have a : t * r ≤ 10000 * r := Int.mul_le_mul_of_nonneg_right t1 r0
    omega
  have y0 : 0 ≤ t * s := Int.mul_nonneg t0 s0
  have y1 : t * s ≤ 10000000 := by
    have a : t * s ≤ 10000 * s := Int.mul_le_mul_of_nonneg_right t1 s0
    omega
  have ed : (m * q * p).tdiv 1000 = m * q * p / 1000 := Int.tdiv_eq_ediv_of_nonneg u2
  have u6 : 0 ≤ m * q * p / 1000 := by omega
  have u7 : m * q * p / 1000 ≤ 10000000000 := by omega
  have wa : IntKind.i64.wrap (m * q) = m * q := IntWalk.i64_in _ (by omega)
  have wb : IntKind.i64.wrap (m * q * p) = m * q * p := IntWalk.i64_in _ (by omega)
  have wc : IntKind.i64.wrap (m * q * p / 1000) = m * q * p / 1000 := IntWalk.i64_in _ (by omega)
  have wd : IntKind.i64.wrap (t * r) = t * r := IntWalk.i64_in _ (by omega)
  have we : IntKind.i64.wrap (m * q * p / 1000 - t * r) = cimV m t p q r := by rw [IntWalk.i64_in _ (by omega)]; exact cim_eq m t p q r
  have wf : IntKind.i64.wrap (t * s) = t * s := IntWalk.i64_in _ (by omega)
  have wg : IntKind.i64.wrap (max 0 (cimV m t p q r) - t * s) = max 0 (cimV m t p q r) - t * s := IntWalk.i64_in _ (by omega)
  unfold worV
  generalize cimV m t p q r = cc at *
  have z0 : 0 ≤ max 0 cc ∧ max 0 cc ≤ 10000000000 := by omega
  have HD : Hid (∀ u, Calls Try.prog 130 #[.int .i64 (max 0 cc - t * s), .int .i64 10000] u fun e w' => e = .returned (.int .i64 ((max 0 cc - t * s) / 10000)) ∧ u = w') := fun u => by
    have := c_ruDown (max 0 cc - t * s) 10000 u (by omega) (by omega) (by omega) (by omega) (by omega)
    rw [dn_pos] at this
    exact this
  have HM : Hid (∀ u, Calls Try.prog 131 #[.int .i64 0, .int .i64 cc] u fun e w' => e = .returned (.int .i64 (max 0 cc)) ∧ u = w') := fun u => c_most 0 cc u
  clear x1 x2 x3 x4 mp0 mp1
  have a0 : (0 : Int) ≤ (k : Int) := by omega
  have a1 : (k : Int) < (n1 : Int) := by omega
  have HC1 := Lib.hid hc1
  have HX0 : Hid (Box6 ((w.alloc (.cells #[.int .i64 x, .int .i64 y, .int .i64 z, .slice (some ⟨b1, o1, none⟩) n1 c1, .slice A2 n2 c2, .slice A3 n3 c3] 34)).alloc (.cells #[.int .i64 p, .int .i64 q, .int .i64 r, .int .i64 s] 51)) w.heap.size x y z (.slice (some ⟨b1, o1, none⟩) n1 c1) (.slice A2 n2 c2) (.slice A3 n3 c3)) := (Box6.new _ _ _ _ _ _ _ _).below ((Below.refl _ _).alloc (Nat.le_refl _) _)
  have HY0 : Hid (Box4 ((w.alloc (.cells #[.int .i64 x, .int .i64 y, .int .i64 z, .slice (some ⟨b1, o1, none⟩) n1 c1, .slice A2 n2 c2, .slice A3 n3 c3] 34)).alloc (.cells #[.int .i64 p, .int .i64 q, .int .i64 r, .int .i64 s] 51)) (w.heap.size + 1) p q r s) := by
    have := Box4.new (w.alloc (.cells #[.int .i64 x, .int .i64 y, .int .i64 z, .slice (some ⟨b1, o1, none⟩) n1 c1, .slice A2 n2 c2, .slice A3 n3 c3] 34)) p q r s 51
    simp at this
    exact this
  have HB0 : Hid (Below w.heap.size w ((w.alloc (.cells #[.int .i64 x, .int .i64 y, .int .i64 z, .slice (some ⟨b1, o1, none⟩) n1 c1, .slice A2 n2 c2, .slice A3 n3 c3] 34)).alloc (.cells #[.int .i64 p, .int .i64 q, .int .i64 r, .int .i64 s] 51))) := ((Below.refl _ _).alloc (Nat.le_refl _) _).alloc (by simp) _
  clear hc1
  go_enter Try.func73, Try.ntmps73
  go_wp2_with fail
  generalize ((w.alloc (.cells #[.int .i64 x, .int .i64 y, .int .i64 z, .slice (some ⟨b1, o1, none⟩) n1 c1, .slice A2 n2 c2, .slice A3 n3 c3] 34)).alloc (.cells #[.int .i64 p, .int .i64 q, .int .i64 r, .int .i64 s] 51)) = W at *
  have KE : Hid (∀ u, Below W.heap.size W u → Below w.heap.size w u ∧ (u.cell? ⟨w.heap.size, 0, none⟩ = some (.int .i64 x) ∧ u.cell? ⟨w.heap.size, 1, none⟩ = some (.int .i64 y) ∧ u.cell? ⟨w.heap.size, 2, none⟩ = some (.int .i64 z) ∧ u.cell? ⟨w.heap.size, 3, none⟩ = some (.slice (some ⟨b1, o1, none⟩) n1 c1) ∧ u.cell? ⟨w.heap.size, 4, none⟩ = some (.slice A2 n2 c2) ∧ u.cell? ⟨w.heap.size, 5, none⟩ = some (.slice A3 n3 c3) ∧ u.cell? ⟨w.heap.size + 1, 0, none⟩ = some (.int .i64 p) ∧ u.cell? ⟨w.heap.size + 1, 1, none⟩ = some (.int .i64 q) ∧ u.cell? ⟨w.heap.size + 1, 2, none⟩ = some (.int .i64 r) ∧ u.cell? ⟨w.heap.size + 1, 3, none⟩ = some (.int .i64 s) ∧ u.cell? ⟨b1, o1 + k, none⟩ = some (.int .i64 t))) := fun u hu => by
    have hX := HX0.out.below hu
    have hY := HY0.out.below hu
    have hB := HB0.out.trans (hu.mono HB0.out.size)
    exact ⟨hB, hX.c0, hX.c1, hX.c2, hX.c3, hX.c4, hX.c5, hY.c0, hY.c1, hY.c2, hY.c3, by rw [hB.cell (p := ⟨b1, o1 + k, none⟩) hb1]; exact HC1.out⟩
  clear HX0 HY0
  have KD : Hid (Below W.heap.size W W.drew) := (Below.refl _ _).drew
  go_region_held3 (fun u => u.cell? ⟨w.heap.size, 0, none⟩ = some (.int .i64 x) ∧ u.cell? ⟨w.heap.size, 1, none⟩ = some (.int .i64 y) ∧ u.cell? ⟨w.heap.size, 2, none⟩ = some (.int .i64 z) ∧ u.cell? ⟨w.heap.size, 3, none⟩ = some (.slice (some ⟨b1, o1, none⟩) n1 c1) ∧ u.cell? ⟨w.heap.size, 4, none⟩ = some (.slice A2 n2 c2) ∧ u.cell? ⟨w.heap.size, 5, none⟩ = some (.slice A3 n3 c3) ∧ u.cell? ⟨w.heap.size + 1, 0, none⟩ = some (.int .i64 p) ∧ u.cell? ⟨w.heap.size + 1, 1, none⟩ = some (.int .i64 q) ∧ u.cell? ⟨w.heap.size + 1, 2, none⟩ = some (.int .i64 r) ∧ u.cell? ⟨w.heap.size + 1, 3, none⟩ = some (.int .i64 s) ∧ u.cell? ⟨b1, o1 + k, none⟩ = some (.int .i64 t)) (first | exact (KE.out _ KD.out).2 | exact HS1.out.2)
    (first | (go_at_call 113; refine (C.out _ (KE.out _ KD.out).1).mono ?_; rintro e w1 ⟨rfl, hb⟩; have hbd := KD.out.trans (hb.mono KD.out.size); have HS1 := Lib.hid (KE.out w1 hbd); have HW1 := Lib.hid hbd; clear hb hbd))
  have KD1 : Hid (Below W.heap.size W w1.drew) := HW1.out.drew
  go_wp2_with fail
  go_region_held3 (fun u => u.cell? ⟨w.heap.size, 0, none⟩ = some (.int .i64 x) ∧ u.cell? ⟨w.heap.size, 1, none⟩ = some (.int .i64 y) ∧ u.cell? ⟨w.heap.size, 2, none⟩ = some (.int .i64 z) ∧ u.cell? ⟨w.heap.size, 3, none⟩ = some (.slice (some ⟨b1, o1, none⟩) n1 c1) ∧ u.cell? ⟨w.heap.size, 4, none⟩ = some (.slice A2 n2 c2) ∧ u.cell? ⟨w.heap.size, 5, none⟩ = some (.slice A3 n3 c3) ∧ u.cell? ⟨w.heap.size + 1, 0, none⟩ = some (.int .i64 p) ∧ u.cell? ⟨w.heap.size + 1, 1, none⟩ = some (.int .i64 q) ∧ u.cell? ⟨w.heap.size + 1, 2, none⟩ = some (.int .i64 r) ∧ u.cell? ⟨w.heap.size + 1, 3, none⟩ = some (.int .i64 s) ∧ u.cell? ⟨b1, o1 + k, none⟩ = some (.int .i64 t)) (first | exact (KE.out _ KD1.out).2)
    (first | (go_at_call 131; refine (HM.out _).mono ?_; rintro e w2 ⟨rfl, rfl⟩) | (go_at_call 130; refine (HD.out _).mono ?_; rintro e w2 ⟨rfl, rfl⟩))
  have HB1 := Lib.hid (KE.out _ KD1.out).1
  go_wp2
  go_ret
  exact ⟨rfl, HB1.out⟩

end Go.Proofs.Ytdodmcmkelegoaa
