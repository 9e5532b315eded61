/-
  Contracts: RichestBlock, in the program and in the model of it.
-/
import Derived.Test.YtglcdgonbmdhoaaM6
import Derived.Test.YtglcdgonbmdhoaaGrow
import Derived.Deep.RegionWith
import Derived.Deep.DeepCutAuto
namespace Go.Proofs.Ytglcdgonbmdhoaa
open Go.RowKit
set_option linter.unusedVariables false

/-- The first of the first k places with the greatest value. -/
def richN (f : Nat → Int) : Nat → Nat
  | 0 => 0
  | k + 1 => if f k > f (richN f k) then k else richN f k
theorem rich_lt (f : Nat → Int) : ∀ k, richN f k ≤ k - 1
  | 0 => Nat.le_refl _
  | k + 1 => by
    have := rich_lt f k
    unfold richN
    split <;> omega
def richV (x y z : Int) (ts gs rs : List Int) : Int := if moB x y z ts gs rs then (richN (metal ts gs) ts.length : Int) else 0

set_option maxHeartbeats 2000000 in
theorem c_RichestBlock (x y z : Int) (v1 v2 v3 : Value) (ts gs rs : List Int) (w : World) (l1 : ts.length ≤ 4000000) (l2 : gs.length ≤ 4000000) (l3 : rs.length ≤ 4000000) (h : Look w v1 v2 v3 ts gs rs) :
    Calls Try.prog 24 #[.agg #[.int .i64 x, .int .i64 y, .int .i64 z, v1, v2, v3]] w fun e w' => e = .returned (.tuple #[.int .i64 (richV x y z ts gs rs), .bool (moB x y z ts gs rs)]) ∧ Below w.heap.size w w' := by
  have H := Lib.hid h
  obtain ⟨A1, c1, rfl⟩ := h.t.shape
  obtain ⟨A2, c2, rfl⟩ := h.g.shape
  obtain ⟨A3, c3, rfl⟩ := h.r.shape
  clear h
  have HX0 : Hid (Box6 (w.alloc (.cells #[.int .i64 x, .int .i64 y, .int .i64 z, (.slice A1 ts.length c1), (.slice A2 gs.length c2), (.slice A3 rs.length c3)] 32)) w.heap.size x y z (.slice A1 ts.length c1) (.slice A2 gs.length c2) (.slice A3 rs.length c3)) := Box6.new _ _ _ _ _ _ _ _
  have HB0 : Hid (Below w.heap.size w (w.alloc (.cells #[.int .i64 x, .int .i64 y, .int .i64 z, (.slice A1 ts.length c1), (.slice A2 gs.length c2), (.slice A3 rs.length c3)] 32))) := (Below.refl _ _).alloc (Nat.le_refl _) _
  unfold richV
  cases hm : moB x y z ts gs rs
  · have HM := Lib.hid hm
    simp only [Bool.false_eq_true, if_false]
    clear hm
    go_enter Try.func24, Try.ntmps24
    go_wp2_with fail
    refine (c_IsModel x y z _ _ _ ts gs rs _ l1 l2 l3 (H.out.below HB0.out)).mono ?_
    rintro e w1 ⟨rfl, hb1⟩
    rw [HM.out]
    have HX1 := Lib.hid (HX0.out.below hb1)
    have HB1 : Hid (Below w.heap.size w w1) := HB0.out.trans (hb1.mono HB0.out.size)
    clear hb1
    go_wp2
    go_ret2
    exact ⟨rfl, HB1.out⟩
  · have HM := Lib.hid hm
    simp only [if_true]
    have E1 : Hid (∀ k : Nat, k < ts.length → k < gs.length ∧ 0 ≤ ts.getD k 0 ∧ ts.getD k 0 ≤ 10000 ∧ 0 ≤ gs.getD k 0 ∧ gs.getD k 0 ≤ 1000 ∧ 0 ≤ metal ts gs k ∧ metal ts gs k ≤ 10000000) := fun k hk => by
      obtain ⟨k1, k2, k3, t0, t1, g0, g1, r0, r1, m0, m1⟩ := metal_box hm (k := k) (by have := (mo_true hm).2.1; omega)
      exact ⟨k2, t0, t1, g0, g1, m0, m1⟩
    have E2 : Hid (∀ k, richN (metal ts gs) k ≤ k - 1) := rich_lt _
    have E3 : Hid (∀ k, metal ts gs k > metal ts gs (richN (metal ts gs) k) → richN (metal ts gs) (k + 1) = k) := fun k hk => if_pos hk
    have E4 : Hid (∀ k, metal ts gs k ≤ metal ts gs (richN (metal ts gs) k) → richN (metal ts gs) (k + 1) = richN (metal ts gs) k) := fun k hk => if_neg (by omega)
    have E5 : Hid (richN (metal ts gs) 0 = 0) := rfl
    have HC : Hid (∀ (k : Nat) (u : World), k < ts.length → Below w.heap.size w u → Calls Try.prog 48 #[.agg #[.int .i64 x, .int .i64 y, .int .i64 z, .slice A1 ts.length c1, .slice A2 gs.length c2, .slice A3 rs.length c3], .int .i64 k] u fun e w' => e = .returned (.int .i64 (metal ts gs k)) ∧ Below u.heap.size u w') := fun k u hk hu => by
      obtain ⟨k2, t0, t1, g0, g1, _⟩ := E1.out k hk
      exact c_metalIn x y z _ _ _ ts gs rs k u (H.out.below hu) hk k2 l1 l2 t0 t1 g0 g1
    have E0 : Hid (0 < ts.length) := by
      have h1 := mo_true hm
      obtain ⟨x1, x2, y1, y2, z1, z2, _⟩ := good_true h1.1
      have : 0 < x * y * z := Int.mul_pos (Int.mul_pos (by omega) (by omega)) (by omega)
      unfold Hid; omega
    clear hm
    generalize richN (metal ts gs) = R at *
    generalize metal ts gs = f at *
    go_enter Try.func24, Try.ntmps24
    go_wp2_with fail
    refine (c_IsModel x y z _ _ _ ts gs rs _ l1 l2 l3 (H.out.below HB0.out)).mono ?_
    rintro e w1 ⟨rfl, hb1⟩
    rw [HM.out]
    have HX1 := Lib.hid (HX0.out.below hb1)
    have HB1 : Hid (Below w.heap.size w w1) := HB0.out.trans (hb1.mono HB0.out.size)
    clear hb1
    have d1_0 := HX1.out.c0
    have d1_1 := HX1.out.c1
    have d1_2 := HX1.out.c2
    have d1_3 := HX1.out.c3
    have d1_4 := HX1.out.c4
    have d1_5 := HX1.out.c5
    go_wp2_with fail
    go_loopw [4, 12] (fun q i wr => ∃ k : Nat, k ≤ ts.length ∧ i = .int .i64 k ∧ q = .int .i64 (R k : Nat) ∧ Below w.heap.size w wr ∧ Box6 wr w.heap.size x y z (.slice A1 ts.length c1) (.slice A2 gs.length c2) (.slice A3 rs.length c3)) (fun _ i _ => ts.length - (intOf i).toNat)
    case atStart => exact ⟨0, Nat.zero_le _, rfl, by rw [E5.out]; rfl, HB1.out, HX1.out⟩
    case round =>
      obtain ⟨k, hk, rfl, rfl, hbw, hbx⟩ := hrel
      have HB := Lib.hid hbw
      have HX := Lib.hid hbx
      clear hbw hbx
      by_cases hlt : k < ts.length
      · have e0 := E0.out
        have hR : R k < ts.length := by have := E2.out k; omega
        obtain ⟨_, _, _, _, _, m0, m1⟩ := E1.out k hlt
        obtain ⟨_, _, _, _, _, n0, n1⟩ := E1.out (R k) hR
        have e3 : Hid (f k > f (R k) → R (k + 1) = k) := E3.out k
        have e4 : Hid (f k ≤ f (R k) → R (k + 1) = R k) := fun h => E4.out k h
        have d0 := HX.out.c0
        have d1 := HX.out.c1
        have d2 := HX.out.c2
        have d3 := HX.out.c3
        have d4 := HX.out.c4
        have d5 := HX.out.c5
        generalize R k = j at *
        have dlt := HX.out.lt
        have HCB : Hid (∀ u, Below w.heap.size w (wOf wr u)) := fun u => HB.out.trans ((wOf_below wr u).mono HB.out.size)
        go_wp2_with fail
        refine wp_region_grow (by kernel_rfl) (by kernel_rfl) ?_
        repeat (go_big_quiet_step ((go_at_call 48; exact grow_of (HC.out _ _ (by assumption) (HCB.out _)))))
        refine wpQuiet_nil ?_
        intro _ hw'
        obtain ⟨u, hw''⟩ := hw'
        subst hw''
        have hb2 := wOf_below wr u
        generalize wOf wr u = w2 at hb2 ⊢
        have HB2 : Hid (Below w.heap.size w w2) := HB.out.trans (hb2.mono HB.out.size)
        have HX2 := Lib.hid (HX.out.below hb2)
        clear hb2
        by_cases hpq : f j < f k
        · have G := Lib.hid (e3.out hpq)
          go_wp2
          go_roundw
          case rel => exact ⟨k + 1, by omega, by go_num, by rw [G.out], HB2.out, HX2.out⟩
          case measure => simp [intOf]; omega
        · have G := Lib.hid (e4.out (by omega))
          go_wp2
          go_roundw
          case rel => exact ⟨k + 1, by omega, by go_num, by rw [G.out], HB2.out, HX2.out⟩
          case measure => simp [intOf]; omega
      · obtain rfl : k = ts.length := by omega
        go_wp2
        go_ret2
        exact ⟨rfl, HB.out⟩

set_option maxHeartbeats 2000000 in
theorem c_RichestBlockS (x y z : Int) (v1 v2 v3 : Value) (ts gs rs : List Int) (w : World) (l1 : ts.length ≤ 4000000) (l2 : gs.length ≤ 4000000) (l3 : rs.length ≤ 4000000) (h : Look w v1 v2 v3 ts gs rs) :
    Calls Try.prog 23 #[.agg #[.int .i64 x, .int .i64 y, .int .i64 z, v1, v2, v3]] w fun e w' => e = .returned (.tuple #[.int .i64 (richV x y z ts gs rs), .bool (moB x y z ts gs rs)]) ∧ Below w.heap.size w w' := by
  have H := Lib.hid h
  obtain ⟨A1, c1, rfl⟩ := h.t.shape
  obtain ⟨A2, c2, rfl⟩ := h.g.shape
  obtain ⟨A3, c3, rfl⟩ := h.r.shape
  clear h
  have HX0 : Hid (Box6 (w.alloc (.cells #[.int .i64 x, .int .i64 y, .int .i64 z, (.slice A1 ts.length c1), (.slice A2 gs.length c2), (.slice A3 rs.length c3)] 32)) w.heap.size x y z (.slice A1 ts.length c1) (.slice A2 gs.length c2) (.slice A3 rs.length c3)) := Box6.new _ _ _ _ _ _ _ _
  have HB0 : Hid (Below w.heap.size w (w.alloc (.cells #[.int .i64 x, .int .i64 y, .int .i64 z, (.slice A1 ts.length c1), (.slice A2 gs.length c2), (.slice A3 rs.length c3)] 32))) := (Below.refl _ _).alloc (Nat.le_refl _) _
  unfold richV
  cases hm : moB x y z ts gs rs
  · have HM := Lib.hid hm
    simp only [Bool.false_eq_true, if_false]
    clear hm
    go_enter Try.func23, Try.ntmps23
    go_wp2_with fail
    refine (c_moGood x y z _ _ _ ts gs rs _ l1 l2 l3 (H.out.below HB0.out)).mono ?_
    rintro e w1 ⟨rfl, hb1⟩
    rw [HM.out]
    have HX1 := Lib.hid (HX0.out.below hb1)
    have HB1 : Hid (Below w.heap.size w w1) := HB0.out.trans (hb1.mono HB0.out.size)
    clear hb1
    go_wp2
    go_ret2
    exact ⟨rfl, HB1.out⟩
  · have HM := Lib.hid hm
    simp only [if_true]
    have E1 : Hid (∀ k : Nat, k < ts.length → k < gs.length ∧ 0 ≤ ts.getD k 0 ∧ ts.getD k 0 ≤ 10000 ∧ 0 ≤ gs.getD k 0 ∧ gs.getD k 0 ≤ 1000 ∧ 0 ≤ metal ts gs k ∧ metal ts gs k ≤ 10000000) := fun k hk => by
      obtain ⟨k1, k2, k3, t0, t1, g0, g1, r0, r1, m0, m1⟩ := metal_box hm (k := k) (by have := (mo_true hm).2.1; omega)
      exact ⟨k2, t0, t1, g0, g1, m0, m1⟩
    have E2 : Hid (∀ k, richN (metal ts gs) k ≤ k - 1) := rich_lt _
    have E3 : Hid (∀ k, metal ts gs k > metal ts gs (richN (metal ts gs) k) → richN (metal ts gs) (k + 1) = k) := fun k hk => if_pos hk
    have E4 : Hid (∀ k, metal ts gs k ≤ metal ts gs (richN (metal ts gs) k) → richN (metal ts gs) (k + 1) = richN (metal ts gs) k) := fun k hk => if_neg (by omega)
    have E5 : Hid (richN (metal ts gs) 0 = 0) := rfl
    have HC : Hid (∀ (k : Nat) (u : World), k < ts.length → Below w.heap.size w u → Calls Try.prog 44 #[.agg #[.int .i64 x, .int .i64 y, .int .i64 z, .slice A1 ts.length c1, .slice A2 gs.length c2, .slice A3 rs.length c3], .int .i64 k] u fun e w' => e = .returned (.int .i64 (metal ts gs k)) ∧ Below u.heap.size u w') := fun k u hk hu => by
      obtain ⟨k2, t0, t1, g0, g1, _⟩ := E1.out k hk
      exact c_moMetal x y z _ _ _ ts gs rs k u (H.out.below hu) hk k2 l1 l2 t0 t1 g0 g1
    have E0 : Hid (0 < ts.length) := by
      have h1 := mo_true hm
      obtain ⟨x1, x2, y1, y2, z1, z2, _⟩ := good_true h1.1
      have : 0 < x * y * z := Int.mul_pos (Int.mul_pos (by omega) (by omega)) (by omega)
      unfold Hid; omega
    clear hm
    generalize richN (metal ts gs) = R at *
    generalize metal ts gs = f at *
    go_enter Try.func23, Try.ntmps23
    go_wp2_with fail
    refine (c_moGood x y z _ _ _ ts gs rs _ l1 l2 l3 (H.out.below HB0.out)).mono ?_
    rintro e w1 ⟨rfl, hb1⟩
    rw [HM.out]
    have HX1 := Lib.hid (HX0.out.below hb1)
    have HB1 : Hid (Below w.heap.size w w1) := HB0.out.trans (hb1.mono HB0.out.size)
    clear hb1
    have d1_0 := HX1.out.c0
    have d1_1 := HX1.out.c1
    have d1_2 := HX1.out.c2
    have d1_3 := HX1.out.c3
    have d1_4 := HX1.out.c4
    have d1_5 := HX1.out.c5
    go_wp2_with fail
    go_loopw [4, 12] (fun q i wr => ∃ k : Nat, k ≤ ts.length ∧ i = .int .i64 k ∧ q = .int .i64 (R k : Nat) ∧ Below w.heap.size w wr ∧ Box6 wr w.heap.size x y z (.slice A1 ts.length c1) (.slice A2 gs.length c2) (.slice A3 rs.length c3)) (fun _ i _ => ts.length - (intOf i).toNat)
    case atStart => exact ⟨0, Nat.zero_le _, rfl, by rw [E5.out]; rfl, HB1.out, HX1.out⟩
    case round =>
      obtain ⟨k, hk, rfl, rfl, hbw, hbx⟩ := hrel
      have HB := Lib.hid hbw
      have HX := Lib.hid hbx
      clear hbw hbx
      by_cases hlt : k < ts.length
      · have e0 := E0.out
        have hR : R k < ts.length := by have := E2.out k; omega
        obtain ⟨_, _, _, _, _, m0, m1⟩ := E1.out k hlt
        obtain ⟨_, _, _, _, _, n0, n1⟩ := E1.out (R k) hR
        have e3 : Hid (f k > f (R k) → R (k + 1) = k) := E3.out k
        have e4 : Hid (f k ≤ f (R k) → R (k + 1) = R k) := fun h => E4.out k h
        have d0 := HX.out.c0
        have d1 := HX.out.c1
        have d2 := HX.out.c2
        have d3 := HX.out.c3
        have d4 := HX.out.c4
        have d5 := HX.out.c5
        generalize R k = j at *
        have dlt := HX.out.lt
        have HCB : Hid (∀ u, Below w.heap.size w (wOf wr u)) := fun u => HB.out.trans ((wOf_below wr u).mono HB.out.size)
        go_wp2_with fail
        refine wp_region_grow (by kernel_rfl) (by kernel_rfl) ?_
        repeat (go_big_quiet_step ((go_at_call 44; exact grow_of (HC.out _ _ (by assumption) (HCB.out _)))))
        refine wpQuiet_nil ?_
        intro _ hw'
        obtain ⟨u, hw''⟩ := hw'
        subst hw''
        have hb2 := wOf_below wr u
        generalize wOf wr u = w2 at hb2 ⊢
        have HB2 : Hid (Below w.heap.size w w2) := HB.out.trans (hb2.mono HB.out.size)
        have HX2 := Lib.hid (HX.out.below hb2)
        clear hb2
        by_cases hpq : f j < f k
        · have G := Lib.hid (e3.out hpq)
          go_wp2
          go_roundw
          case rel => exact ⟨k + 1, by omega, by go_num, by rw [G.out], HB2.out, HX2.out⟩
          case measure => simp [intOf]; omega
        · have G := Lib.hid (e4.out (by omega))
          go_wp2
          go_roundw
          case rel => exact ⟨k + 1, by omega, by go_num, by rw [G.out], HB2.out, HX2.out⟩
          case measure => simp [intOf]; omega
      · obtain rfl : k = ts.length := by omega
        go_wp2
        go_ret2
        exact ⟨rfl, HB.out⟩
end Go.Proofs.Ytglcdgonbmdhoaa
