/-
  Contracts: a valid model, in the program and in the model of it.
-/
import Derived.Test.YtgibkjjjnfjbkaaDoorM3
namespace Go.Proofs.YtgibkjjjnfjbkaaDoor
open Go.RowKit

/-- A valid model. -/
def moB (x y z : Int) (ts gs rs : List Int) : Bool := goodB x y z && (areB (x * y * z) 10000 ts && (areB (x * y * z) 1000 gs && areB (x * y * z) 4 rs))

structure Look (w : World) (v1 v2 v3 : Value) (ts gs rs : List Int) : Prop where
  t : Seen w v1 ts
  g : Seen w v2 gs
  r : Seen w v3 rs
theorem Look.below {w w' : World} {v1 v2 v3 : Value} {ts gs rs : List Int} (h : Look w v1 v2 v3 ts gs rs) (hb : Below w.heap.size w w') : Look w' v1 v2 v3 ts gs rs := ⟨h.t.below hb, h.g.below hb, h.r.below hb⟩
theorem Mod.look {w : World} {B : Nat} {v1 v2 v3 : Value} {ts gs rs : List Int} (h : Mod w B v1 v2 v3 ts gs rs) : Look w v1 v2 v3 ts gs rs := ⟨h.t.seen, h.g.seen, h.r.seen⟩
theorem Seen.shape {w : World} {v : Value} {xs : List Int} (h : Seen w v xs) : ∃ A c, v = .slice A xs.length c := by
  obtain ⟨A, c, rfl, _⟩ := h
  exact ⟨A, c, rfl⟩

set_option maxHeartbeats 1000000 in
theorem c_IsModel (x y z : Int) (v1 v2 v3 : Value) (ts gs rs : List Int) (w : World) (l1 : ts.length ≤ 4000000) (l2 : gs.length ≤ 4000000) (l3 : rs.length ≤ 4000000) (h : Look w v1 v2 v3 ts gs rs) :
    Calls Tryd.prog 32 #[.agg #[.int .i64 x, .int .i64 y, .int .i64 z, v1, v2, v3]] w fun e w' => e = .returned (.bool (moB x y z ts gs rs)) ∧ Below w.heap.size w w' := by
  have H := Lib.hid h
  obtain ⟨A1, c1, rfl⟩ := h.t.shape
  obtain ⟨A2, c2, rfl⟩ := h.g.shape
  obtain ⟨A3, c3, rfl⟩ := h.r.shape
  clear h
  unfold moB
  cases hg : goodB x y z
  · have HG := Lib.hid hg
    rw [Bool.false_and]
    clear hg
    go_enter Tryd.func32, Tryd.ntmps32
    go_wp2_with fail
    refine (c_IsGrid _ _ _ _).mono ?_
    rintro e w1 ⟨rfl, hb1⟩
    rw [HG.out]
    go_wp2
    go_ret
    exact ⟨rfl, ((Below.refl _ _).alloc (Nat.le_refl _) _).trans (hb1.mono (by simp))⟩
  · have HG := Lib.hid hg
    obtain ⟨x1, x2, y1, y2, z1, z2, p1, p2, q1, q2⟩ := good_box hg
    rw [Bool.true_and]
    clear hg
    generalize hR : (areB (x * y * z) 10000 ts && (areB (x * y * z) 1000 gs && areB (x * y * z) 4 rs)) = R
    have HR := Lib.hid hR
    clear hR
    go_enter Tryd.func32, Tryd.ntmps32
    go_wp2_with fail
    refine (c_IsGrid _ _ _ _).mono ?_
    rintro e w1 ⟨rfl, hb1⟩
    rw [HG.out]
    obtain ⟨hc1, hf1⟩ := bcell hb1
    have s1 := hb1.size
    simp at s1 hc1 hf1
    have p10 : w.heap.size < w1.heap.size := by omega
    have HB1 : Hid (Below w.heap.size w w1) := ((Below.refl _ _).alloc (Nat.le_refl _) _).trans (hb1.mono (by simp))
    clear hb1
    go_wp2_with fail
    refine (c_countBlocks _ _ _ _ (by omega) x2 (by omega) y2 (by omega) z2).mono ?_
    rintro e w2 ⟨rfl, hb2⟩
    obtain ⟨hc2, hf2⟩ := bcell hb2
    have s2 := hb2.size
    have p20 : w.heap.size < w2.heap.size := by omega
    have HB2 : Hid (Below w.heap.size w w2) := HB1.out.trans (hb2.mono (by omega))
    clear hb2
    go_wp2_with fail
    refine (c_areNumbers ts _ _ _ _ l1 (H.out.t.below HB2.out)).mono ?_
    rintro e w2' ⟨rfl, rfl⟩
    cases h1 : areB (x * y * z) 10000 ts
    · have H1 := Lib.hid h1
      clear h1
      go_wp2
      go_ret
      exact ⟨ret_bool (by rw [← HR.out, H1.out]; rfl), HB2.out⟩
    · have H1 := Lib.hid h1
      clear h1
      go_wp2_with fail
      refine (c_areNumbers gs _ _ _ _ l2 (H.out.g.below HB2.out)).mono ?_
      rintro e w2' ⟨rfl, rfl⟩
      cases h2 : areB (x * y * z) 1000 gs
      · have H2 := Lib.hid h2
        clear h2
        go_wp2
        go_ret
        exact ⟨ret_bool (by rw [← HR.out, H1.out, H2.out]; rfl), HB2.out⟩
      · have H2 := Lib.hid h2
        clear h2
        go_wp2_with fail
        refine (c_areNumbers rs _ _ _ _ l3 (H.out.r.below HB2.out)).mono ?_
        rintro e w2' ⟨rfl, rfl⟩
        go_wp2
        go_ret
        exact ⟨ret_bool (by rw [← HR.out, H1.out, H2.out]; rfl), HB2.out⟩

set_option maxHeartbeats 1000000 in
theorem c_moGood (x y z : Int) (v1 v2 v3 : Value) (ts gs rs : List Int) (w : World) (l1 : ts.length ≤ 4000000) (l2 : gs.length ≤ 4000000) (l3 : rs.length ≤ 4000000) (h : Look w v1 v2 v3 ts gs rs) :
    Calls Tryd.prog 11 #[.agg #[.int .i64 x, .int .i64 y, .int .i64 z, v1, v2, v3]] w fun e w' => e = .returned (.bool (moB x y z ts gs rs)) ∧ Below w.heap.size w w' := by
  have H := Lib.hid h
  obtain ⟨A1, c1, rfl⟩ := h.t.shape
  obtain ⟨A2, c2, rfl⟩ := h.g.shape
  obtain ⟨A3, c3, rfl⟩ := h.r.shape
  clear h
  unfold moB
  cases hg : goodB x y z
  · have HG := Lib.hid hg
    rw [Bool.false_and]
    clear hg
    go_enter Tryd.func11, Tryd.ntmps11
    go_wp2_with fail
    refine (c_grGood _ _ _ _).mono ?_
    rintro e w1 ⟨rfl, hb1⟩
    rw [HG.out]
    go_wp2
    go_ret
    exact ⟨rfl, ((Below.refl _ _).alloc (Nat.le_refl _) _).trans (hb1.mono (by simp))⟩
  · have HG := Lib.hid hg
    obtain ⟨x1, x2, y1, y2, z1, z2, p1, p2, q1, q2⟩ := good_box hg
    rw [Bool.true_and]
    clear hg
    have HV : (areB (x * y * z) 10000 ts && (areB (x * y * z) 1000 gs && areB (x * y * z) 4 rs)) = (decide ((ts.length : Int) = x * y * z) && (decide ((gs.length : Int) = x * y * z) && (decide ((rs.length : Int) = x * y * z) && (allB 10000 ts && (allB 1000 gs && allB 4 rs))))) := by
      unfold areB
      cases decide ((ts.length : Int) = x * y * z) <;> cases decide ((gs.length : Int) = x * y * z) <;> cases decide ((rs.length : Int) = x * y * z) <;> cases allB 10000 ts <;> cases allB 1000 gs <;> rfl
    generalize (areB (x * y * z) 10000 ts && (areB (x * y * z) 1000 gs && areB (x * y * z) 4 rs)) = R at HV
    have HR := Lib.hid HV
    clear HV
    go_enter Tryd.func11, Tryd.ntmps11
    go_wp2_with fail
    refine (c_grGood _ _ _ _).mono ?_
    rintro e w1 ⟨rfl, hb1⟩
    rw [HG.out]
    obtain ⟨hc1, hf1⟩ := bcell hb1
    have s1 := hb1.size
    simp at s1 hc1 hf1
    have p10 : w.heap.size < w1.heap.size := by omega
    have HB1 : Hid (Below w.heap.size w w1) := ((Below.refl _ _).alloc (Nat.le_refl _) _).trans (hb1.mono (by simp))
    clear hb1
    go_wp2_with fail
    refine (c_grCount _ _ _ _ (by omega) x2 (by omega) y2 (by omega) z2).mono ?_
    rintro e w2 ⟨rfl, hb2⟩
    obtain ⟨hc2, hf2⟩ := bcell hb2
    have s2 := hb2.size
    have p20 : w.heap.size < w2.heap.size := by omega
    have HB2 : Hid (Below w.heap.size w w2) := HB1.out.trans (hb2.mono (by omega))
    clear hb2
    by_cases e1 : (ts.length : Int) = x * y * z
    · have e1' : ((ts.length : Int) == x * y * z) = true := by simpa using e1
      have E1 := Lib.hid (decide_eq_true e1)
      clear e1
      by_cases e2 : (gs.length : Int) = x * y * z
      · have e2' : ((gs.length : Int) == x * y * z) = true := by simpa using e2
        have E2 := Lib.hid (decide_eq_true e2)
        clear e2
        by_cases e3 : (rs.length : Int) = x * y * z
        · have e3' : ((rs.length : Int) == x * y * z) = true := by simpa using e3
          have E3 := Lib.hid (decide_eq_true e3)
          clear e3
          go_wp2_with fail
          refine (c_l1All ts _ _ _ l1 (H.out.t.below HB2.out)).mono ?_
          rintro e w2' ⟨rfl, rfl⟩
          cases h1 : allB 10000 ts
          · have H1 := Lib.hid h1
            clear h1
            go_wp2
            go_ret
            exact ⟨ret_bool (by rw [HR.out, E1.out, E2.out, E3.out, H1.out]; rfl), HB2.out⟩
          · have H1 := Lib.hid h1
            clear h1
            go_wp2_with fail
            refine (c_l1All gs _ _ _ l2 (H.out.g.below HB2.out)).mono ?_
            rintro e w2' ⟨rfl, rfl⟩
            cases h2 : allB 1000 gs
            · have H2 := Lib.hid h2
              clear h2
              go_wp2
              go_ret
              exact ⟨ret_bool (by rw [HR.out, E1.out, E2.out, E3.out, H1.out, H2.out]; rfl), HB2.out⟩
            · have H2 := Lib.hid h2
              clear h2
              go_wp2_with fail
              refine (c_l1All rs _ _ _ l3 (H.out.r.below HB2.out)).mono ?_
              rintro e w2' ⟨rfl, rfl⟩
              go_wp2
              go_ret
              exact ⟨ret_bool (by rw [HR.out, E1.out, E2.out, E3.out, H1.out, H2.out]; rfl), HB2.out⟩
        · have e3' : ((rs.length : Int) == x * y * z) = false := by simpa using e3
          have E3 := Lib.hid (decide_eq_false e3)
          clear e3
          go_wp2
          go_ret
          exact ⟨ret_bool (by rw [HR.out, E1.out, E2.out, E3.out]; rfl), HB2.out⟩
      · have e2' : ((gs.length : Int) == x * y * z) = false := by simpa using e2
        have E2 := Lib.hid (decide_eq_false e2)
        clear e2
        go_wp2
        go_ret
        exact ⟨ret_bool (by rw [HR.out, E1.out, E2.out]; rfl), HB2.out⟩
    · have e1' : ((ts.length : Int) == x * y * z) = false := by simpa using e1
      have E1 := Lib.hid (decide_eq_false e1)
      clear e1
      go_wp2
      go_ret
      exact ⟨ret_bool (by rw [HR.out, E1.out]; rfl), HB2.out⟩

end Go.Proofs.YtgibkjjjnfjbkaaDoor
