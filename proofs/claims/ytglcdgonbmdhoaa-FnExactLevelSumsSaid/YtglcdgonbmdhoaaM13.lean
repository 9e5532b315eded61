/-
  Contracts: SetBlock and EmptyBlocks, in the program and in the model of it.
-/
import Derived.Test.YtglcdgonbmdhoaaM12
import Derived.Test.YtglcdgonbmdhoaaM8
import Derived.Deep.DeepCutAuto
namespace Go.Proofs.Ytglcdgonbmdhoaa
open Go.RowKit
set_option linter.unusedVariables false

theorem Mod.nil (w : World) (B : Nat) : Mod w B (.slice none 0 0) (.slice none 0 0) (.slice none 0 0) [] [] [] := ⟨Row.nil _ _, Row.nil _ _, Row.nil _ _, .inl rfl, .inl rfl, .inl rfl⟩
/-- A model and a bool. -/
def GivesMod2 (w : World) (x y z : Int) (ts gs rs : List Int) (b : Bool) (e : Ending) (w' : World) : Prop :=
  ∃ v1 v2 v3, e = .returned (.tuple #[.agg #[.int .i64 x, .int .i64 y, .int .i64 z, v1, v2, v3], .bool b]) ∧ Mod w' w.heap.size v1 v2 v3 ts gs rs ∧ Below w.heap.size w w'
theorem Box6.far {w : World} {b : Nat} {x y z : Int} {v1 v2 v3 : Value} (h : Box6 w b x y z v1 v2 v3) {a : Addr} (ha : a.block ≠ b) (u : Value) : Box6 (w.setCell a u) b x y z v1 v2 v3 := by
  have e : ∀ o, (w.setCell a u).cell? ⟨b, o, none⟩ = w.cell? ⟨b, o, none⟩ := fun o => World.cell?_setCell_other _ _ _ _ (fun e => ha (by rw [e]))
  exact ⟨by simpa using h.lt, by rw [e]; exact h.c0, by rw [e]; exact h.c1, by rw [e]; exact h.c2, by rw [e]; exact h.c3, by rw [e]; exact h.c4, by rw [e]; exact h.c5⟩
theorem Mine6.far {w : World} {b : Nat} {u0 u1 u2 u3 u4 u5 : Value} (h : Mine6 w b u0 u1 u2 u3 u4 u5) {a : Addr} (ha : a.block ≠ b) (u : Value) : Mine6 (w.setCell a u) b u0 u1 u2 u3 u4 u5 := by
  have e : ∀ o, (w.setCell a u).cell? ⟨b, o, none⟩ = w.cell? ⟨b, o, none⟩ := fun o => World.cell?_setCell_other _ _ _ _ (fun e => ha (by rw [e]))
  exact ⟨by simpa using h.lt, by rw [e]; exact h.c0, by rw [e]; exact h.c1, by rw [e]; exact h.c2, by rw [e]; exact h.c3, by rw [e]; exact h.c4, by rw [e]; exact h.c5, fun o => by simp; exact h.f o⟩
theorem Row.far {w : World} {B B' g c n : Nat} {v : Value} {xs ys : List Int} (h : Row w B v xs) (k : Row w B' (.slice (some ⟨g, 0, none⟩) n c) ys) (hn : n = ys.length) (ha : Apart v.ownBlock (Value.slice (some ⟨g, 0, none⟩) n c).ownBlock) (j : Nat) (u : Int) : Row (w.setCell ⟨g, j, none⟩ (.int .i64 u)) B v xs :=
  World.ownsRow.kept h (Row.set_ hn k j u).2 (by simpa [Apart, Value.ownBlock] using ha)
/-- A number of each list stored. -/
theorem Mod.set1 {w : World} {B g c n : Nat} {v2 v3 : Value} {ts gs rs : List Int} (h : Mod w B (.slice (some ⟨g, 0, none⟩) n c) v2 v3 ts gs rs) (hn : n = ts.length) (j : Nat) (u : Int) :
    Mod (w.setCell ⟨g, j, none⟩ (.int .i64 u)) B (.slice (some ⟨g, 0, none⟩) n c) v2 v3 (ts.set j u) gs rs :=
  ⟨(Row.set_ hn h.t j u).1, h.g.far h.t hn h.tg.symm j u, h.r.far h.t hn h.tr.symm j u, h.tg, h.tr, h.gr⟩
theorem Mod.set2 {w : World} {B g c n : Nat} {v1 v3 : Value} {ts gs rs : List Int} (h : Mod w B v1 (.slice (some ⟨g, 0, none⟩) n c) v3 ts gs rs) (hn : n = gs.length) (j : Nat) (u : Int) :
    Mod (w.setCell ⟨g, j, none⟩ (.int .i64 u)) B v1 (.slice (some ⟨g, 0, none⟩) n c) v3 ts (gs.set j u) rs :=
  ⟨h.t.far h.g hn h.tg j u, (Row.set_ hn h.g j u).1, h.r.far h.g hn h.gr.symm j u, h.tg, h.tr, h.gr⟩
theorem Mod.set3 {w : World} {B g c n : Nat} {v1 v2 : Value} {ts gs rs : List Int} (h : Mod w B v1 v2 (.slice (some ⟨g, 0, none⟩) n c) ts gs rs) (hn : n = rs.length) (j : Nat) (u : Int) :
    Mod (w.setCell ⟨g, j, none⟩ (.int .i64 u)) B v1 v2 (.slice (some ⟨g, 0, none⟩) n c) ts gs (rs.set j u) :=
  ⟨h.t.far h.r hn h.tr j u, h.g.far h.r hn h.gr j u, (Row.set_ hn h.r j u).1, h.tg, h.tr, h.gr⟩
theorem Row.cellN {w : World} {B g c n : Nat} {xs : List Int} (h : Row w B (.slice (some ⟨g, 0, none⟩) n c) xs) (hn : n = xs.length) (k : Nat) (hk : k < xs.length) : w.cell? ⟨g, k, none⟩ = some (.int .i64 (xs.getD k 0)) := by subst hn; exact h.cell k hk
theorem Row.frozenN {w : World} {B g c n : Nat} {xs : List Int} (h : Row w B (.slice (some ⟨g, 0, none⟩) n c) xs) (hn : n = xs.length) (k : Nat) : w.frozen? ⟨g, k, none⟩ = false := by subst hn; exact h.frozen k
theorem Mod.put6 {w : World} {B b : Nat} {v1 v2 v3 : Value} {ts gs rs : List Int} (t0 t1 t2 t3 t4 t5 : Value) (h : Mod w B v1 v2 v3 ts gs rs) (hb : b < B) : Mod (put6 w b t0 t1 t2 t3 t4 t5) B v1 v2 v3 ts gs rs :=
  ⟨put6_row _ _ _ _ _ _ h.t hb, put6_row _ _ _ _ _ _ h.g hb, put6_row _ _ _ _ _ _ h.r hb, h.tg, h.tr, h.gr⟩

/-! ### SetBlock -/
def seB (x y z : Int) (ts gs rs : List Int) (i a b c : Int) : Bool := hasM x y z ts gs rs i && moB x y z (ts.set i.toNat a) (gs.set i.toNat b) (rs.set i.toNat c)
def seX (x y z : Int) (ts gs rs : List Int) (i a b c : Int) (t : Int) : Int := if seB x y z ts gs rs i a b c then t else 0
def seL (x y z : Int) (ts gs rs : List Int) (i a b c : Int) (l : List Int) (u : Int) : List Int := if seB x y z ts gs rs i a b c then l.set i.toNat u else []

set_option maxHeartbeats 4000000 in
theorem c_SetBlock (x y z : Int) (v1 v2 v3 : Value) (ts gs rs : List Int) (i a b c : Int) (w : World) (l1 : ts.length ≤ 4000000) (l2 : gs.length ≤ 4000000) (l3 : rs.length ≤ 4000000) (h : Look w v1 v2 v3 ts gs rs) :
    Calls Try.prog 41 #[.agg #[.int .i64 x, .int .i64 y, .int .i64 z, v1, v2, v3], .int .i64 i, .int .i64 a, .int .i64 b, .int .i64 c] w (GivesMod2 w (seX x y z ts gs rs i a b c x) (seX x y z ts gs rs i a b c y) (seX x y z ts gs rs i a b c z) (seL x y z ts gs rs i a b c ts a) (seL x y z ts gs rs i a b c gs b) (seL x y z ts gs rs i a b c rs c) (seB x y z ts gs rs i a b c)) := by
  have H := Lib.hid h
  obtain ⟨A1, c1, rfl⟩ := h.t.shape
  obtain ⟨A2, c2, rfl⟩ := h.g.shape
  obtain ⟨A3, c3, rfl⟩ := h.r.shape
  clear h
  have HX0 : Hid (Box6 ((w.alloc (.cells #[.int .i64 x, .int .i64 y, .int .i64 z, .slice A1 ts.length c1, .slice A2 gs.length c2, .slice A3 rs.length c3] 32)).alloc (.cells #[.int .i64 0, .int .i64 0, .int .i64 0, .slice none 0 0, .slice none 0 0, .slice none 0 0] 32)) w.heap.size x y z (.slice A1 ts.length c1) (.slice A2 gs.length c2) (.slice A3 rs.length c3)) := (Box6.new _ _ _ _ _ _ _ _).below ((Below.refl _ _).alloc (Nat.le_refl _) _)
  have HB0 : Hid (Below w.heap.size w ((w.alloc (.cells #[.int .i64 x, .int .i64 y, .int .i64 z, .slice A1 ts.length c1, .slice A2 gs.length c2, .slice A3 rs.length c3] 32)).alloc (.cells #[.int .i64 0, .int .i64 0, .int .i64 0, .slice none 0 0, .slice none 0 0, .slice none 0 0] 32))) := ((Below.refl _ _).alloc (Nat.le_refl _) _).alloc (by simp) _
  have HM0 : Hid (Mine6 ((w.alloc (.cells #[.int .i64 x, .int .i64 y, .int .i64 z, .slice A1 ts.length c1, .slice A2 gs.length c2, .slice A3 rs.length c3] 32)).alloc (.cells #[.int .i64 0, .int .i64 0, .int .i64 0, .slice none 0 0, .slice none 0 0, .slice none 0 0] 32)) (w.heap.size + 1) (.int .i64 0) (.int .i64 0) (.int .i64 0) (.slice none 0 0) (.slice none 0 0) (.slice none 0 0)) := by
    have := Mine6.new (w.alloc (.cells #[.int .i64 x, .int .i64 y, .int .i64 z, .slice A1 ts.length c1, .slice A2 gs.length c2, .slice A3 rs.length c3] 32)) (.int .i64 0) (.int .i64 0) (.int .i64 0) (.slice none 0 0) (.slice none 0 0) (.slice none 0 0) 32
    rw [World.size_alloc] at this
    exact this
  unfold seX seL
  cases hm : moB x y z ts gs rs
  · have HM := Lib.hid hm
    rw [show seB x y z ts gs rs i a b c = false by unfold seB hasM; rw [hm]; rfl]
    simp only [Bool.false_eq_true, if_false]
    clear hm
    go_enter Try.func41, Try.ntmps41
    go_wp2_with fail
    refine (c_IsModel x y z _ _ _ ts gs rs _ l1 l2 l3 (H.out.below HB0.out)).mono ?_
    rintro e w1 ⟨rfl, hb1⟩
    rw [HM.out]
    have HX1 := Lib.hid (HX0.out.below hb1)
    have HM1 := Lib.hid (HM0.out.below hb1)
    have HB1 : Hid (Below w.heap.size w w1) := HB0.out.trans (hb1.mono HB0.out.size)
    clear hb1
    have d1_0 := HX1.out.c0
    have d1_1 := HX1.out.c1
    have d1_2 := HX1.out.c2
    have d1_3 := HX1.out.c3
    have d1_4 := HX1.out.c4
    have d1_5 := HX1.out.c5
    have m1_0 := HM1.out.c0
    have g1_0 := HM1.out.f 0
    have m1_1 := HM1.out.c1
    have g1_1 := HM1.out.f 1
    have m1_2 := HM1.out.c2
    have g1_2 := HM1.out.f 2
    have m1_3 := HM1.out.c3
    have g1_3 := HM1.out.f 3
    have m1_4 := HM1.out.c4
    have g1_4 := HM1.out.f 4
    have m1_5 := HM1.out.c5
    have g1_5 := HM1.out.f 5
    go_wp2
    have HP := Lib.hid (put6_mine (.int .i64 0) (.int .i64 0) (.int .i64 0) (.slice none 0 0) (.slice none 0 0) (.slice none 0 0) HM1.out)
    have HBE : Hid (Below w.heap.size w (put6 w1 (w.heap.size + 1) (.int .i64 0) (.int .i64 0) (.int .i64 0) (.slice none 0 0) (.slice none 0 0) (.slice none 0 0))) := put6_below _ _ _ _ _ _ HB1.out (by omega)
    have HQ : Hid (Mod (put6 w1 (w.heap.size + 1) (.int .i64 0) (.int .i64 0) (.int .i64 0) (.slice none 0 0) (.slice none 0 0) (.slice none 0 0)) w.heap.size (.slice none 0 0) (.slice none 0 0) (.slice none 0 0) [] [] []) := Mod.nil _ _
    unfold put6 at *
    generalize ((((((w1.setCell ⟨w.heap.size + 1, 0, none⟩ (.int .i64 0)).setCell ⟨w.heap.size + 1, 1, none⟩ (.int .i64 0)).setCell ⟨w.heap.size + 1, 2, none⟩ (.int .i64 0)).setCell ⟨w.heap.size + 1, 3, none⟩ (.slice none 0 0)).setCell ⟨w.heap.size + 1, 4, none⟩ (.slice none 0 0)).setCell ⟨w.heap.size + 1, 5, none⟩ (.slice none 0 0)) = we at *
    have f0 := HP.out.c0
    have f1 := HP.out.c1
    have f2 := HP.out.c2
    have f3 := HP.out.c3
    have f4 := HP.out.c4
    have f5 := HP.out.c5
    refine bodyPost_ret (v := .tuple #[.agg #[.int .i64 0, .int .i64 0, .int .i64 0, .slice none 0 0, .slice none 0 0, .slice none 0 0], .bool false]) (by simp [results, Try.results41, go_sem, f0, f1, f2, f3, f4, f5]) rfl ⟨_, _, _, rfl, HQ.out, HBE.out⟩
  · have HM := Lib.hid hm
    have hhas : hasM x y z ts gs rs i = hasB x y z i := by unfold hasM hasB; rw [hm, (mo_true hm).1]
    cases hi : hasB x y z i
    · have HI := Lib.hid hi
      rw [show seB x y z ts gs rs i a b c = false by unfold seB; rw [hhas, hi]; rfl]
      simp only [Bool.false_eq_true, if_false]
      clear hm hi hhas
      go_enter Try.func41, Try.ntmps41
      go_wp2_with fail
      refine (c_IsModel x y z _ _ _ ts gs rs _ l1 l2 l3 (H.out.below HB0.out)).mono ?_
      rintro e w1 ⟨rfl, hb1⟩
      rw [HM.out]
      have HX1 := Lib.hid (HX0.out.below hb1)
      have HM1 := Lib.hid (HM0.out.below hb1)
      have HB1 : Hid (Below w.heap.size w w1) := HB0.out.trans (hb1.mono HB0.out.size)
      clear hb1
      have d1_0 := HX1.out.c0
      have d1_1 := HX1.out.c1
      have d1_2 := HX1.out.c2
      have d1_3 := HX1.out.c3
      have d1_4 := HX1.out.c4
      have d1_5 := HX1.out.c5
      have m1_0 := HM1.out.c0
      have g1_0 := HM1.out.f 0
      have m1_1 := HM1.out.c1
      have g1_1 := HM1.out.f 1
      have m1_2 := HM1.out.c2
      have g1_2 := HM1.out.f 2
      have m1_3 := HM1.out.c3
      have g1_3 := HM1.out.f 3
      have m1_4 := HM1.out.c4
      have g1_4 := HM1.out.f 4
      have m1_5 := HM1.out.c5
      have g1_5 := HM1.out.f 5
      go_wp2_with fail
      refine (c_isBlock _ _ _ _ _).mono ?_
      rintro e w2 ⟨rfl, hb2⟩
      rw [HI.out]
      have HX2 := Lib.hid (HX1.out.below hb2)
      have HM2 := Lib.hid (HM1.out.below hb2)
      have HB2 : Hid (Below w.heap.size w w2) := HB1.out.trans (hb2.mono HB1.out.size)
      clear hb2
      have d2_0 := HX2.out.c0
      have d2_1 := HX2.out.c1
      have d2_2 := HX2.out.c2
      have d2_3 := HX2.out.c3
      have d2_4 := HX2.out.c4
      have d2_5 := HX2.out.c5
      have m2_0 := HM2.out.c0
      have g2_0 := HM2.out.f 0
      have m2_1 := HM2.out.c1
      have g2_1 := HM2.out.f 1
      have m2_2 := HM2.out.c2
      have g2_2 := HM2.out.f 2
      have m2_3 := HM2.out.c3
      have g2_3 := HM2.out.f 3
      have m2_4 := HM2.out.c4
      have g2_4 := HM2.out.f 4
      have m2_5 := HM2.out.c5
      have g2_5 := HM2.out.f 5
      go_wp2
      have HP := Lib.hid (put6_mine (.int .i64 0) (.int .i64 0) (.int .i64 0) (.slice none 0 0) (.slice none 0 0) (.slice none 0 0) HM2.out)
      have HBE : Hid (Below w.heap.size w (put6 w2 (w.heap.size + 1) (.int .i64 0) (.int .i64 0) (.int .i64 0) (.slice none 0 0) (.slice none 0 0) (.slice none 0 0))) := put6_below _ _ _ _ _ _ HB2.out (by omega)
      have HQ : Hid (Mod (put6 w2 (w.heap.size + 1) (.int .i64 0) (.int .i64 0) (.int .i64 0) (.slice none 0 0) (.slice none 0 0) (.slice none 0 0)) w.heap.size (.slice none 0 0) (.slice none 0 0) (.slice none 0 0) [] [] []) := Mod.nil _ _
      unfold put6 at *
      generalize ((((((w2.setCell ⟨w.heap.size + 1, 0, none⟩ (.int .i64 0)).setCell ⟨w.heap.size + 1, 1, none⟩ (.int .i64 0)).setCell ⟨w.heap.size + 1, 2, none⟩ (.int .i64 0)).setCell ⟨w.heap.size + 1, 3, none⟩ (.slice none 0 0)).setCell ⟨w.heap.size + 1, 4, none⟩ (.slice none 0 0)).setCell ⟨w.heap.size + 1, 5, none⟩ (.slice none 0 0)) = we at *
      have f0 := HP.out.c0
      have f1 := HP.out.c1
      have f2 := HP.out.c2
      have f3 := HP.out.c3
      have f4 := HP.out.c4
      have f5 := HP.out.c5
      refine bodyPost_ret (v := .tuple #[.agg #[.int .i64 0, .int .i64 0, .int .i64 0, .slice none 0 0, .slice none 0 0, .slice none 0 0], .bool false]) (by simp [results, Try.results41, go_sem, f0, f1, f2, f3, f4, f5]) rfl ⟨_, _, _, rfl, HQ.out, HBE.out⟩
    · have HI := Lib.hid hi
      have HH : Hid (hasM x y z ts gs rs i = true) := hhas.trans hi
      obtain ⟨_, hi0, hi1⟩ := has_true hi
      obtain ⟨k, rfl⟩ := Int.eq_ofNat_of_zero_le hi0
      obtain ⟨k1, k2, k3, _⟩ := metal_box hm hi1
      have KK : Hid (k < ts.length ∧ k < gs.length ∧ k < rs.length) := ⟨k1, k2, k3⟩
      have N : Hid (0 < ts.length ∧ 0 < gs.length ∧ 0 < rs.length) := ⟨by omega, by omega, by omega⟩
      clear hm hi hhas k1 k2 k3 hi0 hi1
      cases hs : moB x y z (ts.set k a) (gs.set k b) (rs.set k c)
      · have HS := Lib.hid hs
        rw [show seB x y z ts gs rs k a b c = false by unfold seB; rw [show ((k : Int)).toNat = k from rfl, hs, Bool.and_false]]
        simp only [Bool.false_eq_true, if_false]
        clear hs
        go_enter Try.func41, Try.ntmps41
        go_wp2_with fail
        refine (c_IsModel x y z _ _ _ ts gs rs _ l1 l2 l3 (H.out.below HB0.out)).mono ?_
        rintro e w1 ⟨rfl, hb1⟩
        rw [HM.out]
        have HX1 := Lib.hid (HX0.out.below hb1)
        have HM1 := Lib.hid (HM0.out.below hb1)
        have HB1 : Hid (Below w.heap.size w w1) := HB0.out.trans (hb1.mono HB0.out.size)
        clear hb1
        have d1_0 := HX1.out.c0
        have d1_1 := HX1.out.c1
        have d1_2 := HX1.out.c2
        have d1_3 := HX1.out.c3
        have d1_4 := HX1.out.c4
        have d1_5 := HX1.out.c5
        have m1_0 := HM1.out.c0
        have g1_0 := HM1.out.f 0
        have m1_1 := HM1.out.c1
        have g1_1 := HM1.out.f 1
        have m1_2 := HM1.out.c2
        have g1_2 := HM1.out.f 2
        have m1_3 := HM1.out.c3
        have g1_3 := HM1.out.f 3
        have m1_4 := HM1.out.c4
        have g1_4 := HM1.out.f 4
        have m1_5 := HM1.out.c5
        have g1_5 := HM1.out.f 5
        go_wp2_with fail
        refine (c_isBlock _ _ _ _ _).mono ?_
        rintro e w2 ⟨rfl, hb2⟩
        rw [HI.out]
        have HX2 := Lib.hid (HX1.out.below hb2)
        have HM2 := Lib.hid (HM1.out.below hb2)
        have HB2 : Hid (Below w.heap.size w w2) := HB1.out.trans (hb2.mono HB1.out.size)
        clear hb2
        have d2_0 := HX2.out.c0
        have d2_1 := HX2.out.c1
        have d2_2 := HX2.out.c2
        have d2_3 := HX2.out.c3
        have d2_4 := HX2.out.c4
        have d2_5 := HX2.out.c5
        have m2_0 := HM2.out.c0
        have g2_0 := HM2.out.f 0
        have m2_1 := HM2.out.c1
        have g2_1 := HM2.out.f 1
        have m2_2 := HM2.out.c2
        have g2_2 := HM2.out.f 2
        have m2_3 := HM2.out.c3
        have g2_3 := HM2.out.f 3
        have m2_4 := HM2.out.c4
        have g2_4 := HM2.out.f 4
        have m2_5 := HM2.out.c5
        have g2_5 := HM2.out.f 5
        go_wp2_with fail
        refine (c_copyModel x y z _ _ _ ts gs rs _ l1 l2 l3 N.out.1 N.out.2.1 N.out.2.2 (H.out.below HB2.out)).mono ?_
        rintro e w3 ⟨p1, p2, p3, rfl, hq, hb3⟩
        have HX3 := Lib.hid (HX2.out.below hb3)
        have HM3 := Lib.hid (HM2.out.below hb3)
        have HB3 : Hid (Below w.heap.size w w3) := HB2.out.trans (hb3.mono HB2.out.size)
        have HQ3 := Lib.hid hq
        clear hq
        clear hb3
        have d3_0 := HX3.out.c0
        have d3_1 := HX3.out.c1
        have d3_2 := HX3.out.c2
        have d3_3 := HX3.out.c3
        have d3_4 := HX3.out.c4
        have d3_5 := HX3.out.c5
        have m3_0 := HM3.out.c0
        have g3_0 := HM3.out.f 0
        have m3_1 := HM3.out.c1
        have g3_1 := HM3.out.f 1
        have m3_2 := HM3.out.c2
        have g3_2 := HM3.out.f 2
        have m3_3 := HM3.out.c3
        have g3_3 := HM3.out.f 3
        have m3_4 := HM3.out.c4
        have g3_4 := HM3.out.f 4
        have m3_5 := HM3.out.c5
        have g3_5 := HM3.out.f 5
        obtain ⟨g1, e1, rfl, ge1, gl1⟩ := HQ3.out.t.form N.out.1
        obtain ⟨g2, e2, rfl, ge2, gl2⟩ := HQ3.out.g.form N.out.2.1
        obtain ⟨g3, e3, rfl, ge3, gl3⟩ := HQ3.out.r.form N.out.2.2
        have zz := HM2.out.lt
        have hbx : Below w3.heap.size w3 (w3.alloc (.cells #[.int .i64 x, .int .i64 y, .int .i64 z, .slice (some ⟨g1, 0, none⟩) ts.length e1, .slice (some ⟨g2, 0, none⟩) gs.length e2, .slice (some ⟨g3, 0, none⟩) rs.length e3] 32)) := (Below.refl _ _).alloc (Nat.le_refl _) _
        have HCX : Hid (Box6 (w3.alloc (.cells #[.int .i64 x, .int .i64 y, .int .i64 z, .slice (some ⟨g1, 0, none⟩) ts.length e1, .slice (some ⟨g2, 0, none⟩) gs.length e2, .slice (some ⟨g3, 0, none⟩) rs.length e3] 32)) w3.heap.size x y z (.slice (some ⟨g1, 0, none⟩) ts.length e1) (.slice (some ⟨g2, 0, none⟩) gs.length e2) (.slice (some ⟨g3, 0, none⟩) rs.length e3)) := Box6.new _ _ _ _ _ _ _ _
        have HQa := Lib.hid (HQ3.out.below hbx)
        have HMa := Lib.hid (HM3.out.below hbx)
        have HBa : Hid (Below w.heap.size w (w3.alloc (.cells #[.int .i64 x, .int .i64 y, .int .i64 z, .slice (some ⟨g1, 0, none⟩) ts.length e1, .slice (some ⟨g2, 0, none⟩) gs.length e2, .slice (some ⟨g3, 0, none⟩) rs.length e3] 32))) := HB3.out.trans (hbx.mono HB3.out.size)
        clear hbx
        go_upto_region 4 with fail
        generalize w3.alloc (.cells #[.int .i64 x, .int .i64 y, .int .i64 z, .slice (some ⟨g1, 0, none⟩) ts.length e1, .slice (some ⟨g2, 0, none⟩) gs.length e2, .slice (some ⟨g3, 0, none⟩) rs.length e3] 32) = wa at *
        have xa3 := HCX.out.c3
        have qa := HQa.out.t.cellN rfl k KK.out.1
        have fa := HQa.out.t.frozenN rfl k
        have a0 : (0 : Int) ≤ (k : Int) := by omega
        have a1 : (k : Int) < (ts.length : Int) := by have := KK.out.1; omega
        have a2 : (k : Int) < (gs.length : Int) := by have := KK.out.2.1; omega
        have a3 : (k : Int) < (rs.length : Int) := by have := KK.out.2.2; omega
        go_upto_region 5 with fail
        have HQb := Lib.hid (HQa.out.set1 rfl k a)
        have HMb := Lib.hid (HMa.out.far (a := ⟨g1, k, none⟩) (by show g1 ≠ _; omega) (.int .i64 a))
        have HCb := Lib.hid (HCX.out.far (a := ⟨g1, k, none⟩) (by show g1 ≠ _; omega) (.int .i64 a))
        have HBb : Hid (Below w.heap.size w (wa.setCell ⟨g1, k, none⟩ (.int .i64 a))) := HBa.out.setCell (by show _ ≤ g1; omega) _
        generalize wa.setCell ⟨g1, k, none⟩ (.int .i64 a) = wb at *
        have xb4 := HCb.out.c4
        have qb := HQb.out.g.cellN rfl k KK.out.2.1
        have fb := HQb.out.g.frozenN rfl k
        go_upto_region 6 with fail
        have HQc := Lib.hid (HQb.out.set2 rfl k b)
        have HMc := Lib.hid (HMb.out.far (a := ⟨g2, k, none⟩) (by show g2 ≠ _; omega) (.int .i64 b))
        have HCc := Lib.hid (HCb.out.far (a := ⟨g2, k, none⟩) (by show g2 ≠ _; omega) (.int .i64 b))
        have HBc : Hid (Below w.heap.size w (wb.setCell ⟨g2, k, none⟩ (.int .i64 b))) := HBb.out.setCell (by show _ ≤ g2; omega) _
        generalize wb.setCell ⟨g2, k, none⟩ (.int .i64 b) = wc at *
        have xc5 := HCc.out.c5
        have qc := HQc.out.r.cellN rfl k KK.out.2.2
        have fc := HQc.out.r.frozenN rfl k
        go_upto_region 7 with fail
        have HQd := Lib.hid (HQc.out.set3 rfl k c)
        have HMd := Lib.hid (HMc.out.far (a := ⟨g3, k, none⟩) (by show g3 ≠ _; omega) (.int .i64 c))
        have HCd := Lib.hid (HCc.out.far (a := ⟨g3, k, none⟩) (by show g3 ≠ _; omega) (.int .i64 c))
        have HBd : Hid (Below w.heap.size w (wc.setCell ⟨g3, k, none⟩ (.int .i64 c))) := HBc.out.setCell (by show _ ≤ g3; omega) _
        generalize wc.setCell ⟨g3, k, none⟩ (.int .i64 c) = wd at *
        have xd0 := HCd.out.c0
        have xd1 := HCd.out.c1
        have xd2 := HCd.out.c2
        have xd3 := HCd.out.c3
        have xd4 := HCd.out.c4
        have xd5 := HCd.out.c5
        go_wp2_with fail
        refine (c_IsModel x y z _ _ _ (ts.set k a) (gs.set k b) (rs.set k c) _ (by rw [List.length_set]; exact l1) (by rw [List.length_set]; exact l2) (by rw [List.length_set]; exact l3) HQd.out.look).mono ?_
        rintro e wf ⟨rfl, hbf⟩
        have HQf := Lib.hid (HQd.out.below hbf)
        have HMf := Lib.hid (HMd.out.below hbf)
        have HCf := Lib.hid (HCd.out.below hbf)
        have HBf : Hid (Below w.heap.size w wf) := HBd.out.trans (hbf.mono HBd.out.size)
        clear hbf
        have mf_0 := HMf.out.c0
        have gf_0 := HMf.out.f 0
        have mf_1 := HMf.out.c1
        have gf_1 := HMf.out.f 1
        have mf_2 := HMf.out.c2
        have gf_2 := HMf.out.f 2
        have mf_3 := HMf.out.c3
        have gf_3 := HMf.out.f 3
        have mf_4 := HMf.out.c4
        have gf_4 := HMf.out.f 4
        have mf_5 := HMf.out.c5
        have gf_5 := HMf.out.f 5
        have xf0 := HCf.out.c0
        have xf1 := HCf.out.c1
        have xf2 := HCf.out.c2
        have xf3 := HCf.out.c3
        have xf4 := HCf.out.c4
        have xf5 := HCf.out.c5
        rw [HS.out]
        go_wp2
        have HP := Lib.hid (put6_mine (.int .i64 0) (.int .i64 0) (.int .i64 0) (.slice none 0 0) (.slice none 0 0) (.slice none 0 0) HMf.out)
        have HBE : Hid (Below w.heap.size w (put6 wf (w.heap.size + 1) (.int .i64 0) (.int .i64 0) (.int .i64 0) (.slice none 0 0) (.slice none 0 0) (.slice none 0 0))) := put6_below _ _ _ _ _ _ HBf.out (by omega)
        have HQ : Hid (Mod (put6 wf (w.heap.size + 1) (.int .i64 0) (.int .i64 0) (.int .i64 0) (.slice none 0 0) (.slice none 0 0) (.slice none 0 0)) w.heap.size (.slice none 0 0) (.slice none 0 0) (.slice none 0 0) [] [] []) := Mod.nil _ _
        unfold put6 at *
        generalize ((((((wf.setCell ⟨w.heap.size + 1, 0, none⟩ (.int .i64 0)).setCell ⟨w.heap.size + 1, 1, none⟩ (.int .i64 0)).setCell ⟨w.heap.size + 1, 2, none⟩ (.int .i64 0)).setCell ⟨w.heap.size + 1, 3, none⟩ (.slice none 0 0)).setCell ⟨w.heap.size + 1, 4, none⟩ (.slice none 0 0)).setCell ⟨w.heap.size + 1, 5, none⟩ (.slice none 0 0)) = we at *
        have f0 := HP.out.c0
        have f1 := HP.out.c1
        have f2 := HP.out.c2
        have f3 := HP.out.c3
        have f4 := HP.out.c4
        have f5 := HP.out.c5
        refine bodyPost_ret (v := .tuple #[.agg #[.int .i64 0, .int .i64 0, .int .i64 0, .slice none 0 0, .slice none 0 0, .slice none 0 0], .bool false]) (by simp [results, Try.results41, go_sem, f0, f1, f2, f3, f4, f5]) rfl ⟨_, _, _, rfl, HQ.out, HBE.out⟩
      · have HS := Lib.hid hs
        rw [show seB x y z ts gs rs k a b c = true by unfold seB; rw [show ((k : Int)).toNat = k from rfl, hs, HH.out]; rfl]
        simp only [if_true, Int.toNat_natCast]
        clear hs
        go_enter Try.func41, Try.ntmps41
        go_wp2_with fail
        refine (c_IsModel x y z _ _ _ ts gs rs _ l1 l2 l3 (H.out.below HB0.out)).mono ?_
        rintro e w1 ⟨rfl, hb1⟩
        rw [HM.out]
        have HX1 := Lib.hid (HX0.out.below hb1)
        have HM1 := Lib.hid (HM0.out.below hb1)
        have HB1 : Hid (Below w.heap.size w w1) := HB0.out.trans (hb1.mono HB0.out.size)
        clear hb1
        have d1_0 := HX1.out.c0
        have d1_1 := HX1.out.c1
        have d1_2 := HX1.out.c2
        have d1_3 := HX1.out.c3
        have d1_4 := HX1.out.c4
        have d1_5 := HX1.out.c5
        have m1_0 := HM1.out.c0
        have g1_0 := HM1.out.f 0
        have m1_1 := HM1.out.c1
        have g1_1 := HM1.out.f 1
        have m1_2 := HM1.out.c2
        have g1_2 := HM1.out.f 2
        have m1_3 := HM1.out.c3
        have g1_3 := HM1.out.f 3
        have m1_4 := HM1.out.c4
        have g1_4 := HM1.out.f 4
        have m1_5 := HM1.out.c5
        have g1_5 := HM1.out.f 5
        go_wp2_with fail
        refine (c_isBlock _ _ _ _ _).mono ?_
        rintro e w2 ⟨rfl, hb2⟩
        rw [HI.out]
        have HX2 := Lib.hid (HX1.out.below hb2)
        have HM2 := Lib.hid (HM1.out.below hb2)
        have HB2 : Hid (Below w.heap.size w w2) := HB1.out.trans (hb2.mono HB1.out.size)
        clear hb2
        have d2_0 := HX2.out.c0
        have d2_1 := HX2.out.c1
        have d2_2 := HX2.out.c2
        have d2_3 := HX2.out.c3
        have d2_4 := HX2.out.c4
        have d2_5 := HX2.out.c5
        have m2_0 := HM2.out.c0
        have g2_0 := HM2.out.f 0
        have m2_1 := HM2.out.c1
        have g2_1 := HM2.out.f 1
        have m2_2 := HM2.out.c2
        have g2_2 := HM2.out.f 2
        have m2_3 := HM2.out.c3
        have g2_3 := HM2.out.f 3
        have m2_4 := HM2.out.c4
        have g2_4 := HM2.out.f 4
        have m2_5 := HM2.out.c5
        have g2_5 := HM2.out.f 5
        go_wp2_with fail
        refine (c_copyModel x y z _ _ _ ts gs rs _ l1 l2 l3 N.out.1 N.out.2.1 N.out.2.2 (H.out.below HB2.out)).mono ?_
        rintro e w3 ⟨p1, p2, p3, rfl, hq, hb3⟩
        have HX3 := Lib.hid (HX2.out.below hb3)
        have HM3 := Lib.hid (HM2.out.below hb3)
        have HB3 : Hid (Below w.heap.size w w3) := HB2.out.trans (hb3.mono HB2.out.size)
        have HQ3 := Lib.hid hq
        clear hq
        clear hb3
        have d3_0 := HX3.out.c0
        have d3_1 := HX3.out.c1
        have d3_2 := HX3.out.c2
        have d3_3 := HX3.out.c3
        have d3_4 := HX3.out.c4
        have d3_5 := HX3.out.c5
        have m3_0 := HM3.out.c0
        have g3_0 := HM3.out.f 0
        have m3_1 := HM3.out.c1
        have g3_1 := HM3.out.f 1
        have m3_2 := HM3.out.c2
        have g3_2 := HM3.out.f 2
        have m3_3 := HM3.out.c3
        have g3_3 := HM3.out.f 3
        have m3_4 := HM3.out.c4
        have g3_4 := HM3.out.f 4
        have m3_5 := HM3.out.c5
        have g3_5 := HM3.out.f 5
        obtain ⟨g1, e1, rfl, ge1, gl1⟩ := HQ3.out.t.form N.out.1
        obtain ⟨g2, e2, rfl, ge2, gl2⟩ := HQ3.out.g.form N.out.2.1
        obtain ⟨g3, e3, rfl, ge3, gl3⟩ := HQ3.out.r.form N.out.2.2
        have zz := HM2.out.lt
        have hbx : Below w3.heap.size w3 (w3.alloc (.cells #[.int .i64 x, .int .i64 y, .int .i64 z, .slice (some ⟨g1, 0, none⟩) ts.length e1, .slice (some ⟨g2, 0, none⟩) gs.length e2, .slice (some ⟨g3, 0, none⟩) rs.length e3] 32)) := (Below.refl _ _).alloc (Nat.le_refl _) _
        have HCX : Hid (Box6 (w3.alloc (.cells #[.int .i64 x, .int .i64 y, .int .i64 z, .slice (some ⟨g1, 0, none⟩) ts.length e1, .slice (some ⟨g2, 0, none⟩) gs.length e2, .slice (some ⟨g3, 0, none⟩) rs.length e3] 32)) w3.heap.size x y z (.slice (some ⟨g1, 0, none⟩) ts.length e1) (.slice (some ⟨g2, 0, none⟩) gs.length e2) (.slice (some ⟨g3, 0, none⟩) rs.length e3)) := Box6.new _ _ _ _ _ _ _ _
        have HQa := Lib.hid (HQ3.out.below hbx)
        have HMa := Lib.hid (HM3.out.below hbx)
        have HBa : Hid (Below w.heap.size w (w3.alloc (.cells #[.int .i64 x, .int .i64 y, .int .i64 z, .slice (some ⟨g1, 0, none⟩) ts.length e1, .slice (some ⟨g2, 0, none⟩) gs.length e2, .slice (some ⟨g3, 0, none⟩) rs.length e3] 32))) := HB3.out.trans (hbx.mono HB3.out.size)
        clear hbx
        go_upto_region 4 with fail
        generalize w3.alloc (.cells #[.int .i64 x, .int .i64 y, .int .i64 z, .slice (some ⟨g1, 0, none⟩) ts.length e1, .slice (some ⟨g2, 0, none⟩) gs.length e2, .slice (some ⟨g3, 0, none⟩) rs.length e3] 32) = wa at *
        have xa3 := HCX.out.c3
        have qa := HQa.out.t.cellN rfl k KK.out.1
        have fa := HQa.out.t.frozenN rfl k
        have a0 : (0 : Int) ≤ (k : Int) := by omega
        have a1 : (k : Int) < (ts.length : Int) := by have := KK.out.1; omega
        have a2 : (k : Int) < (gs.length : Int) := by have := KK.out.2.1; omega
        have a3 : (k : Int) < (rs.length : Int) := by have := KK.out.2.2; omega
        go_upto_region 5 with fail
        have HQb := Lib.hid (HQa.out.set1 rfl k a)
        have HMb := Lib.hid (HMa.out.far (a := ⟨g1, k, none⟩) (by show g1 ≠ _; omega) (.int .i64 a))
        have HCb := Lib.hid (HCX.out.far (a := ⟨g1, k, none⟩) (by show g1 ≠ _; omega) (.int .i64 a))
        have HBb : Hid (Below w.heap.size w (wa.setCell ⟨g1, k, none⟩ (.int .i64 a))) := HBa.out.setCell (by show _ ≤ g1; omega) _
        generalize wa.setCell ⟨g1, k, none⟩ (.int .i64 a) = wb at *
        have xb4 := HCb.out.c4
        have qb := HQb.out.g.cellN rfl k KK.out.2.1
        have fb := HQb.out.g.frozenN rfl k
        go_upto_region 6 with fail
        have HQc := Lib.hid (HQb.out.set2 rfl k b)
        have HMc := Lib.hid (HMb.out.far (a := ⟨g2, k, none⟩) (by show g2 ≠ _; omega) (.int .i64 b))
        have HCc := Lib.hid (HCb.out.far (a := ⟨g2, k, none⟩) (by show g2 ≠ _; omega) (.int .i64 b))
        have HBc : Hid (Below w.heap.size w (wb.setCell ⟨g2, k, none⟩ (.int .i64 b))) := HBb.out.setCell (by show _ ≤ g2; omega) _
        generalize wb.setCell ⟨g2, k, none⟩ (.int .i64 b) = wc at *
        have xc5 := HCc.out.c5
        have qc := HQc.out.r.cellN rfl k KK.out.2.2
        have fc := HQc.out.r.frozenN rfl k
        go_upto_region 7 with fail
        have HQd := Lib.hid (HQc.out.set3 rfl k c)
        have HMd := Lib.hid (HMc.out.far (a := ⟨g3, k, none⟩) (by show g3 ≠ _; omega) (.int .i64 c))
        have HCd := Lib.hid (HCc.out.far (a := ⟨g3, k, none⟩) (by show g3 ≠ _; omega) (.int .i64 c))
        have HBd : Hid (Below w.heap.size w (wc.setCell ⟨g3, k, none⟩ (.int .i64 c))) := HBc.out.setCell (by show _ ≤ g3; omega) _
        generalize wc.setCell ⟨g3, k, none⟩ (.int .i64 c) = wd at *
        have xd0 := HCd.out.c0
        have xd1 := HCd.out.c1
        have xd2 := HCd.out.c2
        have xd3 := HCd.out.c3
        have xd4 := HCd.out.c4
        have xd5 := HCd.out.c5
        go_wp2_with fail
        refine (c_IsModel x y z _ _ _ (ts.set k a) (gs.set k b) (rs.set k c) _ (by rw [List.length_set]; exact l1) (by rw [List.length_set]; exact l2) (by rw [List.length_set]; exact l3) HQd.out.look).mono ?_
        rintro e wf ⟨rfl, hbf⟩
        have HQf := Lib.hid (HQd.out.below hbf)
        have HMf := Lib.hid (HMd.out.below hbf)
        have HCf := Lib.hid (HCd.out.below hbf)
        have HBf : Hid (Below w.heap.size w wf) := HBd.out.trans (hbf.mono HBd.out.size)
        clear hbf
        have mf_0 := HMf.out.c0
        have gf_0 := HMf.out.f 0
        have mf_1 := HMf.out.c1
        have gf_1 := HMf.out.f 1
        have mf_2 := HMf.out.c2
        have gf_2 := HMf.out.f 2
        have mf_3 := HMf.out.c3
        have gf_3 := HMf.out.f 3
        have mf_4 := HMf.out.c4
        have gf_4 := HMf.out.f 4
        have mf_5 := HMf.out.c5
        have gf_5 := HMf.out.f 5
        have xf0 := HCf.out.c0
        have xf1 := HCf.out.c1
        have xf2 := HCf.out.c2
        have xf3 := HCf.out.c3
        have xf4 := HCf.out.c4
        have xf5 := HCf.out.c5
        rw [HS.out]
        go_wp2
        have HP := Lib.hid (put6_mine (.int .i64 x) (.int .i64 y) (.int .i64 z) (.slice (some ⟨g1, 0, none⟩) ts.length e1) (.slice (some ⟨g2, 0, none⟩) gs.length e2) (.slice (some ⟨g3, 0, none⟩) rs.length e3) HMf.out)
        have HBE : Hid (Below w.heap.size w (put6 wf (w.heap.size + 1) (.int .i64 x) (.int .i64 y) (.int .i64 z) (.slice (some ⟨g1, 0, none⟩) ts.length e1) (.slice (some ⟨g2, 0, none⟩) gs.length e2) (.slice (some ⟨g3, 0, none⟩) rs.length e3))) := put6_below _ _ _ _ _ _ HBf.out (by omega)
        have HQ : Hid (Mod (put6 wf (w.heap.size + 1) (.int .i64 x) (.int .i64 y) (.int .i64 z) (.slice (some ⟨g1, 0, none⟩) ts.length e1) (.slice (some ⟨g2, 0, none⟩) gs.length e2) (.slice (some ⟨g3, 0, none⟩) rs.length e3)) w.heap.size (.slice (some ⟨g1, 0, none⟩) ts.length e1) (.slice (some ⟨g2, 0, none⟩) gs.length e2) (.slice (some ⟨g3, 0, none⟩) rs.length e3) (ts.set k a) (gs.set k b) (rs.set k c)) := (HQf.out.put6 _ _ _ _ _ _ (by have := HM2.out.lt; omega)).mono (by have := HB2.out.size; omega)
        unfold put6 at *
        generalize ((((((wf.setCell ⟨w.heap.size + 1, 0, none⟩ (.int .i64 x)).setCell ⟨w.heap.size + 1, 1, none⟩ (.int .i64 y)).setCell ⟨w.heap.size + 1, 2, none⟩ (.int .i64 z)).setCell ⟨w.heap.size + 1, 3, none⟩ (.slice (some ⟨g1, 0, none⟩) ts.length e1)).setCell ⟨w.heap.size + 1, 4, none⟩ (.slice (some ⟨g2, 0, none⟩) gs.length e2)).setCell ⟨w.heap.size + 1, 5, none⟩ (.slice (some ⟨g3, 0, none⟩) rs.length e3)) = we at *
        have f0 := HP.out.c0
        have f1 := HP.out.c1
        have f2 := HP.out.c2
        have f3 := HP.out.c3
        have f4 := HP.out.c4
        have f5 := HP.out.c5
        refine bodyPost_ret (v := .tuple #[.agg #[.int .i64 x, .int .i64 y, .int .i64 z, .slice (some ⟨g1, 0, none⟩) ts.length e1, .slice (some ⟨g2, 0, none⟩) gs.length e2, .slice (some ⟨g3, 0, none⟩) rs.length e3], .bool true]) (by simp [results, Try.results41, go_sem, f0, f1, f2, f3, f4, f5]) rfl ⟨_, _, _, rfl, HQ.out, HBE.out⟩

set_option maxHeartbeats 4000000 in
theorem c_SetBlockS (x y z : Int) (v1 v2 v3 : Value) (ts gs rs : List Int) (i a b c : Int) (w : World) (l1 : ts.length ≤ 4000000) (l2 : gs.length ≤ 4000000) (l3 : rs.length ≤ 4000000) (h : Look w v1 v2 v3 ts gs rs) :
    Calls Try.prog 40 #[.agg #[.int .i64 x, .int .i64 y, .int .i64 z, v1, v2, v3], .int .i64 i, .int .i64 a, .int .i64 b, .int .i64 c] w (GivesMod2 w (seX x y z ts gs rs i a b c x) (seX x y z ts gs rs i a b c y) (seX x y z ts gs rs i a b c z) (seL x y z ts gs rs i a b c ts a) (seL x y z ts gs rs i a b c gs b) (seL x y z ts gs rs i a b c rs c) (seB x y z ts gs rs i a b c)) := by
  have H := Lib.hid h
  obtain ⟨A1, c1, rfl⟩ := h.t.shape
  obtain ⟨A2, c2, rfl⟩ := h.g.shape
  obtain ⟨A3, c3, rfl⟩ := h.r.shape
  clear h
  have HX0 : Hid (Box6 ((w.alloc (.cells #[.int .i64 x, .int .i64 y, .int .i64 z, .slice A1 ts.length c1, .slice A2 gs.length c2, .slice A3 rs.length c3] 32)).alloc (.cells #[.int .i64 0, .int .i64 0, .int .i64 0, .slice none 0 0, .slice none 0 0, .slice none 0 0] 32)) w.heap.size x y z (.slice A1 ts.length c1) (.slice A2 gs.length c2) (.slice A3 rs.length c3)) := (Box6.new _ _ _ _ _ _ _ _).below ((Below.refl _ _).alloc (Nat.le_refl _) _)
  have HB0 : Hid (Below w.heap.size w ((w.alloc (.cells #[.int .i64 x, .int .i64 y, .int .i64 z, .slice A1 ts.length c1, .slice A2 gs.length c2, .slice A3 rs.length c3] 32)).alloc (.cells #[.int .i64 0, .int .i64 0, .int .i64 0, .slice none 0 0, .slice none 0 0, .slice none 0 0] 32))) := ((Below.refl _ _).alloc (Nat.le_refl _) _).alloc (by simp) _
  have HM0 : Hid (Mine6 ((w.alloc (.cells #[.int .i64 x, .int .i64 y, .int .i64 z, .slice A1 ts.length c1, .slice A2 gs.length c2, .slice A3 rs.length c3] 32)).alloc (.cells #[.int .i64 0, .int .i64 0, .int .i64 0, .slice none 0 0, .slice none 0 0, .slice none 0 0] 32)) (w.heap.size + 1) (.int .i64 0) (.int .i64 0) (.int .i64 0) (.slice none 0 0) (.slice none 0 0) (.slice none 0 0)) := by
    have := Mine6.new (w.alloc (.cells #[.int .i64 x, .int .i64 y, .int .i64 z, .slice A1 ts.length c1, .slice A2 gs.length c2, .slice A3 rs.length c3] 32)) (.int .i64 0) (.int .i64 0) (.int .i64 0) (.slice none 0 0) (.slice none 0 0) (.slice none 0 0) 32
    rw [World.size_alloc] at this
    exact this
  unfold seX seL
  cases hi : hasM x y z ts gs rs i
  · have HI := Lib.hid hi
    rw [show seB x y z ts gs rs i a b c = false by unfold seB; rw [hi]; rfl]
    simp only [Bool.false_eq_true, if_false]
    clear hi
    go_enter Try.func40, Try.ntmps40
    go_wp2_with fail
    refine (c_moHas x y z _ _ _ ts gs rs i _ l1 l2 l3 (H.out.below HB0.out)).mono ?_
    rintro e w1 ⟨rfl, hb1⟩
    rw [HI.out]
    have HX1 := Lib.hid (HX0.out.below hb1)
    have HM1 := Lib.hid (HM0.out.below hb1)
    have HB1 : Hid (Below w.heap.size w w1) := HB0.out.trans (hb1.mono HB0.out.size)
    clear hb1
    have d1_0 := HX1.out.c0
    have d1_1 := HX1.out.c1
    have d1_2 := HX1.out.c2
    have d1_3 := HX1.out.c3
    have d1_4 := HX1.out.c4
    have d1_5 := HX1.out.c5
    have m1_0 := HM1.out.c0
    have g1_0 := HM1.out.f 0
    have m1_1 := HM1.out.c1
    have g1_1 := HM1.out.f 1
    have m1_2 := HM1.out.c2
    have g1_2 := HM1.out.f 2
    have m1_3 := HM1.out.c3
    have g1_3 := HM1.out.f 3
    have m1_4 := HM1.out.c4
    have g1_4 := HM1.out.f 4
    have m1_5 := HM1.out.c5
    have g1_5 := HM1.out.f 5
    go_wp2
    have HP := Lib.hid (put6_mine (.int .i64 0) (.int .i64 0) (.int .i64 0) (.slice none 0 0) (.slice none 0 0) (.slice none 0 0) HM1.out)
    have HBE : Hid (Below w.heap.size w (put6 w1 (w.heap.size + 1) (.int .i64 0) (.int .i64 0) (.int .i64 0) (.slice none 0 0) (.slice none 0 0) (.slice none 0 0))) := put6_below _ _ _ _ _ _ HB1.out (by omega)
    have HQ : Hid (Mod (put6 w1 (w.heap.size + 1) (.int .i64 0) (.int .i64 0) (.int .i64 0) (.slice none 0 0) (.slice none 0 0) (.slice none 0 0)) w.heap.size (.slice none 0 0) (.slice none 0 0) (.slice none 0 0) [] [] []) := Mod.nil _ _
    unfold put6 at *
    generalize ((((((w1.setCell ⟨w.heap.size + 1, 0, none⟩ (.int .i64 0)).setCell ⟨w.heap.size + 1, 1, none⟩ (.int .i64 0)).setCell ⟨w.heap.size + 1, 2, none⟩ (.int .i64 0)).setCell ⟨w.heap.size + 1, 3, none⟩ (.slice none 0 0)).setCell ⟨w.heap.size + 1, 4, none⟩ (.slice none 0 0)).setCell ⟨w.heap.size + 1, 5, none⟩ (.slice none 0 0)) = we at *
    have f0 := HP.out.c0
    have f1 := HP.out.c1
    have f2 := HP.out.c2
    have f3 := HP.out.c3
    have f4 := HP.out.c4
    have f5 := HP.out.c5
    refine bodyPost_ret (v := .tuple #[.agg #[.int .i64 0, .int .i64 0, .int .i64 0, .slice none 0 0, .slice none 0 0, .slice none 0 0], .bool false]) (by simp [results, Try.results40, go_sem, f0, f1, f2, f3, f4, f5]) rfl ⟨_, _, _, rfl, HQ.out, HBE.out⟩
  · have HI := Lib.hid hi
    have HH := Lib.hid hi
    have hm : moB x y z ts gs rs = true := by unfold hasM at hi; simp at hi; exact hi.1
    have hi0 : 0 ≤ i := by unfold hasM at hi; simp at hi; exact hi.2.1
    have hi1 : i < x * y * z := by unfold hasM at hi; simp at hi; exact hi.2.2
    obtain ⟨k, rfl⟩ := Int.eq_ofNat_of_zero_le hi0
    obtain ⟨k1, k2, k3, _⟩ := metal_box hm hi1
    have KK : Hid (k < ts.length ∧ k < gs.length ∧ k < rs.length) := ⟨k1, k2, k3⟩
    have N : Hid (0 < ts.length ∧ 0 < gs.length ∧ 0 < rs.length) := ⟨by omega, by omega, by omega⟩
    clear hm hi k1 k2 k3 hi0 hi1
    cases hs : moB x y z (ts.set k a) (gs.set k b) (rs.set k c)
    · have HS := Lib.hid hs
      rw [show seB x y z ts gs rs k a b c = false by unfold seB; rw [show ((k : Int)).toNat = k from rfl, hs, Bool.and_false]]
      simp only [Bool.false_eq_true, if_false]
      clear hs
      go_enter Try.func40, Try.ntmps40
      go_wp2_with fail
      refine (c_moHas x y z _ _ _ ts gs rs k _ l1 l2 l3 (H.out.below HB0.out)).mono ?_
      rintro e w1 ⟨rfl, hb1⟩
      rw [HI.out]
      have HX1 := Lib.hid (HX0.out.below hb1)
      have HM1 := Lib.hid (HM0.out.below hb1)
      have HB1 : Hid (Below w.heap.size w w1) := HB0.out.trans (hb1.mono HB0.out.size)
      clear hb1
      have d1_0 := HX1.out.c0
      have d1_1 := HX1.out.c1
      have d1_2 := HX1.out.c2
      have d1_3 := HX1.out.c3
      have d1_4 := HX1.out.c4
      have d1_5 := HX1.out.c5
      have m1_0 := HM1.out.c0
      have g1_0 := HM1.out.f 0
      have m1_1 := HM1.out.c1
      have g1_1 := HM1.out.f 1
      have m1_2 := HM1.out.c2
      have g1_2 := HM1.out.f 2
      have m1_3 := HM1.out.c3
      have g1_3 := HM1.out.f 3
      have m1_4 := HM1.out.c4
      have g1_4 := HM1.out.f 4
      have m1_5 := HM1.out.c5
      have g1_5 := HM1.out.f 5
      go_wp2_with fail
      refine (c_moOwn x y z _ _ _ ts gs rs _ l1 l2 l3 N.out.1 N.out.2.1 N.out.2.2 (H.out.below HB1.out)).mono ?_
      rintro e w2 ⟨p1, p2, p3, rfl, hq, hb2⟩
      have HX2 := Lib.hid (HX1.out.below hb2)
      have HM2 := Lib.hid (HM1.out.below hb2)
      have HB2 : Hid (Below w.heap.size w w2) := HB1.out.trans (hb2.mono HB1.out.size)
      have HQ2 := Lib.hid hq
      clear hq
      clear hb2
      have d2_0 := HX2.out.c0
      have d2_1 := HX2.out.c1
      have d2_2 := HX2.out.c2
      have d2_3 := HX2.out.c3
      have d2_4 := HX2.out.c4
      have d2_5 := HX2.out.c5
      have m2_0 := HM2.out.c0
      have g2_0 := HM2.out.f 0
      have m2_1 := HM2.out.c1
      have g2_1 := HM2.out.f 1
      have m2_2 := HM2.out.c2
      have g2_2 := HM2.out.f 2
      have m2_3 := HM2.out.c3
      have g2_3 := HM2.out.f 3
      have m2_4 := HM2.out.c4
      have g2_4 := HM2.out.f 4
      have m2_5 := HM2.out.c5
      have g2_5 := HM2.out.f 5
      obtain ⟨g1, e1, rfl, ge1, gl1⟩ := HQ2.out.t.form N.out.1
      obtain ⟨g2, e2, rfl, ge2, gl2⟩ := HQ2.out.g.form N.out.2.1
      obtain ⟨g3, e3, rfl, ge3, gl3⟩ := HQ2.out.r.form N.out.2.2
      have zz := HM1.out.lt
      have hbx : Below w2.heap.size w2 (w2.alloc (.cells #[.int .i64 x, .int .i64 y, .int .i64 z, .slice (some ⟨g1, 0, none⟩) ts.length e1, .slice (some ⟨g2, 0, none⟩) gs.length e2, .slice (some ⟨g3, 0, none⟩) rs.length e3] 32)) := (Below.refl _ _).alloc (Nat.le_refl _) _
      have HCX : Hid (Box6 (w2.alloc (.cells #[.int .i64 x, .int .i64 y, .int .i64 z, .slice (some ⟨g1, 0, none⟩) ts.length e1, .slice (some ⟨g2, 0, none⟩) gs.length e2, .slice (some ⟨g3, 0, none⟩) rs.length e3] 32)) w2.heap.size x y z (.slice (some ⟨g1, 0, none⟩) ts.length e1) (.slice (some ⟨g2, 0, none⟩) gs.length e2) (.slice (some ⟨g3, 0, none⟩) rs.length e3)) := Box6.new _ _ _ _ _ _ _ _
      have HQa := Lib.hid (HQ2.out.below hbx)
      have HMa := Lib.hid (HM2.out.below hbx)
      have HBa : Hid (Below w.heap.size w (w2.alloc (.cells #[.int .i64 x, .int .i64 y, .int .i64 z, .slice (some ⟨g1, 0, none⟩) ts.length e1, .slice (some ⟨g2, 0, none⟩) gs.length e2, .slice (some ⟨g3, 0, none⟩) rs.length e3] 32))) := HB2.out.trans (hbx.mono HB2.out.size)
      clear hbx
      go_upto_region 4 with fail
      generalize w2.alloc (.cells #[.int .i64 x, .int .i64 y, .int .i64 z, .slice (some ⟨g1, 0, none⟩) ts.length e1, .slice (some ⟨g2, 0, none⟩) gs.length e2, .slice (some ⟨g3, 0, none⟩) rs.length e3] 32) = wa at *
      have xa3 := HCX.out.c3
      have qa := HQa.out.t.cellN rfl k KK.out.1
      have fa := HQa.out.t.frozenN rfl k
      have a0 : (0 : Int) ≤ (k : Int) := by omega
      have a1 : (k : Int) < (ts.length : Int) := by have := KK.out.1; omega
      have a2 : (k : Int) < (gs.length : Int) := by have := KK.out.2.1; omega
      have a3 : (k : Int) < (rs.length : Int) := by have := KK.out.2.2; omega
      go_upto_region 5 with fail
      have HQb := Lib.hid (HQa.out.set1 rfl k a)
      have HMb := Lib.hid (HMa.out.far (a := ⟨g1, k, none⟩) (by show g1 ≠ _; omega) (.int .i64 a))
      have HCb := Lib.hid (HCX.out.far (a := ⟨g1, k, none⟩) (by show g1 ≠ _; omega) (.int .i64 a))
      have HBb : Hid (Below w.heap.size w (wa.setCell ⟨g1, k, none⟩ (.int .i64 a))) := HBa.out.setCell (by show _ ≤ g1; omega) _
      generalize wa.setCell ⟨g1, k, none⟩ (.int .i64 a) = wb at *
      have xb4 := HCb.out.c4
      have qb := HQb.out.g.cellN rfl k KK.out.2.1
      have fb := HQb.out.g.frozenN rfl k
      go_upto_region 6 with fail
      have HQc := Lib.hid (HQb.out.set2 rfl k b)
      have HMc := Lib.hid (HMb.out.far (a := ⟨g2, k, none⟩) (by show g2 ≠ _; omega) (.int .i64 b))
      have HCc := Lib.hid (HCb.out.far (a := ⟨g2, k, none⟩) (by show g2 ≠ _; omega) (.int .i64 b))
      have HBc : Hid (Below w.heap.size w (wb.setCell ⟨g2, k, none⟩ (.int .i64 b))) := HBb.out.setCell (by show _ ≤ g2; omega) _
      generalize wb.setCell ⟨g2, k, none⟩ (.int .i64 b) = wc at *
      have xc5 := HCc.out.c5
      have qc := HQc.out.r.cellN rfl k KK.out.2.2
      have fc := HQc.out.r.frozenN rfl k
      go_upto_region 7 with fail
      have HQd := Lib.hid (HQc.out.set3 rfl k c)
      have HMd := Lib.hid (HMc.out.far (a := ⟨g3, k, none⟩) (by show g3 ≠ _; omega) (.int .i64 c))
      have HCd := Lib.hid (HCc.out.far (a := ⟨g3, k, none⟩) (by show g3 ≠ _; omega) (.int .i64 c))
      have HBd : Hid (Below w.heap.size w (wc.setCell ⟨g3, k, none⟩ (.int .i64 c))) := HBc.out.setCell (by show _ ≤ g3; omega) _
      generalize wc.setCell ⟨g3, k, none⟩ (.int .i64 c) = wd at *
      have xd0 := HCd.out.c0
      have xd1 := HCd.out.c1
      have xd2 := HCd.out.c2
      have xd3 := HCd.out.c3
      have xd4 := HCd.out.c4
      have xd5 := HCd.out.c5
      go_wp2_with fail
      refine (c_moGood x y z _ _ _ (ts.set k a) (gs.set k b) (rs.set k c) _ (by rw [List.length_set]; exact l1) (by rw [List.length_set]; exact l2) (by rw [List.length_set]; exact l3) HQd.out.look).mono ?_
      rintro e wf ⟨rfl, hbf⟩
      have HQf := Lib.hid (HQd.out.below hbf)
      have HMf := Lib.hid (HMd.out.below hbf)
      have HCf := Lib.hid (HCd.out.below hbf)
      have HBf : Hid (Below w.heap.size w wf) := HBd.out.trans (hbf.mono HBd.out.size)
      clear hbf
      have mf_0 := HMf.out.c0
      have gf_0 := HMf.out.f 0
      have mf_1 := HMf.out.c1
      have gf_1 := HMf.out.f 1
      have mf_2 := HMf.out.c2
      have gf_2 := HMf.out.f 2
      have mf_3 := HMf.out.c3
      have gf_3 := HMf.out.f 3
      have mf_4 := HMf.out.c4
      have gf_4 := HMf.out.f 4
      have mf_5 := HMf.out.c5
      have gf_5 := HMf.out.f 5
      have xf0 := HCf.out.c0
      have xf1 := HCf.out.c1
      have xf2 := HCf.out.c2
      have xf3 := HCf.out.c3
      have xf4 := HCf.out.c4
      have xf5 := HCf.out.c5
      rw [HS.out]
      go_wp2
      have HP := Lib.hid (put6_mine (.int .i64 0) (.int .i64 0) (.int .i64 0) (.slice none 0 0) (.slice none 0 0) (.slice none 0 0) HMf.out)
      have HBE : Hid (Below w.heap.size w (put6 wf (w.heap.size + 1) (.int .i64 0) (.int .i64 0) (.int .i64 0) (.slice none 0 0) (.slice none 0 0) (.slice none 0 0))) := put6_below _ _ _ _ _ _ HBf.out (by omega)
      have HQ : Hid (Mod (put6 wf (w.heap.size + 1) (.int .i64 0) (.int .i64 0) (.int .i64 0) (.slice none 0 0) (.slice none 0 0) (.slice none 0 0)) w.heap.size (.slice none 0 0) (.slice none 0 0) (.slice none 0 0) [] [] []) := Mod.nil _ _
      unfold put6 at *
      generalize ((((((wf.setCell ⟨w.heap.size + 1, 0, none⟩ (.int .i64 0)).setCell ⟨w.heap.size + 1, 1, none⟩ (.int .i64 0)).setCell ⟨w.heap.size + 1, 2, none⟩ (.int .i64 0)).setCell ⟨w.heap.size + 1, 3, none⟩ (.slice none 0 0)).setCell ⟨w.heap.size + 1, 4, none⟩ (.slice none 0 0)).setCell ⟨w.heap.size + 1, 5, none⟩ (.slice none 0 0)) = we at *
      have f0 := HP.out.c0
      have f1 := HP.out.c1
      have f2 := HP.out.c2
      have f3 := HP.out.c3
      have f4 := HP.out.c4
      have f5 := HP.out.c5
      refine bodyPost_ret (v := .tuple #[.agg #[.int .i64 0, .int .i64 0, .int .i64 0, .slice none 0 0, .slice none 0 0, .slice none 0 0], .bool false]) (by simp [results, Try.results40, go_sem, f0, f1, f2, f3, f4, f5]) rfl ⟨_, _, _, rfl, HQ.out, HBE.out⟩
    · have HS := Lib.hid hs
      rw [show seB x y z ts gs rs k a b c = true by unfold seB; rw [show ((k : Int)).toNat = k from rfl, hs, HH.out]; rfl]
      simp only [if_true, Int.toNat_natCast]
      clear hs
      go_enter Try.func40, Try.ntmps40
      go_wp2_with fail
      refine (c_moHas x y z _ _ _ ts gs rs k _ l1 l2 l3 (H.out.below HB0.out)).mono ?_
      rintro e w1 ⟨rfl, hb1⟩
      rw [HI.out]
      have HX1 := Lib.hid (HX0.out.below hb1)
      have HM1 := Lib.hid (HM0.out.below hb1)
      have HB1 : Hid (Below w.heap.size w w1) := HB0.out.trans (hb1.mono HB0.out.size)
      clear hb1
      have d1_0 := HX1.out.c0
      have d1_1 := HX1.out.c1
      have d1_2 := HX1.out.c2
      have d1_3 := HX1.out.c3
      have d1_4 := HX1.out.c4
      have d1_5 := HX1.out.c5
      have m1_0 := HM1.out.c0
      have g1_0 := HM1.out.f 0
      have m1_1 := HM1.out.c1
      have g1_1 := HM1.out.f 1
      have m1_2 := HM1.out.c2
      have g1_2 := HM1.out.f 2
      have m1_3 := HM1.out.c3
      have g1_3 := HM1.out.f 3
      have m1_4 := HM1.out.c4
      have g1_4 := HM1.out.f 4
      have m1_5 := HM1.out.c5
      have g1_5 := HM1.out.f 5
      go_wp2_with fail
      refine (c_moOwn x y z _ _ _ ts gs rs _ l1 l2 l3 N.out.1 N.out.2.1 N.out.2.2 (H.out.below HB1.out)).mono ?_
      rintro e w2 ⟨p1, p2, p3, rfl, hq, hb2⟩
      have HX2 := Lib.hid (HX1.out.below hb2)
      have HM2 := Lib.hid (HM1.out.below hb2)
      have HB2 : Hid (Below w.heap.size w w2) := HB1.out.trans (hb2.mono HB1.out.size)
      have HQ2 := Lib.hid hq
      clear hq
      clear hb2
      have d2_0 := HX2.out.c0
      have d2_1 := HX2.out.c1
      have d2_2 := HX2.out.c2
      have d2_3 := HX2.out.c3
      have d2_4 := HX2.out.c4
      have d2_5 := HX2.out.c5
      have m2_0 := HM2.out.c0
      have g2_0 := HM2.out.f 0
      have m2_1 := HM2.out.c1
      have g2_1 := HM2.out.f 1
      have m2_2 := HM2.out.c2
      have g2_2 := HM2.out.f 2
      have m2_3 := HM2.out.c3
      have g2_3 := HM2.out.f 3
      have m2_4 := HM2.out.c4
      have g2_4 := HM2.out.f 4
      have m2_5 := HM2.out.c5
      have g2_5 := HM2.out.f 5
      obtain ⟨g1, e1, rfl, ge1, gl1⟩ := HQ2.out.t.form N.out.1
      obtain ⟨g2, e2, rfl, ge2, gl2⟩ := HQ2.out.g.form N.out.2.1
      obtain ⟨g3, e3, rfl, ge3, gl3⟩ := HQ2.out.r.form N.out.2.2
      have zz := HM1.out.lt
      have hbx : Below w2.heap.size w2 (w2.alloc (.cells #[.int .i64 x, .int .i64 y, .int .i64 z, .slice (some ⟨g1, 0, none⟩) ts.length e1, .slice (some ⟨g2, 0, none⟩) gs.length e2, .slice (some ⟨g3, 0, none⟩) rs.length e3] 32)) := (Below.refl _ _).alloc (Nat.le_refl _) _
      have HCX : Hid (Box6 (w2.alloc (.cells #[.int .i64 x, .int .i64 y, .int .i64 z, .slice (some ⟨g1, 0, none⟩) ts.length e1, .slice (some ⟨g2, 0, none⟩) gs.length e2, .slice (some ⟨g3, 0, none⟩) rs.length e3] 32)) w2.heap.size x y z (.slice (some ⟨g1, 0, none⟩) ts.length e1) (.slice (some ⟨g2, 0, none⟩) gs.length e2) (.slice (some ⟨g3, 0, none⟩) rs.length e3)) := Box6.new _ _ _ _ _ _ _ _
      have HQa := Lib.hid (HQ2.out.below hbx)
      have HMa := Lib.hid (HM2.out.below hbx)
      have HBa : Hid (Below w.heap.size w (w2.alloc (.cells #[.int .i64 x, .int .i64 y, .int .i64 z, .slice (some ⟨g1, 0, none⟩) ts.length e1, .slice (some ⟨g2, 0, none⟩) gs.length e2, .slice (some ⟨g3, 0, none⟩) rs.length e3] 32))) := HB2.out.trans (hbx.mono HB2.out.size)
      clear hbx
      go_upto_region 4 with fail
      generalize w2.alloc (.cells #[.int .i64 x, .int .i64 y, .int .i64 z, .slice (some ⟨g1, 0, none⟩) ts.length e1, .slice (some ⟨g2, 0, none⟩) gs.length e2, .slice (some ⟨g3, 0, none⟩) rs.length e3] 32) = wa at *
      have xa3 := HCX.out.c3
      have qa := HQa.out.t.cellN rfl k KK.out.1
      have fa := HQa.out.t.frozenN rfl k
      have a0 : (0 : Int) ≤ (k : Int) := by omega
      have a1 : (k : Int) < (ts.length : Int) := by have := KK.out.1; omega
      have a2 : (k : Int) < (gs.length : Int) := by have := KK.out.2.1; omega
      have a3 : (k : Int) < (rs.length : Int) := by have := KK.out.2.2; omega
      go_upto_region 5 with fail
      have HQb := Lib.hid (HQa.out.set1 rfl k a)
      have HMb := Lib.hid (HMa.out.far (a := ⟨g1, k, none⟩) (by show g1 ≠ _; omega) (.int .i64 a))
      have HCb := Lib.hid (HCX.out.far (a := ⟨g1, k, none⟩) (by show g1 ≠ _; omega) (.int .i64 a))
      have HBb : Hid (Below w.heap.size w (wa.setCell ⟨g1, k, none⟩ (.int .i64 a))) := HBa.out.setCell (by show _ ≤ g1; omega) _
      generalize wa.setCell ⟨g1, k, none⟩ (.int .i64 a) = wb at *
      have xb4 := HCb.out.c4
      have qb := HQb.out.g.cellN rfl k KK.out.2.1
      have fb := HQb.out.g.frozenN rfl k
      go_upto_region 6 with fail
      have HQc := Lib.hid (HQb.out.set2 rfl k b)
      have HMc := Lib.hid (HMb.out.far (a := ⟨g2, k, none⟩) (by show g2 ≠ _; omega) (.int .i64 b))
      have HCc := Lib.hid (HCb.out.far (a := ⟨g2, k, none⟩) (by show g2 ≠ _; omega) (.int .i64 b))
      have HBc : Hid (Below w.heap.size w (wb.setCell ⟨g2, k, none⟩ (.int .i64 b))) := HBb.out.setCell (by show _ ≤ g2; omega) _
      generalize wb.setCell ⟨g2, k, none⟩ (.int .i64 b) = wc at *
      have xc5 := HCc.out.c5
      have qc := HQc.out.r.cellN rfl k KK.out.2.2
      have fc := HQc.out.r.frozenN rfl k
      go_upto_region 7 with fail
      have HQd := Lib.hid (HQc.out.set3 rfl k c)
      have HMd := Lib.hid (HMc.out.far (a := ⟨g3, k, none⟩) (by show g3 ≠ _; omega) (.int .i64 c))
      have HCd := Lib.hid (HCc.out.far (a := ⟨g3, k, none⟩) (by show g3 ≠ _; omega) (.int .i64 c))
      have HBd : Hid (Below w.heap.size w (wc.setCell ⟨g3, k, none⟩ (.int .i64 c))) := HBc.out.setCell (by show _ ≤ g3; omega) _
      generalize wc.setCell ⟨g3, k, none⟩ (.int .i64 c) = wd at *
      have xd0 := HCd.out.c0
      have xd1 := HCd.out.c1
      have xd2 := HCd.out.c2
      have xd3 := HCd.out.c3
      have xd4 := HCd.out.c4
      have xd5 := HCd.out.c5
      go_wp2_with fail
      refine (c_moGood x y z _ _ _ (ts.set k a) (gs.set k b) (rs.set k c) _ (by rw [List.length_set]; exact l1) (by rw [List.length_set]; exact l2) (by rw [List.length_set]; exact l3) HQd.out.look).mono ?_
      rintro e wf ⟨rfl, hbf⟩
      have HQf := Lib.hid (HQd.out.below hbf)
      have HMf := Lib.hid (HMd.out.below hbf)
      have HCf := Lib.hid (HCd.out.below hbf)
      have HBf : Hid (Below w.heap.size w wf) := HBd.out.trans (hbf.mono HBd.out.size)
      clear hbf
      have mf_0 := HMf.out.c0
      have gf_0 := HMf.out.f 0
      have mf_1 := HMf.out.c1
      have gf_1 := HMf.out.f 1
      have mf_2 := HMf.out.c2
      have gf_2 := HMf.out.f 2
      have mf_3 := HMf.out.c3
      have gf_3 := HMf.out.f 3
      have mf_4 := HMf.out.c4
      have gf_4 := HMf.out.f 4
      have mf_5 := HMf.out.c5
      have gf_5 := HMf.out.f 5
      have xf0 := HCf.out.c0
      have xf1 := HCf.out.c1
      have xf2 := HCf.out.c2
      have xf3 := HCf.out.c3
      have xf4 := HCf.out.c4
      have xf5 := HCf.out.c5
      rw [HS.out]
      go_wp2
      have HP := Lib.hid (put6_mine (.int .i64 x) (.int .i64 y) (.int .i64 z) (.slice (some ⟨g1, 0, none⟩) ts.length e1) (.slice (some ⟨g2, 0, none⟩) gs.length e2) (.slice (some ⟨g3, 0, none⟩) rs.length e3) HMf.out)
      have HBE : Hid (Below w.heap.size w (put6 wf (w.heap.size + 1) (.int .i64 x) (.int .i64 y) (.int .i64 z) (.slice (some ⟨g1, 0, none⟩) ts.length e1) (.slice (some ⟨g2, 0, none⟩) gs.length e2) (.slice (some ⟨g3, 0, none⟩) rs.length e3))) := put6_below _ _ _ _ _ _ HBf.out (by omega)
      have HQ : Hid (Mod (put6 wf (w.heap.size + 1) (.int .i64 x) (.int .i64 y) (.int .i64 z) (.slice (some ⟨g1, 0, none⟩) ts.length e1) (.slice (some ⟨g2, 0, none⟩) gs.length e2) (.slice (some ⟨g3, 0, none⟩) rs.length e3)) w.heap.size (.slice (some ⟨g1, 0, none⟩) ts.length e1) (.slice (some ⟨g2, 0, none⟩) gs.length e2) (.slice (some ⟨g3, 0, none⟩) rs.length e3) (ts.set k a) (gs.set k b) (rs.set k c)) := (HQf.out.put6 _ _ _ _ _ _ (by have := HM1.out.lt; omega)).mono (by have := HB1.out.size; omega)
      unfold put6 at *
      generalize ((((((wf.setCell ⟨w.heap.size + 1, 0, none⟩ (.int .i64 x)).setCell ⟨w.heap.size + 1, 1, none⟩ (.int .i64 y)).setCell ⟨w.heap.size + 1, 2, none⟩ (.int .i64 z)).setCell ⟨w.heap.size + 1, 3, none⟩ (.slice (some ⟨g1, 0, none⟩) ts.length e1)).setCell ⟨w.heap.size + 1, 4, none⟩ (.slice (some ⟨g2, 0, none⟩) gs.length e2)).setCell ⟨w.heap.size + 1, 5, none⟩ (.slice (some ⟨g3, 0, none⟩) rs.length e3)) = we at *
      have f0 := HP.out.c0
      have f1 := HP.out.c1
      have f2 := HP.out.c2
      have f3 := HP.out.c3
      have f4 := HP.out.c4
      have f5 := HP.out.c5
      refine bodyPost_ret (v := .tuple #[.agg #[.int .i64 x, .int .i64 y, .int .i64 z, .slice (some ⟨g1, 0, none⟩) ts.length e1, .slice (some ⟨g2, 0, none⟩) gs.length e2, .slice (some ⟨g3, 0, none⟩) rs.length e3], .bool true]) (by simp [results, Try.results40, go_sem, f0, f1, f2, f3, f4, f5]) rfl ⟨_, _, _, rfl, HQ.out, HBE.out⟩
end Go.Proofs.Ytglcdgonbmdhoaa
