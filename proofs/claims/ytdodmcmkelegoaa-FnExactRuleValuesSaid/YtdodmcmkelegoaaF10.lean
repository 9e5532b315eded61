/-
  Contracts: RuleValue, in the program and in the model of it.
-/
import Derived.Test.YtdodmcmkelegoaaF9
import Derived.Test.YtdodmcmkelegoaaM6
namespace Go.Proofs.Ytdodmcmkelegoaa
open Go.RowKit
set_option linter.unusedVariables false
set_option linter.unusedSimpArgs false

def chkW (n : Int) : Option Int := if -1000000 ≤ n ∧ n ≤ 1000000 then some n else none
theorem chkW_yes {n : Int} (h : -1000000 ≤ n ∧ n ≤ 1000000) : chkW n = some n := if_pos h
theorem chkW_no {n : Int} (h : ¬ (-1000000 ≤ n ∧ n ≤ 1000000)) : chkW n = none := if_neg h
/-- The value of a valid rule for block k. -/
noncomputable def rvO (x y : Int) (ts gs rs : List Int) (n : Nat) (xs : List Int) (k : Nat) : Option Int := (evR n xs (fsO x y ts gs rs k)).bind chkW
def rvB (x y z : Int) (ts gs rs : List Int) (n : Nat) (xs : List Int) (i : Int) : Bool := hasM x y z ts gs rs i && ruleB n xs
noncomputable def rvA (x y z : Int) (ts gs rs : List Int) (n : Nat) (xs : List Int) (i : Int) : Option Int := if rvB x y z ts gs rs n xs i then rvO x y ts gs rs n xs i.toNat else none
theorem rvA_no {x y z : Int} {ts gs rs : List Int} {n : Nat} {xs : List Int} {i : Int} (h : rvB x y z ts gs rs n xs i = false) : rvA x y z ts gs rs n xs i = none := by unfold rvA; rw [h]; rfl
theorem rvA_yes {x y z : Int} {ts gs rs : List Int} {n : Nat} {xs : List Int} {i : Int} (h : rvB x y z ts gs rs n xs i = true) : rvA x y z ts gs rs n xs i = rvO x y ts gs rs n xs i.toNat := by unfold rvA; rw [h]; rfl

set_option maxHeartbeats 4000000 in
set_option maxRecDepth 100000 in
theorem c_worthBy (x y z : Int) (v1 v2 v3 : Value) (ts gs rs : List Int) (n : Nat) (xs : List Int) (k : Nat) (F : Value) (lo hi : Nat) (w : World) (h : Look w v1 v2 v3 ts gs rs) (hm : moB x y z ts gs rs = true) (hk : (k : Int) < x * y * z) (l1 : ts.length ≤ 4000000) (l2 : gs.length ≤ 4000000) (hF : FnV false lo hi w F (fun fs => evR n xs fs)) :
    Calls Try.prog 67 #[F, .agg #[.int .i64 x, .int .i64 y, .int .i64 z, v1, v2, v3], .int .i64 k] w fun e w' => e = .returned (.tuple #[.int .i64 (tvV (rvO x y ts gs rs n xs k)), .bool (rvO x y ts gs rs n xs k).isSome]) ∧ Below w.heap.size w w' := by
  have H := Lib.hid h
  obtain ⟨A1, c1, rfl⟩ := h.t.shape
  obtain ⟨A2, c2, rfl⟩ := h.g.shape
  obtain ⟨A3, c3, rfl⟩ := h.r.shape
  clear h
  have HX0 : Hid (Box6 (w.alloc (.cells #[.int .i64 x, .int .i64 y, .int .i64 z, .slice A1 ts.length c1, .slice A2 gs.length c2, .slice A3 rs.length c3] 34)) w.heap.size x y z (.slice A1 ts.length c1) (.slice A2 gs.length c2) (.slice A3 rs.length c3)) := Box6.new _ _ _ _ _ _ _ _
  have HB0 : Hid (Below w.heap.size w (w.alloc (.cells #[.int .i64 x, .int .i64 y, .int .i64 z, .slice A1 ts.length c1, .slice A2 gs.length c2, .slice A3 rs.length c3] 34))) := (Below.refl _ _).alloc (Nat.le_refl _) _
  have CF : Hid (∀ u, Below w.heap.size w u → Calls Try.prog 116 #[.agg #[.int .i64 x, .int .i64 y, .int .i64 z, .slice A1 ts.length c1, .slice A2 gs.length c2, .slice A3 rs.length c3], .int .i64 k] u (GivesRow u (fsO x y ts gs rs k))) := fun u hu => c_fieldsOf x y z _ _ _ ts gs rs k u (H.out.below hu) hm hk l1 l2
  have CT : Hid (∀ (fv : Value) (u : World), Below w.heap.size w u → Seen u fv (fsO x y ts gs rs k) → Calls Try.prog 98 #[F, fv] u fun e w' => e = .returned (.tuple #[.int .i64 (tvV (evR n xs (fsO x y ts gs rs k))), .bool (evR n xs (fsO x y ts gs rs k)).isSome]) ∧ Below u.heap.size u w') := fun fv u hu hs => c_tryFormula false lo hi F fv _ _ u (hF.below hu) hs (fs_ok hm hk)
  unfold rvO
  clear hF hm hk H
  generalize evR n xs (fsO x y ts gs rs k) = o at *
  generalize fsO x y ts gs rs k = fo at *
  cases o with
  | none =>
    have CT' : Hid (∀ (fv : Value) (u : World), Below w.heap.size w u → Seen u fv fo → Calls Try.prog 98 #[F, fv] u fun e w' => e = .returned (.tuple #[.int .i64 0, .bool false]) ∧ Below u.heap.size u w') := CT
    clear CT
    go_enter Try.func67, Try.ntmps67
    go_wp2_with fail
    refine (CF.out _ HB0.out).mono ?_
    rintro e w1 ⟨fv, rfl, hr, hb1⟩
    have HX1 := Lib.hid (HX0.out.below hb1)
    have HB1 : Hid (Below w.heap.size w w1) := HB0.out.trans (hb1.mono HB0.out.size)
    have HS1 := Lib.hid hr.seen
    clear hr
    clear hb1
    have d1_0 := HX1.out.c0
    have d1_1 := HX1.out.c1
    have d1_2 := HX1.out.c2
    have d1_3 := HX1.out.c3
    have d1_4 := HX1.out.c4
    have d1_5 := HX1.out.c5
    go_wp2_with fail
    refine (CT'.out fv _ HB1.out HS1.out).mono ?_
    rintro e w2 ⟨rfl, hb2⟩
    have HX2 := Lib.hid (HX1.out.below hb2)
    have HB2 : Hid (Below w.heap.size w w2) := HB1.out.trans (hb2.mono HB1.out.size)
    clear hb2
    have d2_0 := HX2.out.c0
    have d2_1 := HX2.out.c1
    have d2_2 := HX2.out.c2
    have d2_3 := HX2.out.c3
    have d2_4 := HX2.out.c4
    have d2_5 := HX2.out.c5
    go_wp2
    go_ret2
    exact ⟨rfl, HB2.out⟩
  | some t =>
    have CT' : Hid (∀ (fv : Value) (u : World), Below w.heap.size w u → Seen u fv fo → Calls Try.prog 98 #[F, fv] u fun e w' => e = .returned (.tuple #[.int .i64 t, .bool true]) ∧ Below u.heap.size u w') := CT
    clear CT
    have eb : (some t).bind chkW = chkW t := rfl
    rw [eb]
    clear eb
    by_cases hd : -1000000 ≤ t ∧ t ≤ 1000000
    · rw [chkW_yes hd]
      have hd' : decide (-1000000 ≤ t ∧ t ≤ 1000000) = true := decide_eq_true hd
      clear hd
      go_enter Try.func67, Try.ntmps67
      go_wp2_with fail
      refine (CF.out _ HB0.out).mono ?_
      rintro e w1 ⟨fv, rfl, hr, hb1⟩
      have HX1 := Lib.hid (HX0.out.below hb1)
      have HB1 : Hid (Below w.heap.size w w1) := HB0.out.trans (hb1.mono HB0.out.size)
      have HS1 := Lib.hid hr.seen
      clear hr
      clear hb1
      have d1_0 := HX1.out.c0
      have d1_1 := HX1.out.c1
      have d1_2 := HX1.out.c2
      have d1_3 := HX1.out.c3
      have d1_4 := HX1.out.c4
      have d1_5 := HX1.out.c5
      go_wp2_with fail
      refine (CT'.out fv _ HB1.out HS1.out).mono ?_
      rintro e w2 ⟨rfl, hb2⟩
      have HX2 := Lib.hid (HX1.out.below hb2)
      have HB2 : Hid (Below w.heap.size w w2) := HB1.out.trans (hb2.mono HB1.out.size)
      clear hb2
      have d2_0 := HX2.out.c0
      have d2_1 := HX2.out.c1
      have d2_2 := HX2.out.c2
      have d2_3 := HX2.out.c3
      have d2_4 := HX2.out.c4
      have d2_5 := HX2.out.c5
      go_wp2_with fail
      refine (c_isWorth _ _).mono ?_
      rintro e w3 ⟨rfl, rfl⟩
      rw [hd']
      go_wp2
      go_ret2
      exact ⟨rfl, HB2.out⟩
    · rw [chkW_no hd]
      have hd' : decide (-1000000 ≤ t ∧ t ≤ 1000000) = false := decide_eq_false hd
      clear hd
      go_enter Try.func67, Try.ntmps67
      go_wp2_with fail
      refine (CF.out _ HB0.out).mono ?_
      rintro e w1 ⟨fv, rfl, hr, hb1⟩
      have HX1 := Lib.hid (HX0.out.below hb1)
      have HB1 : Hid (Below w.heap.size w w1) := HB0.out.trans (hb1.mono HB0.out.size)
      have HS1 := Lib.hid hr.seen
      clear hr
      clear hb1
      have d1_0 := HX1.out.c0
      have d1_1 := HX1.out.c1
      have d1_2 := HX1.out.c2
      have d1_3 := HX1.out.c3
      have d1_4 := HX1.out.c4
      have d1_5 := HX1.out.c5
      go_wp2_with fail
      refine (CT'.out fv _ HB1.out HS1.out).mono ?_
      rintro e w2 ⟨rfl, hb2⟩
      have HX2 := Lib.hid (HX1.out.below hb2)
      have HB2 : Hid (Below w.heap.size w w2) := HB1.out.trans (hb2.mono HB1.out.size)
      clear hb2
      have d2_0 := HX2.out.c0
      have d2_1 := HX2.out.c1
      have d2_2 := HX2.out.c2
      have d2_3 := HX2.out.c3
      have d2_4 := HX2.out.c4
      have d2_5 := HX2.out.c5
      go_wp2_with fail
      refine (c_isWorth _ _).mono ?_
      rintro e w3 ⟨rfl, rfl⟩
      rw [hd']
      go_wp2
      go_ret2
      exact ⟨rfl, HB2.out⟩

set_option maxHeartbeats 4000000 in
set_option maxRecDepth 100000 in
theorem c_RuleValue (x y z : Int) (v1 v2 v3 : Value) (ts gs rs : List Int) (n : Nat) (xs : List Int) (v : Value) (i : Int) (w : World) (l1 : ts.length ≤ 4000000) (l2 : gs.length ≤ 4000000) (l3 : rs.length ≤ 4000000) (ln : n ≤ 1048576) (h : Look w v1 v2 v3 ts gs rs) (hs : SeenC w v n xs) :
    Calls Try.prog 16 #[.agg #[.int .i64 x, .int .i64 y, .int .i64 z, v1, v2, v3], v, .int .i64 i] w fun e w' => e = .returned (.tuple #[.int .i64 (tvV (rvA x y z ts gs rs n xs i)), .bool (rvA x y z ts gs rs n xs i).isSome]) ∧ Below w.heap.size w w' := by
  have H := Lib.hid h
  obtain ⟨A1, c1, rfl⟩ := h.t.shape
  obtain ⟨A2, c2, rfl⟩ := h.g.shape
  obtain ⟨A3, c3, rfl⟩ := h.r.shape
  clear h
  have HX0 : Hid (Box6 (w.alloc (.cells #[.int .i64 x, .int .i64 y, .int .i64 z, .slice A1 ts.length c1, .slice A2 gs.length c2, .slice A3 rs.length c3] 34)) w.heap.size x y z (.slice A1 ts.length c1) (.slice A2 gs.length c2) (.slice A3 rs.length c3)) := Box6.new _ _ _ _ _ _ _ _
  have HB0 : Hid (Below w.heap.size w (w.alloc (.cells #[.int .i64 x, .int .i64 y, .int .i64 z, .slice A1 ts.length c1, .slice A2 gs.length c2, .slice A3 rs.length c3] 34))) := (Below.refl _ _).alloc (Nat.le_refl _) _
  have HS := Lib.hid hs
  have HI : Hid (∀ u, Below w.heap.size w u → Calls Try.prog 65 #[.agg #[.int .i64 x, .int .i64 y, .int .i64 z, .slice A1 ts.length c1, .slice A2 gs.length c2, .slice A3 rs.length c3]] u fun e w' => e = .returned (.bool (moB x y z ts gs rs)) ∧ Below u.heap.size u w') := fun u hu => c_IsModel x y z _ _ _ ts gs rs u l1 l2 l3 (H.out.below hu)
  have HR : Hid (∀ u, Below w.heap.size w u → Calls Try.prog 56 #[v] u fun e w' => e = .returned (.bool (ruleB n xs)) ∧ Below u.heap.size u w') := fun u hu => c_IsRule n xs v u ln (HS.out.1.below hu) HS.out.2
  have HH : Hid (∀ u, Below w.heap.size w u → Calls Try.prog 66 #[.agg #[.int .i64 x, .int .i64 y, .int .i64 z], .int .i64 i] u fun e w' => e = .returned (.bool (hasB x y z i)) ∧ Below u.heap.size u w') := fun u hu => c_isBlock x y z i u
  obtain ⟨RA, rc, rfl, _, _, _⟩ := hs.1
  clear hs
  cases hm : moB x y z ts gs rs
  · have e : rvB x y z ts gs rs n xs i = false := by unfold rvB hasM; rw [hm]; rfl
    rw [rvA_no e]
    rw [hm] at HI
    clear hm e HR HH HS H
    go_enter Try.func16, Try.ntmps16
    go_wp2_with fail
    refine (HI.out _ HB0.out).mono ?_
    rintro e w1 ⟨rfl, hb1⟩
    have HX1 := Lib.hid (HX0.out.below hb1)
    have HB1 : Hid (Below w.heap.size w w1) := HB0.out.trans (hb1.mono HB0.out.size)
    clear hb1
    have d1_0 := HX1.out.c0
    have d1_1 := HX1.out.c1
    have d1_2 := HX1.out.c2
    have d1_3 := HX1.out.c3
    have d1_4 := HX1.out.c4
    have d1_5 := HX1.out.c5
    go_wp2
    go_ret2
    exact ⟨rfl, HB1.out⟩
  · rw [hm] at HI
    have hh : hasM x y z ts gs rs i = hasB x y z i := by unfold hasM hasB; rw [hm, (mo_true hm).1]
    cases hp : ruleB n xs
    · have e : rvB x y z ts gs rs n xs i = false := by unfold rvB; rw [hp, Bool.and_false]
      rw [rvA_no e]
      rw [hp] at HR
      clear hm hh hp e HH HS H
      go_enter Try.func16, Try.ntmps16
      go_wp2_with fail
      refine (HI.out _ HB0.out).mono ?_
      rintro e w1 ⟨rfl, hb1⟩
      have HX1 := Lib.hid (HX0.out.below hb1)
      have HB1 : Hid (Below w.heap.size w w1) := HB0.out.trans (hb1.mono HB0.out.size)
      clear hb1
      have d1_0 := HX1.out.c0
      have d1_1 := HX1.out.c1
      have d1_2 := HX1.out.c2
      have d1_3 := HX1.out.c3
      have d1_4 := HX1.out.c4
      have d1_5 := HX1.out.c5
      go_wp2_with fail
      refine (HR.out _ HB1.out).mono ?_
      rintro e w2 ⟨rfl, hb2⟩
      have HX2 := Lib.hid (HX1.out.below hb2)
      have HB2 : Hid (Below w.heap.size w w2) := HB1.out.trans (hb2.mono HB1.out.size)
      clear hb2
      have d2_0 := HX2.out.c0
      have d2_1 := HX2.out.c1
      have d2_2 := HX2.out.c2
      have d2_3 := HX2.out.c3
      have d2_4 := HX2.out.c4
      have d2_5 := HX2.out.c5
      go_wp2
      go_ret2
      exact ⟨rfl, HB2.out⟩
    · rw [hp] at HR
      cases hi : hasB x y z i
      · have e : rvB x y z ts gs rs n xs i = false := by unfold rvB; rw [hh, hi]; rfl
        rw [rvA_no e]
        rw [hi] at HH
        clear hm hh hp hi e HS H
        go_enter Try.func16, Try.ntmps16
        go_wp2_with fail
        refine (HI.out _ HB0.out).mono ?_
        rintro e w1 ⟨rfl, hb1⟩
        have HX1 := Lib.hid (HX0.out.below hb1)
        have HB1 : Hid (Below w.heap.size w w1) := HB0.out.trans (hb1.mono HB0.out.size)
        clear hb1
        have d1_0 := HX1.out.c0
        have d1_1 := HX1.out.c1
        have d1_2 := HX1.out.c2
        have d1_3 := HX1.out.c3
        have d1_4 := HX1.out.c4
        have d1_5 := HX1.out.c5
        go_wp2_with fail
        refine (HR.out _ HB1.out).mono ?_
        rintro e w2 ⟨rfl, hb2⟩
        have HX2 := Lib.hid (HX1.out.below hb2)
        have HB2 : Hid (Below w.heap.size w w2) := HB1.out.trans (hb2.mono HB1.out.size)
        clear hb2
        have d2_0 := HX2.out.c0
        have d2_1 := HX2.out.c1
        have d2_2 := HX2.out.c2
        have d2_3 := HX2.out.c3
        have d2_4 := HX2.out.c4
        have d2_5 := HX2.out.c5
        go_wp2_with fail
        refine (HH.out _ HB2.out).mono ?_
        rintro e w3 ⟨rfl, hb3⟩
        have HX3 := Lib.hid (HX2.out.below hb3)
        have HB3 : Hid (Below w.heap.size w w3) := HB2.out.trans (hb3.mono HB2.out.size)
        clear hb3
        have d3_0 := HX3.out.c0
        have d3_1 := HX3.out.c1
        have d3_2 := HX3.out.c2
        have d3_3 := HX3.out.c3
        have d3_4 := HX3.out.c4
        have d3_5 := HX3.out.c5
        go_wp2
        go_ret2
        exact ⟨rfl, HB3.out⟩
      · have e : rvB x y z ts gs rs n xs i = true := by unfold rvB; rw [hh, hi, hp]; rfl
        rw [rvA_yes e]
        rw [hi] at HH
        obtain ⟨_, hi0, hi1⟩ := has_true hi
        obtain ⟨k, rfl⟩ := Int.eq_ofNat_of_zero_le hi0
        simp only [Int.toNat_natCast]
        have CF : Hid (∀ u, Below w.heap.size w u → Calls Try.prog 68 #[.slice RA n rc] u (GivesF false u.heap.size u (fun fs => evR n xs fs))) := fun u hu => c_formulaR false n xs _ u ln (HS.out.below hu) hp (fun h => by cases h)
        have CW : Hid (∀ (F : Value) (lo hi : Nat) (u : World), Below w.heap.size w u → FnV false lo hi u F (fun fs => evR n xs fs) → Calls Try.prog 67 #[F, .agg #[.int .i64 x, .int .i64 y, .int .i64 z, .slice A1 ts.length c1, .slice A2 gs.length c2, .slice A3 rs.length c3], .int .i64 (k : Int)] u fun e w' => e = .returned (.tuple #[.int .i64 (tvV (rvO x y ts gs rs n xs k)), .bool (rvO x y ts gs rs n xs k).isSome]) ∧ Below u.heap.size u w') := fun F lo hi u hu hF => c_worthBy x y z _ _ _ ts gs rs n xs k F lo hi u (H.out.below hu) hm hi1 l1 l2 hF
        generalize rvO x y ts gs rs n xs k = V at *
        clear hm hh hp hi e hi0 hi1 HS H
        go_enter Try.func16, Try.ntmps16
        go_wp2_with fail
        refine (HI.out _ HB0.out).mono ?_
        rintro e w1 ⟨rfl, hb1⟩
        have HX1 := Lib.hid (HX0.out.below hb1)
        have HB1 : Hid (Below w.heap.size w w1) := HB0.out.trans (hb1.mono HB0.out.size)
        clear hb1
        have d1_0 := HX1.out.c0
        have d1_1 := HX1.out.c1
        have d1_2 := HX1.out.c2
        have d1_3 := HX1.out.c3
        have d1_4 := HX1.out.c4
        have d1_5 := HX1.out.c5
        go_wp2_with fail
        refine (HR.out _ HB1.out).mono ?_
        rintro e w2 ⟨rfl, hb2⟩
        have HX2 := Lib.hid (HX1.out.below hb2)
        have HB2 : Hid (Below w.heap.size w w2) := HB1.out.trans (hb2.mono HB1.out.size)
        clear hb2
        have d2_0 := HX2.out.c0
        have d2_1 := HX2.out.c1
        have d2_2 := HX2.out.c2
        have d2_3 := HX2.out.c3
        have d2_4 := HX2.out.c4
        have d2_5 := HX2.out.c5
        go_wp2_with fail
        refine (HH.out _ HB2.out).mono ?_
        rintro e w3 ⟨rfl, hb3⟩
        have HX3 := Lib.hid (HX2.out.below hb3)
        have HB3 : Hid (Below w.heap.size w w3) := HB2.out.trans (hb3.mono HB2.out.size)
        clear hb3
        have d3_0 := HX3.out.c0
        have d3_1 := HX3.out.c1
        have d3_2 := HX3.out.c2
        have d3_3 := HX3.out.c3
        have d3_4 := HX3.out.c4
        have d3_5 := HX3.out.c5
        have KE : Hid (∀ u, Below w3.heap.size w3 u → Below w.heap.size w u ∧ (u.cell? ⟨w.heap.size, 0, none⟩ = some (.int .i64 x) ∧ u.cell? ⟨w.heap.size, 1, none⟩ = some (.int .i64 y) ∧ u.cell? ⟨w.heap.size, 2, none⟩ = some (.int .i64 z) ∧ u.cell? ⟨w.heap.size, 3, none⟩ = some (.slice A1 ts.length c1) ∧ u.cell? ⟨w.heap.size, 4, none⟩ = some (.slice A2 gs.length c2) ∧ u.cell? ⟨w.heap.size, 5, none⟩ = some (.slice A3 rs.length c3))) := fun u hu => by
          have hX := HX3.out.below hu
          exact ⟨HB3.out.trans (hu.mono HB3.out.size), hX.c0, hX.c1, hX.c2, hX.c3, hX.c4, hX.c5⟩
        have KD : Hid (Below w3.heap.size w3 w3.drew) := (Below.refl _ _).drew
        go_wp2_with fail
        go_region_held3 (fun u => u.cell? ⟨w.heap.size, 0, none⟩ = some (.int .i64 x) ∧ u.cell? ⟨w.heap.size, 1, none⟩ = some (.int .i64 y) ∧ u.cell? ⟨w.heap.size, 2, none⟩ = some (.int .i64 z) ∧ u.cell? ⟨w.heap.size, 3, none⟩ = some (.slice A1 ts.length c1) ∧ u.cell? ⟨w.heap.size, 4, none⟩ = some (.slice A2 gs.length c2) ∧ u.cell? ⟨w.heap.size, 5, none⟩ = some (.slice A3 rs.length c3)) (first | with_reducible exact (KE.out _ KD.out).2 | with_reducible exact (KE.out _ HU4.out).2 | with_reducible exact (KE.out _ HU5.out).2)
          (first | (go_at_call 68; refine (CF.out _ (KE.out _ KD.out).1).mono ?_; rintro e w4 ⟨F, rfl, hF, hb⟩; have HU4 : Hid (Below w3.heap.size w3 w4) := KD.out.trans (hb.mono KD.out.size); have HF4 := Lib.hid hF; clear hb hF)
                 | (go_at_call 67; refine (CW.out F _ _ _ (KE.out _ HU4.out).1 HF4.out).mono ?_; rintro e w5 ⟨rfl, hb⟩; have HU5 : Hid (Below w3.heap.size w3 w5) := HU4.out.trans (hb.mono HU4.out.size); clear hb))
        have HB5 := Lib.hid (KE.out _ HU5.out).1
        clear KE CF CW HI HR HH HX3 HF4
        go_wp2
        go_ret2
        exact ⟨rfl, HB5.out⟩

set_option maxHeartbeats 4000000 in
set_option maxRecDepth 100000 in
theorem c_RuleValueS (x y z : Int) (v1 v2 v3 : Value) (ts gs rs : List Int) (n : Nat) (xs : List Int) (v : Value) (i : Int) (w : World) (l1 : ts.length ≤ 4000000) (l2 : gs.length ≤ 4000000) (l3 : rs.length ≤ 4000000) (ln : n ≤ 1048576) (h : Look w v1 v2 v3 ts gs rs) (hs : SeenC w v n xs) :
    Calls Try.prog 13 #[.agg #[.int .i64 x, .int .i64 y, .int .i64 z, v1, v2, v3], v, .int .i64 i] w fun e w' => e = .returned (.tuple #[.int .i64 (tvV (rvA x y z ts gs rs n xs i)), .bool (rvA x y z ts gs rs n xs i).isSome]) ∧ Below w.heap.size w w' := by
  have H := Lib.hid h
  obtain ⟨A1, c1, rfl⟩ := h.t.shape
  obtain ⟨A2, c2, rfl⟩ := h.g.shape
  obtain ⟨A3, c3, rfl⟩ := h.r.shape
  clear h
  have HX0 : Hid (Box6 (w.alloc (.cells #[.int .i64 x, .int .i64 y, .int .i64 z, .slice A1 ts.length c1, .slice A2 gs.length c2, .slice A3 rs.length c3] 34)) w.heap.size x y z (.slice A1 ts.length c1) (.slice A2 gs.length c2) (.slice A3 rs.length c3)) := Box6.new _ _ _ _ _ _ _ _
  have HB0 : Hid (Below w.heap.size w (w.alloc (.cells #[.int .i64 x, .int .i64 y, .int .i64 z, .slice A1 ts.length c1, .slice A2 gs.length c2, .slice A3 rs.length c3] 34))) := (Below.refl _ _).alloc (Nat.le_refl _) _
  have HS := Lib.hid hs
  have HI : Hid (∀ u, Below w.heap.size w u → Calls Try.prog 58 #[.agg #[.int .i64 x, .int .i64 y, .int .i64 z, .slice A1 ts.length c1, .slice A2 gs.length c2, .slice A3 rs.length c3], .int .i64 i] u fun e w' => e = .returned (.bool (hasM x y z ts gs rs i)) ∧ Below u.heap.size u w') := fun u hu => c_moHas x y z _ _ _ ts gs rs i u l1 l2 l3 (H.out.below hu)
  have HR : Hid (∀ u, Below w.heap.size w u → Calls Try.prog 59 #[v] u fun e w' => e = .returned (.bool (ruleB n xs)) ∧ Below u.heap.size u w') := fun u hu => c_ruGood n xs v u ln (HS.out.1.below hu)
  obtain ⟨RA, rc, rfl, _, _, _⟩ := hs.1
  clear hs
  cases hm : hasM x y z ts gs rs i
  · have e : rvB x y z ts gs rs n xs i = false := by unfold rvB; rw [hm]; rfl
    rw [rvA_no e]
    rw [hm] at HI
    clear hm e HR HS H
    go_enter Try.func13, Try.ntmps13
    go_wp2_with fail
    refine (HI.out _ HB0.out).mono ?_
    rintro e w1 ⟨rfl, hb1⟩
    have HX1 := Lib.hid (HX0.out.below hb1)
    have HB1 : Hid (Below w.heap.size w w1) := HB0.out.trans (hb1.mono HB0.out.size)
    clear hb1
    have d1_0 := HX1.out.c0
    have d1_1 := HX1.out.c1
    have d1_2 := HX1.out.c2
    have d1_3 := HX1.out.c3
    have d1_4 := HX1.out.c4
    have d1_5 := HX1.out.c5
    go_wp2
    go_ret2
    exact ⟨rfl, HB1.out⟩
  · rw [hm] at HI
    cases hp : ruleB n xs
    · have e : rvB x y z ts gs rs n xs i = false := by unfold rvB; rw [hp, Bool.and_false]
      rw [rvA_no e]
      rw [hp] at HR
      clear hm hp e HS H
      go_enter Try.func13, Try.ntmps13
      go_wp2_with fail
      refine (HI.out _ HB0.out).mono ?_
      rintro e w1 ⟨rfl, hb1⟩
      have HX1 := Lib.hid (HX0.out.below hb1)
      have HB1 : Hid (Below w.heap.size w w1) := HB0.out.trans (hb1.mono HB0.out.size)
      clear hb1
      have d1_0 := HX1.out.c0
      have d1_1 := HX1.out.c1
      have d1_2 := HX1.out.c2
      have d1_3 := HX1.out.c3
      have d1_4 := HX1.out.c4
      have d1_5 := HX1.out.c5
      go_wp2_with fail
      refine (HR.out _ HB1.out).mono ?_
      rintro e w2 ⟨rfl, hb2⟩
      have HX2 := Lib.hid (HX1.out.below hb2)
      have HB2 : Hid (Below w.heap.size w w2) := HB1.out.trans (hb2.mono HB1.out.size)
      clear hb2
      have d2_0 := HX2.out.c0
      have d2_1 := HX2.out.c1
      have d2_2 := HX2.out.c2
      have d2_3 := HX2.out.c3
      have d2_4 := HX2.out.c4
      have d2_5 := HX2.out.c5
      go_wp2
      go_ret2
      exact ⟨rfl, HB2.out⟩
    · rw [hp] at HR
      have e : rvB x y z ts gs rs n xs i = true := by unfold rvB; rw [hm, hp]; rfl
      rw [rvA_yes e]
      have hmm : moB x y z ts gs rs = true ∧ (0 ≤ i ∧ i < x * y * z) := by unfold hasM at hm; simpa using hm
      obtain ⟨hm1, hi0, hi1⟩ := hmm
      obtain ⟨k, rfl⟩ := Int.eq_ofNat_of_zero_le hi0
      simp only [Int.toNat_natCast]
      have CF : Hid (∀ u, Below w.heap.size w u → Calls Try.prog 61 #[.agg #[.int .i64 x, .int .i64 y, .int .i64 z, .slice A1 ts.length c1, .slice A2 gs.length c2, .slice A3 rs.length c3], .int .i64 (k : Int)] u (GivesRow u (fsO x y ts gs rs k))) := fun u hu => c_vaFields x y z _ _ _ ts gs rs k u (H.out.below hu) hm1 hi1 l1 l2
      have CE : Hid (∀ (fv : Value) (u : World), Below w.heap.size w u → Seen u fv (fsO x y ts gs rs k) → Calls Try.prog 60 #[.slice RA n rc, fv] u fun e w' => e = .returned (.tuple #[.int .i64 (tvV (evR n xs (fsO x y ts gs rs k))), .bool (evR n xs (fsO x y ts gs rs k)).isSome]) ∧ Below u.heap.size u w') := fun fv u hu hsn => by
        obtain ⟨_, _, _, n1, n2, hpp, hfull, _⟩ := rule_tree hp
        obtain ⟨hA, hss⟩ := treeOf_spec hp
        obtain ⟨_, _, hone⟩ := treeB_true (rule_size hp).2.2.1
        obtain ⟨h5, hFF⟩ := fs_ok hm1 hi1
        exact c_ruEval n xs _ _ fv u (by omega) n2 (HS.out.1.below hu) hsn hpp hfull rfl hFF (treeOf n xs) hA hone
      unfold rvO
      clear hm hm1 hp e hi0 hi1 HS H
      generalize evR n xs (fsO x y ts gs rs k) = o at *
      generalize fsO x y ts gs rs k = fo at *
      cases o with
      | none =>
        have CE' : Hid (∀ (fv : Value) (u : World), Below w.heap.size w u → Seen u fv fo → Calls Try.prog 60 #[.slice RA n rc, fv] u fun e w' => e = .returned (.tuple #[.int .i64 0, .bool false]) ∧ Below u.heap.size u w') := CE
        clear CE
        go_enter Try.func13, Try.ntmps13
        go_wp2_with fail
        refine (HI.out _ HB0.out).mono ?_
        rintro e w1 ⟨rfl, hb1⟩
        have HX1 := Lib.hid (HX0.out.below hb1)
        have HB1 : Hid (Below w.heap.size w w1) := HB0.out.trans (hb1.mono HB0.out.size)
        clear hb1
        have d1_0 := HX1.out.c0
        have d1_1 := HX1.out.c1
        have d1_2 := HX1.out.c2
        have d1_3 := HX1.out.c3
        have d1_4 := HX1.out.c4
        have d1_5 := HX1.out.c5
        go_wp2_with fail
        refine (HR.out _ HB1.out).mono ?_
        rintro e w2 ⟨rfl, hb2⟩
        have HX2 := Lib.hid (HX1.out.below hb2)
        have HB2 : Hid (Below w.heap.size w w2) := HB1.out.trans (hb2.mono HB1.out.size)
        clear hb2
        have d2_0 := HX2.out.c0
        have d2_1 := HX2.out.c1
        have d2_2 := HX2.out.c2
        have d2_3 := HX2.out.c3
        have d2_4 := HX2.out.c4
        have d2_5 := HX2.out.c5
        go_wp2_with fail
        refine (CF.out _ HB2.out).mono ?_
        rintro e w3 ⟨fv, rfl, hr, hb3⟩
        have HX3 := Lib.hid (HX2.out.below hb3)
        have HB3 : Hid (Below w.heap.size w w3) := HB2.out.trans (hb3.mono HB2.out.size)
        have HS3 := Lib.hid hr.seen
        clear hr
        clear hb3
        have d3_0 := HX3.out.c0
        have d3_1 := HX3.out.c1
        have d3_2 := HX3.out.c2
        have d3_3 := HX3.out.c3
        have d3_4 := HX3.out.c4
        have d3_5 := HX3.out.c5
        go_wp2_with fail
        refine (CE'.out fv _ HB3.out HS3.out).mono ?_
        rintro e w4 ⟨rfl, hb4⟩
        have HX4 := Lib.hid (HX3.out.below hb4)
        have HB4 : Hid (Below w.heap.size w w4) := HB3.out.trans (hb4.mono HB3.out.size)
        clear hb4
        have d4_0 := HX4.out.c0
        have d4_1 := HX4.out.c1
        have d4_2 := HX4.out.c2
        have d4_3 := HX4.out.c3
        have d4_4 := HX4.out.c4
        have d4_5 := HX4.out.c5
        go_wp2
        go_ret2
        exact ⟨rfl, HB4.out⟩
      | some t =>
        have CE' : Hid (∀ (fv : Value) (u : World), Below w.heap.size w u → Seen u fv fo → Calls Try.prog 60 #[.slice RA n rc, fv] u fun e w' => e = .returned (.tuple #[.int .i64 t, .bool true]) ∧ Below u.heap.size u w') := CE
        clear CE
        have eb : (some t).bind chkW = chkW t := rfl
        rw [eb]
        clear eb
        by_cases hd : -1000000 ≤ t ∧ t ≤ 1000000
        · rw [chkW_yes hd]
          have hd' : decide (-1000000 ≤ t ∧ t ≤ 1000000) = true := decide_eq_true hd
          clear hd
          go_enter Try.func13, Try.ntmps13
          go_wp2_with fail
          refine (HI.out _ HB0.out).mono ?_
          rintro e w1 ⟨rfl, hb1⟩
          have HX1 := Lib.hid (HX0.out.below hb1)
          have HB1 : Hid (Below w.heap.size w w1) := HB0.out.trans (hb1.mono HB0.out.size)
          clear hb1
          have d1_0 := HX1.out.c0
          have d1_1 := HX1.out.c1
          have d1_2 := HX1.out.c2
          have d1_3 := HX1.out.c3
          have d1_4 := HX1.out.c4
          have d1_5 := HX1.out.c5
          go_wp2_with fail
          refine (HR.out _ HB1.out).mono ?_
          rintro e w2 ⟨rfl, hb2⟩
          have HX2 := Lib.hid (HX1.out.below hb2)
          have HB2 : Hid (Below w.heap.size w w2) := HB1.out.trans (hb2.mono HB1.out.size)
          clear hb2
          have d2_0 := HX2.out.c0
          have d2_1 := HX2.out.c1
          have d2_2 := HX2.out.c2
          have d2_3 := HX2.out.c3
          have d2_4 := HX2.out.c4
          have d2_5 := HX2.out.c5
          go_wp2_with fail
          refine (CF.out _ HB2.out).mono ?_
          rintro e w3 ⟨fv, rfl, hr, hb3⟩
          have HX3 := Lib.hid (HX2.out.below hb3)
          have HB3 : Hid (Below w.heap.size w w3) := HB2.out.trans (hb3.mono HB2.out.size)
          have HS3 := Lib.hid hr.seen
          clear hr
          clear hb3
          have d3_0 := HX3.out.c0
          have d3_1 := HX3.out.c1
          have d3_2 := HX3.out.c2
          have d3_3 := HX3.out.c3
          have d3_4 := HX3.out.c4
          have d3_5 := HX3.out.c5
          go_wp2_with fail
          refine (CE'.out fv _ HB3.out HS3.out).mono ?_
          rintro e w4 ⟨rfl, hb4⟩
          have HX4 := Lib.hid (HX3.out.below hb4)
          have HB4 : Hid (Below w.heap.size w w4) := HB3.out.trans (hb4.mono HB3.out.size)
          clear hb4
          have d4_0 := HX4.out.c0
          have d4_1 := HX4.out.c1
          have d4_2 := HX4.out.c2
          have d4_3 := HX4.out.c3
          have d4_4 := HX4.out.c4
          have d4_5 := HX4.out.c5
          go_wp2_with fail
          refine (c_l1In _ _ _ _).mono ?_
          rintro e w5 ⟨rfl, rfl⟩
          rw [hd']
          go_wp2
          go_ret2
          exact ⟨rfl, HB4.out⟩
        · rw [chkW_no hd]
          have hd' : decide (-1000000 ≤ t ∧ t ≤ 1000000) = false := decide_eq_false hd
          clear hd
          go_enter Try.func13, Try.ntmps13
          go_wp2_with fail
          refine (HI.out _ HB0.out).mono ?_
          rintro e w1 ⟨rfl, hb1⟩
          have HX1 := Lib.hid (HX0.out.below hb1)
          have HB1 : Hid (Below w.heap.size w w1) := HB0.out.trans (hb1.mono HB0.out.size)
          clear hb1
          have d1_0 := HX1.out.c0
          have d1_1 := HX1.out.c1
          have d1_2 := HX1.out.c2
          have d1_3 := HX1.out.c3
          have d1_4 := HX1.out.c4
          have d1_5 := HX1.out.c5
          go_wp2_with fail
          refine (HR.out _ HB1.out).mono ?_
          rintro e w2 ⟨rfl, hb2⟩
          have HX2 := Lib.hid (HX1.out.below hb2)
          have HB2 : Hid (Below w.heap.size w w2) := HB1.out.trans (hb2.mono HB1.out.size)
          clear hb2
          have d2_0 := HX2.out.c0
          have d2_1 := HX2.out.c1
          have d2_2 := HX2.out.c2
          have d2_3 := HX2.out.c3
          have d2_4 := HX2.out.c4
          have d2_5 := HX2.out.c5
          go_wp2_with fail
          refine (CF.out _ HB2.out).mono ?_
          rintro e w3 ⟨fv, rfl, hr, hb3⟩
          have HX3 := Lib.hid (HX2.out.below hb3)
          have HB3 : Hid (Below w.heap.size w w3) := HB2.out.trans (hb3.mono HB2.out.size)
          have HS3 := Lib.hid hr.seen
          clear hr
          clear hb3
          have d3_0 := HX3.out.c0
          have d3_1 := HX3.out.c1
          have d3_2 := HX3.out.c2
          have d3_3 := HX3.out.c3
          have d3_4 := HX3.out.c4
          have d3_5 := HX3.out.c5
          go_wp2_with fail
          refine (CE'.out fv _ HB3.out HS3.out).mono ?_
          rintro e w4 ⟨rfl, hb4⟩
          have HX4 := Lib.hid (HX3.out.below hb4)
          have HB4 : Hid (Below w.heap.size w w4) := HB3.out.trans (hb4.mono HB3.out.size)
          clear hb4
          have d4_0 := HX4.out.c0
          have d4_1 := HX4.out.c1
          have d4_2 := HX4.out.c2
          have d4_3 := HX4.out.c3
          have d4_4 := HX4.out.c4
          have d4_5 := HX4.out.c5
          go_wp2_with fail
          refine (c_l1In _ _ _ _).mono ?_
          rintro e w5 ⟨rfl, rfl⟩
          rw [hd']
          go_wp2
          go_ret2
          exact ⟨rfl, HB4.out⟩

end Go.Proofs.Ytdodmcmkelegoaa
