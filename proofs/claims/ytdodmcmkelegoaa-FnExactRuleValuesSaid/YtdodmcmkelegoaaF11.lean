/-
  Contracts: RuleValues, in the program and in the model of it.
-/
import Derived.Test.YtdodmcmkelegoaaF10
import Derived.Test.YtdodmcmkelegoaaM13
import Derived.Test.YtdodmcmkelegoaaM10
import Derived.Test.YtdodmcmkelegoaaPL
namespace Go.Proofs.Ytdodmcmkelegoaa
open Go.RowKit
set_option linter.unusedVariables false
set_option linter.unusedSimpArgs false

noncomputable def rlB (x y z : Int) (ts gs rs : List Int) (n : Nat) (xs : List Int) : Bool := (moB x y z ts gs rs && ruleB n xs) && (List.range ts.length).all fun k => (rvO x y ts gs rs n xs k).isSome
noncomputable def rlL (x y z : Int) (ts gs rs : List Int) (n : Nat) (xs : List Int) : List Int := if rlB x y z ts gs rs n xs then firL (fun k => tvV (rvO x y ts gs rs n xs k)) ts.length else []
theorem rlL_no {x y z : Int} {ts gs rs : List Int} {n : Nat} {xs : List Int} (h : rlB x y z ts gs rs n xs = false) : rlL x y z ts gs rs n xs = [] := by unfold rlL; rw [h]; rfl
theorem rlL_yes {x y z : Int} {ts gs rs : List Int} {n : Nat} {xs : List Int} (h : rlB x y z ts gs rs n xs = true) : rlL x y z ts gs rs n xs = firL (fun k => tvV (rvO x y ts gs rs n xs k)) ts.length := by unfold rlL; rw [h]; rfl
theorem rlL_len (x y z : Int) (ts gs rs : List Int) (n : Nat) (xs : List Int) (h : ts.length ≤ 4000000) : (rlL x y z ts gs rs n xs).length ≤ 4000000 := by
  unfold rlL
  split
  · rw [firL_len]; exact h
  · simp
theorem rlB_no {x y z : Int} {ts gs rs : List Int} {n : Nat} {xs : List Int} {k : Nat} (hk : k < ts.length) (h : rvO x y ts gs rs n xs k = none) : rlB x y z ts gs rs n xs = false := by
  have : ((List.range ts.length).all fun k => (rvO x y ts gs rs n xs k).isSome) = false := by
    rw [List.all_eq_false]
    exact ⟨k, List.mem_range.2 hk, by rw [h]; simp⟩
  unfold rlB
  rw [this, Bool.and_false]
theorem rlB_yes {x y z : Int} {ts gs rs : List Int} {n : Nat} {xs : List Int} (hm : moB x y z ts gs rs = true) (hr : ruleB n xs = true) (h : ∀ k, k < ts.length → (rvO x y ts gs rs n xs k).isSome = true) : rlB x y z ts gs rs n xs = true := by
  have : ((List.range ts.length).all fun k => (rvO x y ts gs rs n xs k).isSome) = true := by
    rw [List.all_eq_true]
    exact fun k hk => h k (List.mem_range.1 hk)
  unfold rlB
  rw [this, hm, hr]; rfl
theorem isSome_of {o : Option Int} {t : Int} (h : o = some t) : o.isSome = true := by rw [h]; rfl

set_option maxHeartbeats 4000000 in
set_option maxRecDepth 100000 in
theorem c_RuleValues (x y z : Int) (v1 v2 v3 : Value) (ts gs rs : List Int) (n : Nat) (xs : List Int) (v : Value) (w : World) (l1 : ts.length ≤ 4000000) (l2 : gs.length ≤ 4000000) (l3 : rs.length ≤ 4000000) (ln : n ≤ 1048576) (h : Look w v1 v2 v3 ts gs rs) (hs : SeenC w v n xs) :
    Calls Try.prog 20 #[.agg #[.int .i64 x, .int .i64 y, .int .i64 z, v1, v2, v3], v] w (GivesRow2 w (rlL x y z ts gs rs n xs) (rlB x y z ts gs rs n xs)) := by
  obtain ⟨i0, hi0, hz0, hz1, hz2⟩ := info_parts int_info
  have hmk : ∀ (n : Nat) (W : World), n ≤ 120 → (Instr.makeSlice 24 (.int .i64 (n : Int)) (.int .i64 (n : Int))).run Try.prog W = .ok (.slice (some ⟨W.heap.size, 0, none⟩) n n) (W.alloc (.cells (madeCells #[.int .i64 0] n) 3)) := fun n W hn => by
    have := run_make (P := Try.prog) W 24 3 i0 (.int .i64 0) Try.underlying24 hi0 hz0 .i64 .i64 (n : Int) (n : Int) (by omega) (by omega) (by rw [hz2]; omega) (by omega)
    simpa [hz1, Value.cells] using this
  clear hi0 hz0 hz1 hz2
  have H := Lib.hid h
  obtain ⟨A1, c1, rfl⟩ := h.t.shape
  obtain ⟨A2, c2, rfl⟩ := h.g.shape
  obtain ⟨A3, c3, rfl⟩ := h.r.shape
  clear h
  have HX0 : Hid (Box6 (w.alloc (.cells #[.int .i64 x, .int .i64 y, .int .i64 z, .slice A1 ts.length c1, .slice A2 gs.length c2, .slice A3 rs.length c3] 34)) w.heap.size x y z (.slice A1 ts.length c1) (.slice A2 gs.length c2) (.slice A3 rs.length c3)) := Box6.new _ _ _ _ _ _ _ _
  have HB0 : Hid (Below w.heap.size w (w.alloc (.cells #[.int .i64 x, .int .i64 y, .int .i64 z, .slice A1 ts.length c1, .slice A2 gs.length c2, .slice A3 rs.length c3] 34))) := (Below.refl _ _).alloc (Nat.le_refl _) _
  have HS := Lib.hid hs
  have HI : Hid (∀ u, Below w.heap.size w u → Calls Try.prog 65 #[.agg #[.int .i64 x, .int .i64 y, .int .i64 z, .slice A1 ts.length c1, .slice A2 gs.length c2, .slice A3 rs.length c3]] u fun e w' => e = .returned (.bool (moB x y z ts gs rs)) ∧ Below u.heap.size u w') := fun u hu => c_IsModel x y z _ _ _ ts gs rs u l1 l2 l3 (H.out.below hu)
  have HR : Hid (∀ u, Below w.heap.size w u → Calls Try.prog 56 #[v] u fun e w' => e = .returned (.bool (ruleB n xs)) ∧ Below u.heap.size u w') := fun u hu => c_IsRule n xs v u ln (HS.out.1.below hu) HS.out.2
  obtain ⟨RA, rc, rfl, _, _, _⟩ := hs.1
  clear hs
  cases hm : moB x y z ts gs rs
  · have e : rlB x y z ts gs rs n xs = false := by unfold rlB; rw [hm]; rfl
    rw [rlL_no e, e]
    rw [hm] at HI
    clear hm e HR hmk HS H
    go_enter Try.func20, Try.ntmps20
    go_wp2_with fail
    refine (HI.out _ HB0.out).mono ?_
    rintro e w1 ⟨rfl, hb1⟩
    have HX1 := Lib.hid (HX0.out.below hb1)
    have HB1 : Hid (Below w.heap.size w w1) := HB0.out.trans (hb1.mono HB0.out.size)
    clear hb1
    have d1_0 := HX1.out.c0
    have d1_1 := HX1.out.c1
    have d1_2 := HX1.out.c2
    have d1_3 := HX1.out.c3
    have d1_4 := HX1.out.c4
    have d1_5 := HX1.out.c5
    go_wp2
    go_ret2
    exact ⟨_, rfl, Row.nil _ _, HB1.out⟩
  · rw [hm] at HI
    cases hp : ruleB n xs
    · have e : rlB x y z ts gs rs n xs = false := by unfold rlB; rw [hp, Bool.and_false, Bool.false_and]
      rw [rlL_no e, e]
      rw [hp] at HR
      clear hm hp e hmk HS H
      go_enter Try.func20, Try.ntmps20
      go_wp2_with fail
      refine (HI.out _ HB0.out).mono ?_
      rintro e w1 ⟨rfl, hb1⟩
      have HX1 := Lib.hid (HX0.out.below hb1)
      have HB1 : Hid (Below w.heap.size w w1) := HB0.out.trans (hb1.mono HB0.out.size)
      clear hb1
      have d1_0 := HX1.out.c0
      have d1_1 := HX1.out.c1
      have d1_2 := HX1.out.c2
      have d1_3 := HX1.out.c3
      have d1_4 := HX1.out.c4
      have d1_5 := HX1.out.c5
      go_wp2_with fail
      refine (HR.out _ HB1.out).mono ?_
      rintro e w2 ⟨rfl, hb2⟩
      have HX2 := Lib.hid (HX1.out.below hb2)
      have HB2 : Hid (Below w.heap.size w w2) := HB1.out.trans (hb2.mono HB1.out.size)
      clear hb2
      have d2_0 := HX2.out.c0
      have d2_1 := HX2.out.c1
      have d2_2 := HX2.out.c2
      have d2_3 := HX2.out.c3
      have d2_4 := HX2.out.c4
      have d2_5 := HX2.out.c5
      go_wp2
      go_ret2
      exact ⟨_, rfl, Row.nil _ _, HB2.out⟩
    · rw [hp] at HR
      obtain ⟨V, hV⟩ : ∃ V : Nat → Option Int, ∀ k, V k = rvO x y ts gs rs n xs k := ⟨_, fun _ => rfl⟩
      obtain ⟨n120, nxy⟩ := mo_len hm
      have FN : Hid (∀ k, k < ts.length → V k = none → rlB x y z ts gs rs n xs = false ∧ rlL x y z ts gs rs n xs = []) := fun k hk h => by
        have := rlB_no (z := z) hk ((hV k).symm.trans h)
        exact ⟨this, rlL_no this⟩
      have FY : Hid ((∀ k, k < ts.length → (V k).isSome = true) → rlB x y z ts gs rs n xs = true ∧ rlL x y z ts gs rs n xs = firL (fun k => tvV (V k)) ts.length) := fun h => by
        have := rlB_yes hm hp (fun k hk => by rw [← hV k]; exact h k hk)
        refine ⟨this, ?_⟩
        rw [rlL_yes this]
        congr 1
        exact funext fun k => by rw [hV k]
      have CF : Hid (∀ u, Below w.heap.size w u → Calls Try.prog 68 #[.slice RA n rc] u (GivesF false u.heap.size u (fun fs => evR n xs fs))) := fun u hu => c_formulaR false n xs _ u ln (HS.out.below hu) hp (fun h => by cases h)
      have CW : Hid (∀ (F : Value) (lo hi k : Nat) (u : World), k < ts.length → Below w.heap.size w u → FnV false lo hi u F (fun fs => evR n xs fs) → Calls Try.prog 67 #[F, .agg #[.int .i64 x, .int .i64 y, .int .i64 z, .slice A1 ts.length c1, .slice A2 gs.length c2, .slice A3 rs.length c3], .int .i64 (k : Int)] u fun e w' => e = .returned (.tuple #[.int .i64 (tvV (V k)), .bool (V k).isSome]) ∧ Below u.heap.size u w') := fun F lo hi k u hk hu hF => by
        rw [hV k]
        exact c_worthBy x y z _ _ _ ts gs rs n xs k F lo hi u (H.out.below hu) hm (by omega) l1 l2 hF
      have EL : Hid (∀ j, (partL (fun k => tvV (V k)) ts.length j).length = ts.length) := partL_len _ _
      have ES : Hid (∀ j : Nat, (partL (fun k => tvV (V k)) ts.length j).set j (tvV (V j)) = partL (fun k => tvV (V k)) ts.length (j + 1)) := partL_set _ _
      have EZ : Hid (partL (fun k => tvV (V k)) ts.length 0 = List.replicate ts.length 0) := partL_zero _ _
      have EA : Hid (partL (fun k => tvV (V k)) ts.length ts.length = firL (fun k => tvV (V k)) ts.length) := partL_all _ _
      clear hm hp nxy hV HS H
      generalize rlL x y z ts gs rs n xs = RL at *
      generalize rlB x y z ts gs rs n xs = RB at *
      generalize partL (fun k => tvV (V k)) ts.length = L at *
      generalize firL (fun k => tvV (V k)) ts.length = LL at *
      generalize ts.length = nt at *
      generalize gs.length = ng at *
      generalize rs.length = nr at *
      go_enter Try.func20, Try.ntmps20
      go_wp2_with fail
      refine (HI.out _ HB0.out).mono ?_
      rintro e w1 ⟨rfl, hb1⟩
      have HX1 := Lib.hid (HX0.out.below hb1)
      have HB1 : Hid (Below w.heap.size w w1) := HB0.out.trans (hb1.mono HB0.out.size)
      clear hb1
      have d1_0 := HX1.out.c0
      have d1_1 := HX1.out.c1
      have d1_2 := HX1.out.c2
      have d1_3 := HX1.out.c3
      have d1_4 := HX1.out.c4
      have d1_5 := HX1.out.c5
      go_wp2_with fail
      refine (HR.out _ HB1.out).mono ?_
      rintro e w2 ⟨rfl, hb2⟩
      have HX2 := Lib.hid (HX1.out.below hb2)
      have HB2 : Hid (Below w.heap.size w w2) := HB1.out.trans (hb2.mono HB1.out.size)
      clear hb2
      have d2_0 := HX2.out.c0
      have d2_1 := HX2.out.c1
      have d2_2 := HX2.out.c2
      have d2_3 := HX2.out.c3
      have d2_4 := HX2.out.c4
      have d2_5 := HX2.out.c5
      go_wp2_with fail
      refine (CF.out _ HB2.out).mono ?_
      rintro e w3 ⟨F, rfl, hF, hb3⟩
      have HX3 := Lib.hid (HX2.out.below hb3)
      have HB3 : Hid (Below w.heap.size w w3) := HB2.out.trans (hb3.mono HB2.out.size)
      have HF3 := Lib.hid hF
      clear hF
      clear hb3
      have d3_0 := HX3.out.c0
      have d3_1 := HX3.out.c1
      have d3_2 := HX3.out.c2
      have d3_3 := HX3.out.c3
      have d3_4 := HX3.out.c4
      have d3_5 := HX3.out.c5
      have HR3 : Hid (Row (w3.alloc (.cells (madeCells #[.int .i64 0] nt) 3)) w3.heap.size (.slice (some ⟨w3.heap.size, 0, none⟩) nt nt) (L 0)) := by rw [EZ.out]; exact row_zeros w3 nt (by unfold maxLen; omega)
      have HA3 : Hid (Below w3.heap.size w3 (w3.alloc (.cells (madeCells #[.int .i64 0] nt) 3))) := (Below.refl _ _).alloc (Nat.le_refl _) _
      have hk3 := hmk nt w3 n120
      clear hmk HI HR HX0 HX1 HX2 CF
      have lx3 := HX3.out.lt
      go_wp2_with fail
      go_loopw [27] (fun i wr => ∃ j : Nat, j ≤ nt ∧ i = .int .i64 j ∧ (∀ k, k < j → (V k).isSome = true) ∧ Row wr w3.heap.size (.slice (some ⟨w3.heap.size, 0, none⟩) nt nt) (L j) ∧ Below w3.heap.size w3 wr) (fun i _ => nt - (intOf i).toNat)
      case atStart => exact ⟨0, Nat.zero_le _, rfl, fun k hk => by omega, HR3.out, HA3.out⟩
      case round =>
        obtain ⟨j, hj, rfl, hv, hr, hbw⟩ := hrel
        have HV := Lib.hid hv
        have HR := Lib.hid hr
        have HU := Lib.hid hbw
        have HB : Hid (Below w.heap.size w wr) := HB3.out.trans (hbw.mono HB3.out.size)
        have HX := Lib.hid (HX3.out.below hbw)
        clear hv hr hbw hk3
        by_cases hlt : j < nt
        · have b1 : (0 : Int) ≤ (j : Int) := by omega
          have b2 : (j : Int) < (nt : Int) := by omega
          have CX := Lib.hid (CW.out F _ _ j wr hlt HB.out (HF3.out.below HU.out))
          have es := Lib.hid (ES.out j)
          have FNj := Lib.hid (FN.out j hlt)
          have GS : Hid (∀ t, V j = some t → ∀ k, k < j + 1 → (V k).isSome = true) := fun t ht k hk => by
            by_cases e : k < j
            · exact HV.out k e
            · obtain rfl : k = j := by omega
              exact isSome_of ht
          obtain ⟨k0, k1, k2, k3, k4, k5⟩ : (wr.cell? ⟨w.heap.size, 0, none⟩ = some (.int .i64 x) ∧ wr.cell? ⟨w.heap.size, 1, none⟩ = some (.int .i64 y) ∧ wr.cell? ⟨w.heap.size, 2, none⟩ = some (.int .i64 z) ∧ wr.cell? ⟨w.heap.size, 3, none⟩ = some (.slice A1 nt c1) ∧ wr.cell? ⟨w.heap.size, 4, none⟩ = some (.slice A2 ng c2) ∧ wr.cell? ⟨w.heap.size, 5, none⟩ = some (.slice A3 nr c3)) := ⟨HX.out.c0, HX.out.c1, HX.out.c2, HX.out.c3, HX.out.c4, HX.out.c5⟩
          cases hvj : V j with
          | none =>
            have FN2 := Lib.hid (FNj.out hvj)
            rw [hvj] at CX
            have CX' : Hid (Calls Try.prog 67 #[F, .agg #[.int .i64 x, .int .i64 y, .int .i64 z, .slice A1 nt c1, .slice A2 ng c2, .slice A3 nr c3], .int .i64 (j : Int)] wr fun e w' => e = .returned (.tuple #[.int .i64 0, .bool false]) ∧ Below wr.heap.size wr w') := CX
            clear CX hvj GS FNj es CW FN FY
            go_wp2_with fail
            refine CX'.out.mono ?_
            rintro e w4 ⟨rfl, hb4⟩
            have HB4 : Hid (Below w.heap.size w w4) := HB.out.trans (hb4.mono HB.out.size)
            clear hb4
            go_wp2
            go_ret2
            obtain ⟨g1, g2⟩ := FN2.out
            subst g1
            subst g2
            exact ⟨_, rfl, Row.nil _ _, HB4.out⟩
          | some t =>
            rw [hvj] at CX es
            have CX' : Hid (Calls Try.prog 67 #[F, .agg #[.int .i64 x, .int .i64 y, .int .i64 z, .slice A1 nt c1, .slice A2 ng c2, .slice A3 nr c3], .int .i64 (j : Int)] wr fun e w' => e = .returned (.tuple #[.int .i64 t, .bool true]) ∧ Below wr.heap.size wr w') := CX
            have es' : Hid ((L j).set j t = L (j + 1)) := es
            have GV := Lib.hid (GS.out t hvj)
            clear CX hvj GS FNj es
            go_wp2_with fail
            refine CX'.out.mono ?_
            rintro e w4 ⟨rfl, hb4⟩
            have HU4 := Lib.hid hb4
            clear hb4
            have qr := (HR.out.below HU4.out).cellN (EL.out j).symm j (by rw [EL.out]; exact hlt)
            have fr := (HR.out.below HU4.out).frozenN (EL.out j).symm j
            have hsw := HU.out.size
            go_wp2
            have N1 : Hid (Row (w4.setCell ⟨w3.heap.size, j, none⟩ (.int .i64 t)) w3.heap.size (.slice (some ⟨w3.heap.size, 0, none⟩) nt nt) (L (j + 1))) := by
              have := (Row.set_ (EL.out j).symm (HR.out.below HU4.out) j t).1
              rw [es'.out] at this
              exact this
            have N2 : Hid (Below w3.heap.size w3 (w4.setCell ⟨w3.heap.size, j, none⟩ (.int .i64 t))) := (HU.out.trans (HU4.out.mono hsw)).setCell (Nat.le_refl _) _
            go_roundw
            case rel => exact ⟨j + 1, by omega, by go_num, GV.out, N1.out, N2.out⟩
            case measure => simp [intOf]; omega
        · obtain rfl : j = nt := by omega
          obtain ⟨g1, g2⟩ := FY.out HV.out
          have G1 := Lib.hid g1
          have G2 := Lib.hid g2
          clear g1 g2 FN FY CW
          go_wp2
          go_ret2
          refine ⟨.slice (some ⟨w3.heap.size, 0, none⟩) j j, by rw [G1.out]; rfl, ?_, HB.out⟩
          rw [G2.out, ← EA.out]
          exact HR.out.mono HB3.out.size

set_option maxHeartbeats 4000000 in
set_option maxRecDepth 100000 in
theorem c_RuleValuesS (x y z : Int) (v1 v2 v3 : Value) (ts gs rs : List Int) (n : Nat) (xs : List Int) (v : Value) (w : World) (l1 : ts.length ≤ 4000000) (l2 : gs.length ≤ 4000000) (l3 : rs.length ≤ 4000000) (ln : n ≤ 1048576) (h : Look w v1 v2 v3 ts gs rs) (hs : SeenC w v n xs) :
    Calls Try.prog 19 #[.agg #[.int .i64 x, .int .i64 y, .int .i64 z, v1, v2, v3], v] w (GivesRow2 w (rlL x y z ts gs rs n xs) (rlB x y z ts gs rs n xs)) := by
  obtain ⟨i0, hi0, hz0, hz1, hz2⟩ := info_parts int_info
  have HJ := Lib.hid hi0
  clear hi0
  have H := Lib.hid h
  obtain ⟨A1, c1, rfl⟩ := h.t.shape
  obtain ⟨A2, c2, rfl⟩ := h.g.shape
  obtain ⟨A3, c3, rfl⟩ := h.r.shape
  clear h
  have HX0 : Hid (Box6 (w.alloc (.cells #[.int .i64 x, .int .i64 y, .int .i64 z, .slice A1 ts.length c1, .slice A2 gs.length c2, .slice A3 rs.length c3] 34)) w.heap.size x y z (.slice A1 ts.length c1) (.slice A2 gs.length c2) (.slice A3 rs.length c3)) := Box6.new _ _ _ _ _ _ _ _
  have HB0 : Hid (Below w.heap.size w (w.alloc (.cells #[.int .i64 x, .int .i64 y, .int .i64 z, .slice A1 ts.length c1, .slice A2 gs.length c2, .slice A3 rs.length c3] 34))) := (Below.refl _ _).alloc (Nat.le_refl _) _
  have HS := Lib.hid hs
  have HI : Hid (∀ u, Below w.heap.size w u → Calls Try.prog 71 #[.agg #[.int .i64 x, .int .i64 y, .int .i64 z, .slice A1 ts.length c1, .slice A2 gs.length c2, .slice A3 rs.length c3]] u fun e w' => e = .returned (.bool (moB x y z ts gs rs)) ∧ Below u.heap.size u w') := fun u hu => c_moGood x y z _ _ _ ts gs rs u l1 l2 l3 (H.out.below hu)
  have HR : Hid (∀ u, Below w.heap.size w u → Calls Try.prog 59 #[v] u fun e w' => e = .returned (.bool (ruleB n xs)) ∧ Below u.heap.size u w') := fun u hu => c_ruGood n xs v u ln (HS.out.1.below hu)
  obtain ⟨RA, rc, rfl, _, _, _⟩ := hs.1
  clear hs
  cases hm : moB x y z ts gs rs
  · have e : rlB x y z ts gs rs n xs = false := by unfold rlB; rw [hm]; rfl
    rw [rlL_no e, e]
    rw [hm] at HI
    clear hm e HR HS H
    go_enter Try.func19, Try.ntmps19
    go_wp2_with fail
    refine (HI.out _ HB0.out).mono ?_
    rintro e w1 ⟨rfl, hb1⟩
    have HX1 := Lib.hid (HX0.out.below hb1)
    have HB1 : Hid (Below w.heap.size w w1) := HB0.out.trans (hb1.mono HB0.out.size)
    clear hb1
    have d1_0 := HX1.out.c0
    have d1_1 := HX1.out.c1
    have d1_2 := HX1.out.c2
    have d1_3 := HX1.out.c3
    have d1_4 := HX1.out.c4
    have d1_5 := HX1.out.c5
    go_wp2
    go_ret2
    exact ⟨_, rfl, Row.nil _ _, HB1.out⟩
  · rw [hm] at HI
    cases hp : ruleB n xs
    · have e : rlB x y z ts gs rs n xs = false := by unfold rlB; rw [hp, Bool.and_false, Bool.false_and]
      rw [rlL_no e, e]
      rw [hp] at HR
      clear hm hp e HS H
      go_enter Try.func19, Try.ntmps19
      go_wp2_with fail
      refine (HI.out _ HB0.out).mono ?_
      rintro e w1 ⟨rfl, hb1⟩
      have HX1 := Lib.hid (HX0.out.below hb1)
      have HB1 : Hid (Below w.heap.size w w1) := HB0.out.trans (hb1.mono HB0.out.size)
      clear hb1
      have d1_0 := HX1.out.c0
      have d1_1 := HX1.out.c1
      have d1_2 := HX1.out.c2
      have d1_3 := HX1.out.c3
      have d1_4 := HX1.out.c4
      have d1_5 := HX1.out.c5
      go_wp2_with fail
      refine (HR.out _ HB1.out).mono ?_
      rintro e w2 ⟨rfl, hb2⟩
      have HX2 := Lib.hid (HX1.out.below hb2)
      have HB2 : Hid (Below w.heap.size w w2) := HB1.out.trans (hb2.mono HB1.out.size)
      clear hb2
      have d2_0 := HX2.out.c0
      have d2_1 := HX2.out.c1
      have d2_2 := HX2.out.c2
      have d2_3 := HX2.out.c3
      have d2_4 := HX2.out.c4
      have d2_5 := HX2.out.c5
      go_wp2
      go_ret2
      exact ⟨_, rfl, Row.nil _ _, HB2.out⟩
    · rw [hp] at HR
      obtain ⟨V, hV⟩ : ∃ V : Nat → Option Int, ∀ k, V k = rvO x y ts gs rs n xs k := ⟨_, fun _ => rfl⟩
      obtain ⟨n120, nxy⟩ := mo_len hm
      have FN : Hid (∀ k, k < ts.length → V k = none → rlB x y z ts gs rs n xs = false ∧ rlL x y z ts gs rs n xs = []) := fun k hk h => by
        have := rlB_no (z := z) hk ((hV k).symm.trans h)
        exact ⟨this, rlL_no this⟩
      have FY : Hid ((∀ k, k < ts.length → (V k).isSome = true) → rlB x y z ts gs rs n xs = true ∧ rlL x y z ts gs rs n xs = firL (fun k => tvV (V k)) ts.length) := fun h => by
        have := rlB_yes hm hp (fun k hk => by rw [← hV k]; exact h k hk)
        refine ⟨this, ?_⟩
        rw [rlL_yes this]
        congr 1
        exact funext fun k => by rw [hV k]
      have CW : Hid (∀ (k : Nat) (u : World), k < ts.length → Below w.heap.size w u → Calls Try.prog 13 #[.agg #[.int .i64 x, .int .i64 y, .int .i64 z, .slice A1 ts.length c1, .slice A2 gs.length c2, .slice A3 rs.length c3], .slice RA n rc, .int .i64 (k : Int)] u fun e w' => e = .returned (.tuple #[.int .i64 (tvV (V k)), .bool (V k).isSome]) ∧ Below u.heap.size u w') := fun k u hk hu => by
        have e : rvA x y z ts gs rs n xs (k : Int) = rvO x y ts gs rs n xs k := by
          have hh : rvB x y z ts gs rs n xs (k : Int) = true := by unfold rvB hasM; rw [hm, hp, decide_eq_true (by omega)]; rfl
          rw [rvA_yes hh, Int.toNat_natCast]
        have := c_RuleValueS x y z _ _ _ ts gs rs n xs _ (k : Int) u l1 l2 l3 ln (H.out.below hu) (HS.out.below hu)
        rw [e, ← hV k] at this
        exact this
      have EL : Hid (∀ j, (firL (fun k => tvV (V k)) j).length = j) := firL_len _
      have ES : Hid (∀ j : Nat, firL (fun k => tvV (V k)) (j + 1) = firL (fun k => tvV (V k)) j ++ [tvV (V j)]) := firL_succ _
      have EZ : Hid (firL (fun k => tvV (V k)) 0 = []) := rfl
      clear hm hp nxy hV HS H
      generalize rlL x y z ts gs rs n xs = RL at *
      generalize rlB x y z ts gs rs n xs = RB at *
      generalize firL (fun k => tvV (V k)) = L at *
      generalize ts.length = nt at *
      generalize gs.length = ng at *
      generalize rs.length = nr at *
      go_enter Try.func19, Try.ntmps19
      go_wp2_with fail
      refine (HI.out _ HB0.out).mono ?_
      rintro e w1 ⟨rfl, hb1⟩
      have HX1 := Lib.hid (HX0.out.below hb1)
      have HB1 : Hid (Below w.heap.size w w1) := HB0.out.trans (hb1.mono HB0.out.size)
      clear hb1
      have d1_0 := HX1.out.c0
      have d1_1 := HX1.out.c1
      have d1_2 := HX1.out.c2
      have d1_3 := HX1.out.c3
      have d1_4 := HX1.out.c4
      have d1_5 := HX1.out.c5
      go_wp2_with fail
      refine (HR.out _ HB1.out).mono ?_
      rintro e w2 ⟨rfl, hb2⟩
      have HX2 := Lib.hid (HX1.out.below hb2)
      have HB2 : Hid (Below w.heap.size w w2) := HB1.out.trans (hb2.mono HB1.out.size)
      clear hb2
      have d2_0 := HX2.out.c0
      have d2_1 := HX2.out.c1
      have d2_2 := HX2.out.c2
      have d2_3 := HX2.out.c3
      have d2_4 := HX2.out.c4
      have d2_5 := HX2.out.c5
      clear HI HR HX0 HX1
      have sw2 := HB2.out.size
      go_wp2_with fail
      go_loopw [6, 21] (fun v i wr => ∃ j : Nat, j ≤ nt ∧ i = .int .i64 j ∧ (∀ k, k < j → (V k).isSome = true) ∧ Row wr w2.heap.size v (L j) ∧ Below w2.heap.size w2 wr) (fun _ i _ => nt - (intOf i).toNat)
      case atStart => exact ⟨0, Nat.zero_le _, rfl, fun k hk => by omega, by rw [EZ.out]; exact Row.nil _ _, Below.refl _ _⟩
      case round =>
        obtain ⟨j, hj, rfl, hv, hr, hbw⟩ := hrel
        have HV := Lib.hid hv
        have HR := Lib.hid hr
        have HU := Lib.hid hbw
        have HB : Hid (Below w.heap.size w wr) := HB2.out.trans (hbw.mono HB2.out.size)
        have HX := Lib.hid (HX2.out.below hbw)
        clear hv hr hbw
        by_cases hlt : j < nt
        · have b1 : (0 : Int) ≤ (j : Int) := by omega
          have b2 : (j : Int) < (nt : Int) := by omega
          have CX := Lib.hid (CW.out j wr hlt HB.out)
          have es := Lib.hid (ES.out j)
          have el : (L j).length = j := EL.out j
          have FNj := Lib.hid (FN.out j hlt)
          have GS : Hid (∀ t, V j = some t → ∀ k, k < j + 1 → (V k).isSome = true) := fun t ht k hk => by
            by_cases e : k < j
            · exact HV.out k e
            · obtain rfl : k = j := by omega
              exact isSome_of ht
          obtain ⟨k0, k1, k2, k3, k4, k5⟩ : (wr.cell? ⟨w.heap.size, 0, none⟩ = some (.int .i64 x) ∧ wr.cell? ⟨w.heap.size, 1, none⟩ = some (.int .i64 y) ∧ wr.cell? ⟨w.heap.size, 2, none⟩ = some (.int .i64 z) ∧ wr.cell? ⟨w.heap.size, 3, none⟩ = some (.slice A1 nt c1) ∧ wr.cell? ⟨w.heap.size, 4, none⟩ = some (.slice A2 ng c2) ∧ wr.cell? ⟨w.heap.size, 5, none⟩ = some (.slice A3 nr c3)) := ⟨HX.out.c0, HX.out.c1, HX.out.c2, HX.out.c3, HX.out.c4, HX.out.c5⟩
          cases hvj : V j with
          | none =>
            have FN2 := Lib.hid (FNj.out hvj)
            rw [hvj] at CX
            have CX' : Hid (Calls Try.prog 13 #[.agg #[.int .i64 x, .int .i64 y, .int .i64 z, .slice A1 nt c1, .slice A2 ng c2, .slice A3 nr c3], .slice RA n rc, .int .i64 (j : Int)] wr fun e w' => e = .returned (.tuple #[.int .i64 0, .bool false]) ∧ Below wr.heap.size wr w') := CX
            clear CX hvj GS FNj es CW FN FY
            go_wp2_with fail
            refine CX'.out.mono ?_
            rintro e w4 ⟨rfl, hb4⟩
            have HB4 : Hid (Below w.heap.size w w4) := HB.out.trans (hb4.mono HB.out.size)
            clear hb4
            go_wp2
            go_ret2
            obtain ⟨g1, g2⟩ := FN2.out
            subst g1
            subst g2
            exact ⟨_, rfl, Row.nil _ _, HB4.out⟩
          | some t =>
            rw [hvj] at CX es
            have CX' : Hid (Calls Try.prog 13 #[.agg #[.int .i64 x, .int .i64 y, .int .i64 z, .slice A1 nt c1, .slice A2 ng c2, .slice A3 nr c3], .slice RA n rc, .int .i64 (j : Int)] wr fun e w' => e = .returned (.tuple #[.int .i64 t, .bool true]) ∧ Below wr.heap.size wr w') := CX
            have es' : Hid (L (j + 1) = L j ++ [t]) := es
            have GV := Lib.hid (GS.out t hvj)
            clear CX hvj GS FNj es
            go_wp2_with fail
            refine CX'.out.mono ?_
            rintro e w4 ⟨rfl, hb4⟩
            have HU4 : Hid (Below w2.heap.size w2 w4) := HU.out.trans (hb4.mono HU.out.size)
            have HR4 := Lib.hid (HR.out.below hb4)
            have sw := HU4.out.size
            clear hb4
            go_wp2_with (at_builtin; refine wpList_append_own _ rfl _ _ 24 rfl (w2.heap.size) 3 i0 (.int .i64 0) 1 8 Try.underlying24 HJ.out hz0 hz1 hz2 rfl (by decide) _ _ _ rfl (World.ownsRow.alloc HR4.out _) ⟨w4.heap.size, 0, none⟩ 1 1 [.int .i64 t] rfl rfl ?c1 ?c2 ?c3 ?c4 ?c5 ?_)
            case c1 =>
              intro i u hj
              match i, hj with
              | 0, hj => simp at hj; subst hj; simp [Addr.add]
            case c2 => intro u hu; simp at hu; subst hu; rfl
            case c3 => rw [el]; unfold maxLen; omega
            case c4 => rw [el]; omega
            case c5 => simp; omega
            intro v' w5 hown' hgrow _
            have R1 : Hid (Row w5 w2.heap.size v' (L (j + 1))) := by rw [es'.out]; exact row_more (by rw [el]; exact hown')
            have R2 : Hid (Below w2.heap.size w2 w5) := (HU4.out.alloc sw _).grown hgrow (by simp; omega) (fun g hg => (World.ownsRow.lt HR4.out g hg).1)
            clear hown' hgrow
            go_wp2
            go_roundw
            case rel => exact ⟨j + 1, by omega, by go_num, GV.out, R1.out, R2.out⟩
            case measure => simp [intOf]; omega
        · obtain rfl : j = nt := by omega
          obtain ⟨g1, g2⟩ := FY.out HV.out
          have G1 := Lib.hid g1
          have G2 := Lib.hid g2
          clear g1 g2 FN FY CW
          go_wp2
          go_ret2
          refine ⟨u6, by rw [G1.out]; rfl, ?_, HB.out⟩
          rw [G2.out]
          exact HR.out.mono sw2

end Go.Proofs.Ytdodmcmkelegoaa
