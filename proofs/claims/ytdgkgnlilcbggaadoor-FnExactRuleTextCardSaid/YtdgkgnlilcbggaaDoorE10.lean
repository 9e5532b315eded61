/-
  Contracts: depths and valid rules, in the model; DepthOfRule, in the program and in the model.
-/
import Derived.Test.YtdgkgnlilcbggaaDoorE9
namespace Go.Proofs.YtdgkgnlilcbggaaDoor
open Go.RowKit
set_option linter.unusedVariables false

/-- What the rows of a list of lists read as. -/
theorem rows_read {w : World} {B U : Nat} {v : Value} {xss : List (List Int)} (h : Rows w B U v xss) (h0 : 0 < xss.length) : ∃ g c, v = .slice (some ⟨g, 0, none⟩) xss.length c ∧ g < w.heap.size ∧
    ∀ i, i < xss.length → ∃ A c', w.cell? ⟨g, i, none⟩ = some (.slice A (xss.getD i []).length c') ∧ ∀ j, j < (xss.getD i []).length → ∃ g', A = some ⟨g', 0, none⟩ ∧ g' < w.heap.size ∧ w.cell? ⟨g', j, none⟩ = some (.int .i64 ((xss.getD i []).getD j 0)) := by
  obtain ⟨vs, h⟩ := h
  obtain ⟨g, c, rfl, _, hg⟩ := h.form h0
  refine ⟨g, c, rfl, hg, fun i hi => ?_⟩
  have hr := h.row i hi
  have hc := h.cell hi
  obtain ⟨A, c', e⟩ := hr.shape
  rw [e] at hr hc
  refine ⟨A, c', hc, fun j hj => ?_⟩
  obtain ⟨g', c'', e', _, hl⟩ := hr.form (by omega)
  simp at e'
  obtain ⟨rfl, rfl⟩ := e'
  exact ⟨g', rfl, hl, hr.cell j hj⟩

set_option maxHeartbeats 4000000 in
set_option maxRecDepth 100000 in
theorem c_ruDepths (ks : Nat → Int) (n U B : Nat) (v : Value) (w : World) (hl : n ≤ 39) (h0 : 0 < n) (h : Rows w B U v (kidsTo ks n)) :
    Calls Tryd.prog 17 #[v] w (GivesRow w (dps ks n)) := by
  obtain ⟨i0, hi0, hz0, hz1, hz2⟩ := info_parts int_info
  have HI := Lib.hid hi0
  obtain ⟨g, c, rfl, hg, hrows⟩ := rows_read h (by rw [kidsTo_len]; omega)
  rw [kidsTo_len] at hrows ⊢
  have E1 : Hid (∀ i, i < n → ∃ A c' m, m = (kidI ks i).length ∧ w.cell? ⟨g, i, none⟩ = some (.slice A m c') ∧ ∀ j, j < m → ∃ g', A = some ⟨g', 0, none⟩ ∧ g' < w.heap.size ∧ w.cell? ⟨g', j, none⟩ = some (.int .i64 ((kidI ks i).getD j 0))) := fun i hi => by
    obtain ⟨A, c', h1, h2⟩ := hrows i hi
    rw [kidsTo_at ks hi] at h1 h2
    exact ⟨A, c', _, rfl, h1, h2⟩
  have EA : Hid (∀ i j, j < (kidI ks i).length → ∃ x : Nat, x < i ∧ (kidI ks i).getD j 0 = (x : Int) ∧ depF ks i (j + 1) = max (depF ks i j) ((dps ks i).getD x 0)) := fun i j hj => kid_at hj
  have EF : Hid (∀ i, dps ks i ++ [depF ks i (kidI ks i).length + 1] = dps ks (i + 1)) := depF_all ks
  have EB : Hid (∀ i j, j ≤ (kidI ks i).length → 0 ≤ depF ks i j ∧ depF ks i j ≤ (i : Int)) := fun i j hj => depF_box ks i j hj
  have EX : Hid (∀ (i e : Nat), e < i → 0 ≤ (dps ks i).getD e 0 ∧ (dps ks i).getD e 0 ≤ (i : Int)) := fun i e he => dps_box ks i he
  have E0 : Hid (∀ i, depF ks i 0 = 0) := depF_zero ks
  have EL : Hid (∀ i, (dps ks i).length = i) := dps_len ks
  have EZ : Hid (dps ks 0 = []) := rfl
  have EK : Hid (∀ i, (kidI ks i).length ≤ 4) := fun i => by have := kid_len ks i; simpa [kidI] using this
  clear hrows h hi0
  generalize dps ks = D at *
  generalize depF ks = F at *
  generalize kidI ks = K at *
  go_enter Tryd.func17, Tryd.ntmps17
  go_wp2_with fail
  go_loopw [3, 11] (fun o i wr => ∃ k : Nat, k ≤ n ∧ i = .int .i64 k ∧ Row wr w.heap.size o (D k) ∧ Below w.heap.size w wr) (fun _ i _ => n - (intOf i).toNat)
  case atStart => exact ⟨0, Nat.zero_le _, rfl, by rw [EZ.out]; exact Row.nil _ _, Below.refl _ _⟩
  case round =>
    obtain ⟨k, hk, rfl, hr, hbw⟩ := hrel
    have HR := Lib.hid hr
    have HB := Lib.hid hbw
    clear hr hbw
    by_cases hlt : k < n
    · obtain ⟨A, c', m, hm, q0, hcell⟩ := E1.out k hlt
      have HM := Lib.hid hm
      have m4 := EK.out k
      rw [← hm] at m4
      have HC : Hid (∀ j, j < m → ∃ g', A = some ⟨g', 0, none⟩ ∧ wr.cell? ⟨g', j, none⟩ = some (.int .i64 ((K k).getD j 0))) := fun j hj => by
        obtain ⟨g', e, hg', hc⟩ := hcell j hj
        exact ⟨g', e, by rw [HB.out.cell (p := ⟨g', j, none⟩) hg']; exact hc⟩
      have q0' : wr.cell? ⟨g, k, none⟩ = some (.slice A m c') := by rw [HB.out.cell (p := ⟨g, k, none⟩) hg]; exact q0
      have EAk : Hid (∀ j, j < m → ∃ x : Nat, x < k ∧ (K k).getD j 0 = (x : Int) ∧ F k (j + 1) = max (F k j) ((D k).getD x 0)) := fun j hj => EA.out k j (by rw [← hm]; exact hj)
      have EBk : Hid (∀ j, j ≤ m → 0 ≤ F k j ∧ F k j ≤ (k : Int)) := fun j hj => EB.out k j (by rw [← hm]; exact hj)
      have EFk := Lib.hid (EF.out k)
      rw [← hm] at EFk
      have EXk := Lib.hid (EX.out k)
      have E0k := Lib.hid (E0.out k)
      have ELk := Lib.hid (EL.out k)
      have b1 : (0 : Int) ≤ (k : Int) := by omega
      have b2 : (k : Int) < (n : Int) := by omega
      obtain ⟨OA, OC, hov⟩ : ∃ OA OC, u3 = .slice OA k OC := by
        obtain ⟨OA, OC, e⟩ := HR.out.shape
        rw [ELk.out] at e
        exact ⟨OA, OC, e⟩
      subst hov
      have HO : Hid (∀ x, x < k → ∃ g', OA = some ⟨g', 0, none⟩ ∧ wr.cell? ⟨g', x, none⟩ = some (.int .i64 ((D k).getD x 0))) := fun x hx => by
        obtain ⟨g', c'', e', _, hl⟩ := HR.out.form (by rw [ELk.out]; omega)
        rw [ELk.out] at e'
        simp at e'
        obtain ⟨rfl, rfl⟩ := e'
        have hr : Row wr w.heap.size (.slice (some ⟨g', 0, none⟩) (D k).length OC) (D k) := by rw [ELk.out]; exact HR.out
        exact ⟨g', rfl, hr.cell x (by rw [ELk.out]; exact hx)⟩
      clear hm q0 hcell
      have HZ : Hid (F k 0 = 0) := E0k.out
      go_wp2_with fail
      go_loop [6, 17] (fun d i => ∃ j : Nat, j ≤ m ∧ i = .int .i64 j ∧ d = .int .i64 (F k j)) (fun _ i => m - (intOf i).toNat)
      case atStart => exact ⟨0, Nat.zero_le _, rfl, by rw [HZ.out]⟩
      case round =>
        obtain ⟨j, hj, rfl, rfl⟩ := hrel
        by_cases hjm : j < m
        · obtain ⟨x, hx, ex, eF⟩ := EAk.out j hjm
          obtain ⟨g1, rfl, c1⟩ := HC.out j hjm
          obtain ⟨g2, rfl, c2⟩ := HO.out x hx
          rw [ex] at c1
          have HF := Lib.hid eF
          obtain ⟨f0, f1⟩ := EBk.out j hj
          obtain ⟨x0, x1⟩ := EXk.out x hx
          generalize (D k).getD x 0 = dx at *
          have j1 : (0 : Int) ≤ (j : Int) := by omega
          have j2 : (j : Int) < (m : Int) := by omega
          have j3 : (0 : Int) ≤ (x : Int) := by omega
          have j4 : (x : Int) < (k : Int) := by omega
          clear ex eF
          go_wp2_with fail
          refine (c_l1Most _ _ _).mono ?_
          rintro e w2 ⟨rfl, rfl⟩
          go_wp2
          go_round
          case rel => exact ⟨j + 1, by omega, by go_num, by rw [HF.out]⟩
          case measure => simp [intOf]; omega
        · obtain rfl : j = m := by omega
          obtain ⟨f0, f1⟩ := EBk.out j (Nat.le_refl _)
          have sw := HB.out.size
          go_wp2_with (at_builtin; refine wpList_append_src rfl _ _ 42 rfl (base := w.heap.size) Tryd.underlying42 HI.out hz0 hz1 hz2 rfl (by decide) rfl (World.ownsRow.alloc HR.out _) rfl (src_one (x := F k j + 1) (by simp)) ints_ones ?c3 ?c4 ?c5 ?_)
          case c3 => rw [ELk.out]; unfold maxLen; omega
          case c4 => rw [ELk.out]; omega
          case c5 => first | omega | (simp; omega)
          intro v8 w8 hown8 hgrow8 _
          have R8 := Lib.hid (row_app (xs := D k) (ys := [F k j + 1]) (n := (D k).length + 1) rfl hown8)
          rw [EFk.out] at R8
          have B8 : Hid (Below w.heap.size w w8) := (HB.out.alloc sw _).grown hgrow8 (by simp; omega) (fun g hg => (World.ownsRow.lt HR.out g hg).1)
          clear hown8 hgrow8
          go_wp2
          go_roundw
          case rel => exact ⟨k + 1, by omega, by go_num, R8.out, B8.out⟩
          case measure => simp [intOf]; omega
    · obtain rfl : k = n := by omega
      go_wp2
      go_ret
      exact ⟨_, rfl, HR.out, HB.out⟩
/-- A list of parts of which the slice's room is known. -/
def SeenC (w : World) (v : Value) (n : Nat) (xs : List Int) : Prop := SeenP w v n xs ∧ ∀ A m c, v = .slice A m c → m ≤ c
theorem SeenC.below {w w' : World} {v : Value} {n : Nat} {xs : List Int} (h : SeenC w v n xs) (hb : Below w.heap.size w w') : SeenC w' v n xs := ⟨h.1.below hb, h.2⟩
theorem RowP.seenC {w : World} {B n : Nat} {v : Value} {xs : List Int} (h : RowP w B v n xs) : SeenC w v n xs := by
  refine ⟨h.seen, fun A m c e => ?_⟩
  rcases h.2 with ⟨rfl, h0⟩ | ⟨g, cap, cur, rfl, _, _, hn, _⟩
  · injection e with e1 e2 e3; omega
  · injection e with e1 e2 e3; omega

set_option maxHeartbeats 4000000 in
set_option maxRecDepth 100000 in
theorem c_ruGood (n : Nat) (xs : List Int) (v : Value) (w : World) (hl : n ≤ 1048576) (h : SeenP w v n xs) :
    Calls Tryd.prog 9 #[v] w fun e w' => e = .returned (.bool (ruleB n xs)) ∧ Below w.heap.size w w' := by
  have HS := Lib.hid h
  obtain ⟨A, c, rfl, _, _, _⟩ := h
  by_cases hn : 1 ≤ n ∧ n ≤ 39
  · have CT := Lib.hid (c_ruTree n xs _ w hn.2 (by omega) HS.out)
    have HT : Hid (treeB n xs = true → (parAll n xs && fullB (kdf xs) n) = true) := fun h => by unfold treeB at h; simp only [Bool.and_eq_true] at h ⊢; exact h.1
    have CD : Hid (∀ (v : Value) (u : World), Rows u w.heap.size u.heap.size v (kidsTo (kdf xs) n) → Calls Tryd.prog 17 #[v] u (GivesRow u (dps (kdf xs) n))) := fun v u hu => c_ruDepths (kdf xs) n _ _ v u hn.2 (by omega) hu
    have HR1 : Hid (treeB n xs = false → ruleB n xs = false) := fun h => by unfold ruleB; rw [h]; simp
    have HR2 : Hid (treeB n xs = true → ruleB n xs = decide ((dps (kdf xs) n).getD (n - 1) 0 ≤ 12)) := fun h => by unfold ruleB; rw [h, decide_eq_true hn]; simp
    have HL : Hid ((dps (kdf xs) n).length = n) := dps_len _ _
    have hd : decide (1 ≤ (n : Int) ∧ (n : Int) ≤ 39) = true := decide_eq_true (by omega)
    obtain ⟨p, hp⟩ : ∃ p, n = p + 1 := ⟨n - 1, by omega⟩
    have HP := Lib.hid hp
    have n39 : n ≤ 39 := hn.2
    have n1 : 1 ≤ n := hn.1
    clear hn hp
    generalize (parAll n xs && fullB (kdf xs) n) = TB at *
    generalize ruleB n xs = R at *
    generalize dps (kdf xs) n = D at *
    generalize kidsTo (kdf xs) n = KT at *
    go_enter Tryd.func9, Tryd.ntmps9
    go_wp2_with fail
    refine (c_l1In _ _ _ _).mono ?_
    rintro e w1 ⟨rfl, rfl⟩
    rw [hd]
    go_wp2_with fail
    refine CT.out.mono ?_
    rintro e w2 ⟨tv, rfl, hrs, hb2⟩
    have HRs := Lib.hid hrs
    have HB2 := Lib.hid hb2
    clear hrs hb2
    cases ht : treeB n xs
    · have G := Lib.hid (HR1.out ht)
      clear ht
      go_wp2
      go_ret
      exact ⟨ret_bool G.out.symm, HB2.out⟩
    · have G := Lib.hid (HR2.out ht)
      have HRt := Lib.hid ((HRs.out (HT.out ht)))
      have CD2 : Hid (Calls Tryd.prog 17 #[tv] w2 (GivesRow w2 D)) := CD.out tv w2 HRt.out
      clear ht
      go_wp2_with fail
      refine CD2.out.mono ?_
      rintro e w3 ⟨dv, rfl, hr3, hb3⟩
      have HB3 : Hid (Below w.heap.size w w3) := HB2.out.trans (hb3.mono HB2.out.size)
      obtain ⟨g, gc, rfl, _, _⟩ := hr3.form (by rw [HL.out]; omega)
      have q0 : w3.cell? ⟨g, p, none⟩ = some (.int .i64 (D.getD p 0)) := hr3.cell p (by rw [HL.out, HP.out]; omega)
      have G2 : Hid (R = decide (D.getD p 0 ≤ 12)) := by have := G.out; rw [show n - 1 = p by have := HP.out; omega] at this; exact this
      clear hr3 hb3
      rw [HL.out]
      generalize D.getD p 0 = dv at *
      have hi : ((n : Int) - 1) = (p : Int) := by have := HP.out; omega
      have p1 : (0 : Int) ≤ (p : Int) := by omega
      have p2 : (p : Int) < (n : Int) := by omega
      go_wp2
      go_ret
      exact ⟨ret_bool G2.out.symm, HB3.out⟩
  · have hB : ruleB n xs = false := by unfold ruleB; rw [decide_eq_false hn]; rfl
    have hd : decide (1 ≤ (n : Int) ∧ (n : Int) ≤ 39) = false := decide_eq_false (by omega)
    rw [hB]
    clear hB hn
    go_enter Tryd.func9, Tryd.ntmps9
    go_wp2_with fail
    refine (c_l1In _ _ _ _).mono ?_
    rintro e w1 ⟨rfl, rfl⟩
    rw [hd]
    go_wp2
    go_ret
    exact ⟨rfl, Below.refl _ _⟩

end Go.Proofs.YtdgkgnlilcbggaaDoor
