/-
  Contracts: the model's SplitPiece.
-/
import Derived.Test.YthlclieifcbkjabV8
import Derived.Test.YthlclieifcbkjabT8
namespace Go.Proofs.Ythlclieifcbkjab
open Go.RowKit
set_option linter.unusedVariables false

theorem src_three {w : World} {b : Nat} {x y z : Int} (h0 : w.cell? ⟨b, 0, none⟩ = some (.int .i64 x)) (h1 : w.cell? ⟨b, 1, none⟩ = some (.int .i64 y)) (h2 : w.cell? ⟨b, 2, none⟩ = some (.int .i64 z)) : Src w 3 (some ⟨b, 0, none⟩) 1 1 (ints [x, y, z]) :=
  src_cells 3 rfl (fun e => by cases e) (fun _ => ⟨b, 0, rfl, fun k hk => by
    have hk' : k < 3 := by simpa using hk
    rcases k with _ | _ | _ | k
    · exact h0
    · exact h1
    · exact h2
    · omega⟩)
theorem rowP_app {w : World} {B : Nat} {v : Value} {xs ys : List Int} {n : Nat} (h : w.ownsRow B 40 3 v n (ints xs ++ ints ys)) : RowP w B v n (xs ++ ys) := by
  unfold RowP
  rw [show ints (xs ++ ys) = ints xs ++ ints ys by simp [ints]]
  exact h

set_option maxHeartbeats 8000000 in
set_option maxRecDepth 100000 in
theorem c_SplitPieceS (t m r : Int) (ws : List Int) (v : Value) (w : World) (hl : ws.length ≤ 4000000) (h : Seen w v ws) :
    Calls Try.prog 17 #[.agg #[.int .i64 t, .int .i64 m, .int .i64 r], v] w (GivesP2 w (splN t m r ws) (splL t m r ws) (splB t m r ws)) := by
  have HB0 : Hid (Below w.heap.size w (w.alloc (.cells #[.int .i64 t, .int .i64 m, .int .i64 r] 40))) := (Below.refl _ _).alloc (Nat.le_refl _) _
  have C1 := Lib.hid (c_sbPiece t m r (w.alloc (.cells #[.int .i64 t, .int .i64 m, .int .i64 r] 40)))
  have C2 : Hid (∀ u, Calls Try.prog 29 #[.int .i64 (ws.length : Int), .int .i64 1, .int .i64 20] u fun e w' => e = .returned (.bool (decide ((1 : Int) ≤ (ws.length : Int) ∧ (ws.length : Int) ≤ 20))) ∧ u = w') := fun u => c_l1In _ _ _ u
  have C3 : Hid (∀ u, Below w.heap.size w u → Calls Try.prog 33 #[v, .int .i64 0, .int .i64 100] u fun e w' => e = .returned (.bool (allB 100 ws)) ∧ u = w') := fun u hu => c_l1All ws v 100 u hl (h.below hu)
  have C4 : Hid (∀ u, Below w.heap.size w u → ws.length ≤ 20 → allB 100 ws = true → Calls Try.prog 34 #[v] u fun e w' => e = .returned (.int .i64 (sumTo ws ws.length)) ∧ u = w') := fun u hu hn ha => c_sbSum ws v u hn (mild_of ha) (h.below hu)
  by_cases hp : pieB t m r = true
  case neg =>
    have hp' : pieB t m r = false := by simpa using hp
    obtain ⟨e1, e2, e3⟩ := spl_no (ws := ws) (.inl hp')
    rw [e1, e2, e3]
    rw [hp'] at C1
    obtain ⟨A, c, rfl, _, _⟩ := h
    clear hp hp' e1 e2 e3
    go_enter Try.func17, Try.ntmps17
    go_wp2_with fail
    refine C1.out.mono ?_
    rintro e w1 ⟨rfl, hb1⟩
    have HB1 : Hid (Below w.heap.size w w1) := HB0.out.trans (hb1.mono HB0.out.size)
    clear hb1
    go_wp2
    go_ret2
    exact ⟨.slice none 0 0, rfl, RowP.nil _ _, HB1.out⟩
  case pos =>
  rw [hp] at C1
  by_cases hn : (1 : Int) ≤ (ws.length : Int) ∧ (ws.length : Int) ≤ 20
  case neg =>
    have hw' : wB ws = false := by
      have : decide (1 ≤ ws.length ∧ ws.length ≤ 20) = false := decide_eq_false (by omega)
      unfold wB; rw [this]; rfl
    obtain ⟨e1, e2, e3⟩ := spl_no (t := t) (m := m) (r := r) (.inr hw')
    rw [e1, e2, e3]
    rw [decide_eq_false hn] at C2
    obtain ⟨A, c, rfl, _, _⟩ := h
    clear hw' e1 e2 e3 hp hn
    go_enter Try.func17, Try.ntmps17
    go_wp2_with fail
    refine C1.out.mono ?_
    rintro e w1 ⟨rfl, hb1⟩
    have HB1 : Hid (Below w.heap.size w w1) := HB0.out.trans (hb1.mono HB0.out.size)
    clear hb1
    go_wp2_with fail
    refine (C2.out w1).mono ?_
    rintro e w2 ⟨rfl, rfl⟩
    go_wp2
    go_ret2
    exact ⟨.slice none 0 0, rfl, RowP.nil _ _, HB1.out⟩
  case pos =>
  rw [decide_eq_true hn] at C2
  by_cases ha : allB 100 ws = true
  case neg =>
    have ha' : allB 100 ws = false := by simpa using ha
    have hw' : wB ws = false := by unfold wB; rw [ha']; simp
    obtain ⟨e1, e2, e3⟩ := spl_no (t := t) (m := m) (r := r) (.inr hw')
    rw [e1, e2, e3]
    rw [ha'] at C3
    obtain ⟨A, c, rfl, _, _⟩ := h
    clear hw' e1 e2 e3 hp hn ha ha'
    go_enter Try.func17, Try.ntmps17
    go_wp2_with fail
    refine C1.out.mono ?_
    rintro e w1 ⟨rfl, hb1⟩
    have HB1 : Hid (Below w.heap.size w w1) := HB0.out.trans (hb1.mono HB0.out.size)
    clear hb1
    go_wp2_with fail
    refine (C2.out w1).mono ?_
    rintro e w2 ⟨rfl, rfl⟩
    go_wp2_with fail
    refine (C3.out w1 HB1.out).mono ?_
    rintro e w2 ⟨rfl, rfl⟩
    go_wp2
    go_ret2
    exact ⟨.slice none 0 0, rfl, RowP.nil _ _, HB1.out⟩
  case pos =>
  have hn' : ws.length ≤ 20 := by omega
  rw [ha] at C3
  have C5 : Hid (∀ u, Below w.heap.size w u → Calls Try.prog 34 #[v] u fun e w' => e = .returned (.int .i64 (sumTo ws ws.length)) ∧ u = w') := fun u hu => C4.out u hu hn' ha
  clear C4
  by_cases hz : sumTo ws ws.length = 0
  case pos =>
    have hw' : wB ws = false := by unfold wB; rw [hz]; simp
    obtain ⟨e1, e2, e3⟩ := spl_no (t := t) (m := m) (r := r) (.inr hw')
    rw [e1, e2, e3]
    rw [hz] at C5
    obtain ⟨A, c, rfl, _, _⟩ := h
    clear hw' e1 e2 e3 hp hn ha hn' hz
    go_enter Try.func17, Try.ntmps17
    go_wp2_with fail
    refine C1.out.mono ?_
    rintro e w1 ⟨rfl, hb1⟩
    have HB1 : Hid (Below w.heap.size w w1) := HB0.out.trans (hb1.mono HB0.out.size)
    clear hb1
    go_wp2_with fail
    refine (C2.out w1).mono ?_
    rintro e w2 ⟨rfl, rfl⟩
    go_wp2_with fail
    refine (C3.out w1 HB1.out).mono ?_
    rintro e w2 ⟨rfl, rfl⟩
    go_wp2_with fail
    refine (C5.out w1 HB1.out).mono ?_
    rintro e w2 ⟨rfl, rfl⟩
    go_wp2
    go_ret2
    exact ⟨.slice none 0 0, rfl, RowP.nil _ _, HB1.out⟩
  case neg =>
    have hw : wB ws = true := by
      have : decide (1 ≤ ws.length ∧ ws.length ≤ 20) = true := decide_eq_true (by omega)
      unfold wB; rw [this, ha]; simpa using hz
    obtain ⟨t0, t1, m0, m1, _, _⟩ := pie_true hp
    obtain ⟨n0, n20, hm, W0⟩ := w_true hw
    obtain ⟨e1, e2, e3⟩ := spl_yes hp hw
    rw [e1, e2, e3]
    have CT : Hid (∀ u, Below w.heap.size w u → Calls Try.prog 35 #[.int .i64 t, v] u (GivesRow u (shaL t ws))) := fun u hu => c_sbShares t ws v u n20 n0 hm t0 (by omega) W0 (h.below hu)
    have CM : Hid (¬ t = 0 → ∀ (p : Value) (u : World), Seen u p (shaL t ws) → Calls Try.prog 35 #[.int .i64 m, p] u (GivesRow u (metL t m ws))) := fun ht p u hu => by
      obtain ⟨a1, a2, a3⟩ := sha_again hp hw ht
      unfold metL
      rw [if_neg ht]
      exact c_sbShares m (shaL t ws) p u (by omega) (by omega) a2 m0 (by omega) a3 hu
    have HZ : Hid (t = 0 → metL t m ws = List.replicate ws.length 0) := fun ht => by unfold metL; rw [if_pos ht]
    have HTl : Hid ((shaL t ws).length = ws.length) := shaL_len t ws
    have HMl : Hid ((metL t m ws).length = ws.length) := metL_len t m ws
    obtain ⟨i0, hi0, hz0, hz1, hz2⟩ := info_parts int_info
    have hmk : ∀ u : World, (Instr.makeSlice 24 (.int .i64 (ws.length : Int)) (.int .i64 (ws.length : Int))).run Try.prog u = .ok (.slice (some ⟨u.heap.size, 0, none⟩) ws.length ws.length) (u.alloc (.cells (madeCells #[.int .i64 0] ws.length) 3)) := fun u => by
      have := run_make (P := Try.prog) u 24 3 i0 (.int .i64 0) Try.underlying24 hi0 hz0 .i64 .i64 (ws.length : Int) (ws.length : Int) (by omega) (by omega) (by rw [hz2]; omega) (by omega)
      simpa [hz1, Value.cells] using this
    have HZr : Hid (∀ u : World, Row (u.alloc (.cells (madeCells #[.int .i64 0] ws.length) 3)) u.heap.size (.slice (some ⟨u.heap.size, 0, none⟩) ws.length ws.length) (List.replicate ws.length 0)) := fun u => row_zeros u _ (by unfold maxLen; omega)
    obtain ⟨j0, hj0, jz0, jz1, jz2⟩ := info_parts piece_info
    have HI := Lib.hid hj0
    obtain ⟨XF, hXF⟩ : ∃ XF : Nat → List Int, flat3 (splF t m r ws) = XF := ⟨_, rfl⟩
    have HX0 : Hid (XF 0 = []) := by subst hXF; rfl
    have HXs : Hid (∀ k, XF (k + 1) = XF k ++ [(shaL t ws).getD k 0, (metL t m ws).getD k 0, r]) := by subst hXF; exact fun k => rfl
    rw [hXF]
    have hpos : (sumTo ws ws.length == 0) = false := beq_eq_false_iff_ne.2 hz
    obtain ⟨A, c, rfl, _, _⟩ := h
    clear hp hw e1 e2 e3 hm hi0 hj0 m1 ha hn hn' hXF
    generalize metL t m ws = M at *
    generalize shaL t ws = T at *
    generalize sumTo ws ws.length = sm at *
    generalize ws.length = n at *
    go_enter Try.func17, Try.ntmps17
    go_wp2_with fail
    refine C1.out.mono ?_
    rintro e w1 ⟨rfl, hb1⟩
    have HB1 : Hid (Below w.heap.size w w1) := HB0.out.trans (hb1.mono HB0.out.size)
    obtain ⟨d2, d1, d0⟩ := three_new w (.int .i64 t) (.int .i64 m) (.int .i64 r) 40
    have hlt : w.heap.size < (w.alloc (.cells #[.int .i64 t, .int .i64 m, .int .i64 r] 40)).heap.size := by simp
    have KK : Hid (∀ u, Below (w.heap.size + 1) w1 u → Below w.heap.size w u ∧ w.heap.size < u.heap.size ∧ u.cell? ⟨w.heap.size, 0, none⟩ = some (.int .i64 t) ∧ u.cell? ⟨w.heap.size, 1, none⟩ = some (.int .i64 m) ∧ u.cell? ⟨w.heap.size, 2, none⟩ = some (.int .i64 r)) := fun u hu => by
      have s1 := hb1.size
      have s2 := hu.size
      have e : ∀ o, u.cell? ⟨w.heap.size, o, none⟩ = (w.alloc (.cells #[.int .i64 t, .int .i64 m, .int .i64 r] 40)).cell? ⟨w.heap.size, o, none⟩ := fun o => by
        rw [hu.cell (p := ⟨w.heap.size, o, none⟩) (by show w.heap.size < _; omega), hb1.cell (p := ⟨w.heap.size, o, none⟩) hlt]
      exact ⟨HB1.out.trans (hu.mono (by omega)), by omega, by rw [e]; exact d0, by rw [e]; exact d1, by rw [e]; exact d2⟩
    have s1 : w.heap.size + 1 ≤ w1.heap.size := by have := hb1.size; simp at this; omega
    clear hb1 d0 d1 d2 hlt
    obtain ⟨_, _, d0, d1, d2⟩ := KK.out w1 (Below.refl _ _)
    go_wp2_with fail
    refine (C2.out w1).mono ?_
    rintro e w2 ⟨rfl, rfl⟩
    go_wp2_with fail
    refine (C3.out w1 HB1.out).mono ?_
    rintro e w2 ⟨rfl, rfl⟩
    go_wp2_with fail
    refine (C5.out w1 HB1.out).mono ?_
    rintro e w2 ⟨rfl, rfl⟩
    go_wp2_with fail
    refine (CT.out w1 HB1.out).mono ?_
    rintro e w2 ⟨tv, rfl, ht2, hb2⟩
    have HT2 := Lib.hid ht2
    have HV2 : Hid (Below (w.heap.size + 1) w1 w2) := hb2.mono s1
    obtain ⟨_, z2, d0, d1, d2⟩ := KK.out w2 HV2.out
    have s2 := hb2.size
    clear ht2 hb2
    obtain ⟨gt, ct, rfl, _, hgt⟩ := HT2.out.form (by rw [HTl.out]; exact n0)
    rw [HTl.out]
    have HMk := Lib.hid hmk
    clear hmk
    by_cases ht : t = 0
    · have hM := HZ.out ht
      subst ht
      have hk2 := HMk.out w2
      have HR3 := Lib.hid (HZr.out w2)
      rw [← hM] at HR3
      have HV3 : Hid (Below (w.heap.size + 1) w1 (w2.alloc (.cells (madeCells #[.int .i64 0] n) 3))) := HV2.out.alloc (by omega) _
      have HT3 := Lib.hid (HT2.out.below (w' := w2.alloc (.cells (madeCells #[.int .i64 0] n) 3)) ((Below.refl _ _).alloc (Nat.le_refl _) _))
      obtain ⟨_, z3, e0, e1, e2⟩ := KK.out _ HV3.out
      have s3 : w2.heap.size < (w2.alloc (.cells (madeCells #[.int .i64 0] n) 3)).heap.size := by simp
      go_wp2_with fail
      clear hk2
      generalize w2.alloc (.cells (madeCells #[.int .i64 0] n) 3) = w3 at *
      generalize w2.heap.size = gm at *
      have KW : Hid (∀ u, Below w3.heap.size w3 u → Below w.heap.size w u ∧ u.cell? ⟨w.heap.size, 2, none⟩ = some (.int .i64 r) ∧ (∀ k, k < n → u.cell? ⟨gt, k, none⟩ = some (.int .i64 (T.getD k 0))) ∧ (∀ k, k < n → u.cell? ⟨gm, k, none⟩ = some (.int .i64 (M.getD k 0)))) := fun u hu => by
        obtain ⟨y1, y2, _, _, y3⟩ := KK.out u (HV3.out.trans (hu.mono (by omega)))
        have yt : Row u _ _ T := HT3.out.below hu
        have ym : Row u _ _ M := HR3.out.below hu
        exact ⟨y1, y3, fun k hk => yt.cell k (by rw [HTl.out]; exact hk), fun k hk => by rw [← HMl.out] at ym hk; exact ym.cell k hk⟩
      have HN0 : Hid (RowP w3 w3.heap.size (.slice none 0 0) 0 []) := RowP.nil _ _
      go_loopw [8, 46] (fun q i wr => ∃ k : Nat, k ≤ n ∧ i = .int .i64 k ∧ RowP wr w3.heap.size q k (XF k) ∧ Below w3.heap.size w3 wr) (fun _ i _ => n - (intOf i).toNat)
      case atStart => exact ⟨0, Nat.zero_le _, rfl, by rw [HX0.out]; exact HN0.out, Below.refl _ _⟩
      case round =>
        obtain ⟨k, hk, rfl, hr, hb⟩ := hrel
        have HR := Lib.hid hr
        have HB := Lib.hid hb
        clear hr hb
        by_cases hlt : k < n
        · obtain ⟨_, y3, yt, ym⟩ := KW.out wr HB.out
          have q0 := yt k hlt
          have q1 := ym k hlt
          clear yt ym
          have HXk := Lib.hid (HXs.out k)
          generalize T.getD k 0 = tk at *
          generalize hmk : M.getD k 0 = mk at *
          have b1 : (0 : Int) ≤ (k : Int) := by omega
          have b2 : (k : Int) < (n : Int) := by omega
          have KS : Hid (∀ u, Below w3.heap.size w3 u → u.cell? ⟨gm, k, none⟩ = some (.int .i64 mk) ∧ u.cell? ⟨w.heap.size, 2, none⟩ = some (.int .i64 r)) := fun u hu => by
            obtain ⟨_, x3, _, xm⟩ := KW.out u hu
            exact ⟨by rw [← hmk]; exact xm k hlt, x3⟩
          clear hmk
          have K20 : Hid (k < 20) := by show k < 20; omega
          go_wp2_with fail
          go_region_held3 (fun u => u.cell? ⟨gm, k, none⟩ = some (.int .i64 mk) ∧ u.cell? ⟨w.heap.size, 2, none⟩ = some (.int .i64 r)) (first | exact KS.out _ HB.out | exact KS.out _ HB.out.drew | exact KS.out _ B3.out | exact KS.out _ (HB.out.drew.alloc HB.out.size _) | exact KS.out _ (HB.out.alloc HB.out.size _))
            (first
              | (refine step_append_src rfl _ _ 27 rfl Try.underlying27 HI.out jz0 jz1 jz2 rfl (by decide) (by rfl) (World.ownsRow.alloc HR.out _) (by rfl) (src_three (x := tk) (y := mk) (z := r) (by simp) (by simp) (by simp)) ints_ones (by have := K20.out; unfold maxLen; omega) (by have := K20.out; omega) (by have := HB.out.size; simp; omega) ?_; intro v3 w4 o3 g3 a3; have R3 := Lib.hid (o3.mono (Nat.le_refl _)); have B3 : Hid (Below w3.heap.size w3 w4) := (HB.out.drew.alloc HB.out.size _).grown g3 (by have := HB.out.size; simp; omega) (fun j hj => (World.ownsRow.lt HR.out j hj).1); clear o3 g3 a3))
          go_wp2
          go_roundw
          case rel => exact ⟨k + 1, by omega, by go_num, by rw [HXk.out]; exact rowP_app R3.out, B3.out⟩
          case measure => simp [intOf]; omega
        · obtain rfl : k = n := by omega
          obtain ⟨y1, _⟩ := KW.out wr HB.out
          have HY1 := Lib.hid y1
          have hge : w.heap.size ≤ w3.heap.size := by omega
          have HGe := Lib.hid hge
          clear y1
          go_wp2
          go_ret2
          exact ⟨_, rfl, HR.out.mono HGe.out, HY1.out⟩
    · have hk2 := HMk.out w2
      have HV2a : Hid (Below (w.heap.size + 1) w1 (w2.alloc (.cells (madeCells #[.int .i64 0] n) 3))) := HV2.out.alloc (by omega) _
      have HT2a := Lib.hid (HT2.out.below (w' := w2.alloc (.cells (madeCells #[.int .i64 0] n) 3)) ((Below.refl _ _).alloc (Nat.le_refl _) _))
      have HSe := Lib.hid HT2a.out.seen
      rw [HTl.out] at HSe
      obtain ⟨_, z2a, e0, e1, e2⟩ := KK.out _ HV2a.out
      have tpos : 0 < t := by omega
      go_wp2_with fail
      clear hk2 e0 e1 e2 d0 d1 d2
      generalize w2.alloc (.cells (madeCells #[.int .i64 0] n) 3) = wa at *
      refine (CM.out ht _ wa HSe.out).mono ?_
      rintro e w3 ⟨mv, rfl, hm3, hb3⟩
      obtain ⟨gm, cm, rfl, _, hgm⟩ := hm3.form (by rw [HMl.out]; exact n0)
      rw [HMl.out] at hm3 ⊢
      have HR3 := Lib.hid hm3
      have HT3 := Lib.hid (HT2a.out.below hb3)
      have HV3 : Hid (Below (w.heap.size + 1) w1 w3) := HV2a.out.trans (hb3.mono (by have := HV2a.out.size; omega))
      clear hm3 hb3
      obtain ⟨_, z3, e0, e1, e2⟩ := KK.out _ HV3.out
      go_wp2_with fail
      have KW : Hid (∀ u, Below w3.heap.size w3 u → Below w.heap.size w u ∧ u.cell? ⟨w.heap.size, 2, none⟩ = some (.int .i64 r) ∧ (∀ k, k < n → u.cell? ⟨gt, k, none⟩ = some (.int .i64 (T.getD k 0))) ∧ (∀ k, k < n → u.cell? ⟨gm, k, none⟩ = some (.int .i64 (M.getD k 0)))) := fun u hu => by
        obtain ⟨y1, y2, _, _, y3⟩ := KK.out u (HV3.out.trans (hu.mono (by omega)))
        have yt : Row u _ _ T := HT3.out.below hu
        have ym : Row u _ _ M := HR3.out.below hu
        exact ⟨y1, y3, fun k hk => yt.cell k (by rw [HTl.out]; exact hk), fun k hk => by rw [← HMl.out] at ym hk; exact ym.cell k hk⟩
      have HN0 : Hid (RowP w3 w3.heap.size (.slice none 0 0) 0 []) := RowP.nil _ _
      go_loopw [8, 46] (fun q i wr => ∃ k : Nat, k ≤ n ∧ i = .int .i64 k ∧ RowP wr w3.heap.size q k (XF k) ∧ Below w3.heap.size w3 wr) (fun _ i _ => n - (intOf i).toNat)
      case atStart => exact ⟨0, Nat.zero_le _, rfl, by rw [HX0.out]; exact HN0.out, Below.refl _ _⟩
      case round =>
        obtain ⟨k, hk, rfl, hr, hb⟩ := hrel
        have HR := Lib.hid hr
        have HB := Lib.hid hb
        clear hr hb
        by_cases hlt : k < n
        · obtain ⟨_, y3, yt, ym⟩ := KW.out wr HB.out
          have q0 := yt k hlt
          have q1 := ym k hlt
          clear yt ym
          have HXk := Lib.hid (HXs.out k)
          generalize T.getD k 0 = tk at *
          generalize hmk : M.getD k 0 = mk at *
          have b1 : (0 : Int) ≤ (k : Int) := by omega
          have b2 : (k : Int) < (n : Int) := by omega
          have KS : Hid (∀ u, Below w3.heap.size w3 u → u.cell? ⟨gm, k, none⟩ = some (.int .i64 mk) ∧ u.cell? ⟨w.heap.size, 2, none⟩ = some (.int .i64 r)) := fun u hu => by
            obtain ⟨_, x3, _, xm⟩ := KW.out u hu
            exact ⟨by rw [← hmk]; exact xm k hlt, x3⟩
          clear hmk
          have K20 : Hid (k < 20) := by show k < 20; omega
          go_wp2_with fail
          go_region_held3 (fun u => u.cell? ⟨gm, k, none⟩ = some (.int .i64 mk) ∧ u.cell? ⟨w.heap.size, 2, none⟩ = some (.int .i64 r)) (first | exact KS.out _ HB.out | exact KS.out _ HB.out.drew | exact KS.out _ B3.out | exact KS.out _ (HB.out.drew.alloc HB.out.size _) | exact KS.out _ (HB.out.alloc HB.out.size _))
            (first
              | (refine step_append_src rfl _ _ 27 rfl Try.underlying27 HI.out jz0 jz1 jz2 rfl (by decide) (by rfl) (World.ownsRow.alloc HR.out _) (by rfl) (src_three (x := tk) (y := mk) (z := r) (by simp) (by simp) (by simp)) ints_ones (by have := K20.out; unfold maxLen; omega) (by have := K20.out; omega) (by have := HB.out.size; simp; omega) ?_; intro v3 w4 o3 g3 a3; have R3 := Lib.hid (o3.mono (Nat.le_refl _)); have B3 : Hid (Below w3.heap.size w3 w4) := (HB.out.drew.alloc HB.out.size _).grown g3 (by have := HB.out.size; simp; omega) (fun j hj => (World.ownsRow.lt HR.out j hj).1); clear o3 g3 a3))
          go_wp2
          go_roundw
          case rel => exact ⟨k + 1, by omega, by go_num, by rw [HXk.out]; exact rowP_app R3.out, B3.out⟩
          case measure => simp [intOf]; omega
        · obtain rfl : k = n := by omega
          obtain ⟨y1, _⟩ := KW.out wr HB.out
          have HY1 := Lib.hid y1
          have hge : w.heap.size ≤ w3.heap.size := by omega
          have HGe := Lib.hid hge
          clear y1
          go_wp2
          go_ret2
          exact ⟨_, rfl, HR.out.mono HGe.out, HY1.out⟩
end Go.Proofs.Ythlclieifcbkjab
