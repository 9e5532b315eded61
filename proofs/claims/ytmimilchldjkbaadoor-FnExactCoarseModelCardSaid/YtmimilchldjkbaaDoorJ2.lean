/-
  Contracts: JoinPieces, in the program.
-/
import Derived.Test.YtmimilchldjkbaaDoorJ1
import Derived.Test.YtmimilchldjkbaaDoorOpen
import Derived.BigRegion
namespace Go.Proofs.YtmimilchldjkbaaDoor
open Go.RowKit
set_option linter.unusedVariables false
set_option linter.unusedSimpArgs false

theorem cell_at {w u : World} (hu : Below w.heap.size w u) {b o : Nat} {x : Value} (h : w.cell? ⟨b, o, none⟩ = some x) : u.cell? ⟨b, o, none⟩ = some x := by rw [hu.cell (p := ⟨b, o, none⟩) (lt_of_cell h)]; exact h
/-- Five numbers in a block of the call's own. -/
structure Arr5 (w : World) (b : Nat) (T : List Int) : Prop where
  len : T.length = 5
  lt : b < w.heap.size
  at_ : ∀ i, i < 5 → w.cell? ⟨b, i, none⟩ = some (.int .i64 (T.getD i 0))
  fz : ∀ i, w.frozen? ⟨b, i, none⟩ = false
theorem Arr5.below {w w' : World} {b : Nat} {T : List Int} (h : Arr5 w b T) (hb : Below w.heap.size w w') : Arr5 w' b T :=
  ⟨h.len, Nat.lt_of_lt_of_le h.lt hb.size, fun i hi => cell_at hb (h.at_ i hi), fun i => by rw [hb.frozen (p := ⟨b, i, none⟩) h.lt]; exact h.fz i⟩
theorem Arr5.set_ {w : World} {b : Nat} {T : List Int} (h : Arr5 w b T) {r : Nat} (hr : r < 5) (x : Int) : Arr5 (w.setCell ⟨b, r, none⟩ (.int .i64 x)) b (T.set r x) := by
  refine ⟨by rw [List.length_set]; exact h.len, by simpa using h.lt, fun i hi => ?_, fun i => by simpa using h.fz i⟩
  by_cases e : r = i
  · subst e
    rw [World.cell?_setCell_same _ _ _ (h.at_ r hr)]
    simp [List.getD_eq_getElem?_getD, h.len, hr]
  · rw [World.cell?_setCell_other _ _ _ _ (by intro h'; injection h' with _ h2 _; omega), h.at_ i hi]
    simp [List.getD_eq_getElem?_getD, List.getElem?_set, e]
theorem Arr5.far {w : World} {b : Nat} {T : List Int} (h : Arr5 w b T) {a : Addr} (ha : a.block ≠ b) (v : Value) : Arr5 (w.setCell a v) b T :=
  ⟨h.len, by simpa using h.lt, fun i hi => by rw [World.cell?_setCell_other _ _ _ _ (fun e => ha (by rw [e]))]; exact h.at_ i hi, fun i => by simpa using h.fz i⟩
theorem Arr5.draw {w : World} {b : Nat} {T : List Int} (h : Arr5 w b T) : Arr5 w.drew b T := ⟨h.len, h.lt, h.at_, h.fz⟩
/-- The table of rocks holds its own places. -/
def RK (w : World) : Prop := ∀ i : Nat, i < 5 → w.cell? ⟨2, i, none⟩ = some (.int .i64 (i : Int))
theorem RK.below {w w' : World} (h : RK w) (hb : Below w.heap.size w w') : RK w' := fun i hi => cell_at hb (h i hi)

/-- A list of pieces that has a first one, as cells. -/
theorem seen_cells3 {w : World} {n : Nat} {xs : List Int} {v : Value} (h : SeenP w v n xs) (h0 : 0 < n) : ∃ b off c, v = .slice (some ⟨b, off, none⟩) n c ∧ ∀ u, Below w.heap.size w u → ∀ j : Nat, j < n → u.cell? ⟨b, off + j * 3, none⟩ = some (.int .i64 (xs.getD (j * 3) 0)) ∧ u.cell? ⟨b, off + j * 3 + 1, none⟩ = some (.int .i64 (xs.getD (j * 3 + 1) 0)) ∧ u.cell? ⟨b, off + j * 3 + 2, none⟩ = some (.int .i64 (xs.getD (j * 3 + 2) 0)) := by
  obtain ⟨A, c, rfl, _, _, hA⟩ := h
  obtain ⟨b, off, rfl, hb, hc⟩ := hA h0
  refine ⟨b, off, c, rfl, fun u hu j hj => ⟨cell_at hu (hc _ (by omega)), cell_at hu (hc (j * 3 + 1) (by omega)), cell_at hu (hc (j * 3 + 2) (by omega))⟩⟩

set_option maxHeartbeats 400000 in
theorem c_join1 (t m r : Int) (w : World) : Calls Tryd.prog 115 #[.agg #[.int .i64 t, .int .i64 m, .int .i64 r]] w fun e w' => e = .returned (.int .i64 t) ∧ Below w.heap.size w w' := by
  go_enter Tryd.func115, Tryd.ntmps115
  go_wp2
  go_ret
  exact ⟨rfl, by go_grown⟩
set_option maxHeartbeats 400000 in
theorem c_join2 (t m r : Int) (w : World) : Calls Tryd.prog 116 #[.agg #[.int .i64 t, .int .i64 m, .int .i64 r]] w fun e w' => e = .returned (.int .i64 m) ∧ Below w.heap.size w w' := by
  go_enter Tryd.func116, Tryd.ntmps116
  go_wp2
  go_ret
  exact ⟨rfl, by go_grown⟩

set_option maxHeartbeats 2000000 in
set_option maxRecDepth 100000 in
theorem c_sumOver1 (n : Nat) (xs : List Int) (v : Value) (w : World) (h0 : 0 < n) (hl : n ≤ 20) (hp : PieTo xs n) (h : SeenP w v n xs) :
    Calls Tryd.prog 114 #[v, .func (.func 115) #[] #[]] w fun e w' => e = .returned (.int .i64 (suF xs 0 n)) ∧ Below w.heap.size w w' := by
  obtain ⟨b, off, c, rfl, hc⟩ := seen_cells3 h h0
  have HC := Lib.hid hc
  have HB : Hid (∀ k, k ≤ n → 0 ≤ suF xs 0 k ∧ suF xs 0 k ≤ 200000000) := fun k hk => by
    obtain ⟨a0, a1, a2, a3⟩ := suF_box k (hp.less hk)
    omega
  have HP : Hid (∀ k, k < n → 0 ≤ xs.getD (k * 3 + 0) 0 ∧ xs.getD (k * 3 + 0) 0 ≤ 10000000) := fun k hk => by
    obtain ⟨t0, t1, m0, m1, _⟩ := pie_true (hp k hk)
    try simp only [Nat.add_zero]
    omega
  have HS : Hid (∀ k, suF xs 0 (k + 1) = suF xs 0 k + xs.getD (k * 3 + 0) 0) := fun k => rfl
  have H0 : Hid (suF xs 0 0 = 0) := rfl
  clear hc h hp
  generalize suF xs 0 = F at *
  go_enter Tryd.func114, Tryd.ntmps114
  go_wp2_with fail
  go_loopw [5, 10] (fun q i wr => ∃ k : Nat, k ≤ n ∧ i = .int .i64 k ∧ q = .int .i64 (F k) ∧ Below w.heap.size w wr) (fun _ i _ => n - (intOf i).toNat)
  case atStart => exact ⟨0, Nat.zero_le _, rfl, by rw [H0.out], Below.refl _ _⟩
  case round =>
    obtain ⟨k, hk, rfl, rfl, hbw⟩ := hrel
    have HW := Lib.hid hbw
    have sw := hbw.size
    clear hbw
    obtain ⟨f0, f1⟩ := HB.out k hk
    by_cases hlt : k < n
    · obtain ⟨q0, q1, q2⟩ := HC.out wr HW.out k hlt
      obtain ⟨p0, p1⟩ := HP.out k hlt
      have X := Lib.hid (HS.out k)
      try simp only [Nat.add_zero] at p0 p1 X
      generalize xs.getD (k * 3) 0 = t at *
      generalize xs.getD (k * 3 + 1) 0 = m at *
      generalize xs.getD (k * 3 + 2) 0 = r at *
      have b1 : (0 : Int) ≤ (k : Int) := by omega
      have b2 : (k : Int) < (n : Int) := by omega
      have HWa : Hid (Below w.heap.size w (wr.alloc (.cells #[.int .i64 t, .int .i64 m, .int .i64 r] 105))) := HW.out.alloc sw _
      go_wp2_with fail
      refine (c_join1 t m r _).mono ?_
      rintro e w2 ⟨rfl, hb2⟩
      have HB2 : Hid (Below w.heap.size w w2) := HWa.out.trans (hb2.mono HWa.out.size)
      clear hb2
      go_wp2
      go_roundw
      case rel => exact ⟨k + 1, by omega, by go_num, by rw [X.out], HB2.out⟩
      case measure => simp [intOf]; omega
    · obtain rfl : k = n := by omega
      go_wp2
      go_ret
      exact ⟨rfl, HW.out⟩

set_option maxHeartbeats 2000000 in
set_option maxRecDepth 100000 in
theorem c_sumOver2 (n : Nat) (xs : List Int) (v : Value) (w : World) (h0 : 0 < n) (hl : n ≤ 20) (hp : PieTo xs n) (h : SeenP w v n xs) :
    Calls Tryd.prog 114 #[v, .func (.func 116) #[] #[]] w fun e w' => e = .returned (.int .i64 (suF xs 1 n)) ∧ Below w.heap.size w w' := by
  obtain ⟨b, off, c, rfl, hc⟩ := seen_cells3 h h0
  have HC := Lib.hid hc
  have HB : Hid (∀ k, k ≤ n → 0 ≤ suF xs 1 k ∧ suF xs 1 k ≤ 200000000) := fun k hk => by
    obtain ⟨a0, a1, a2, a3⟩ := suF_box k (hp.less hk)
    omega
  have HP : Hid (∀ k, k < n → 0 ≤ xs.getD (k * 3 + 1) 0 ∧ xs.getD (k * 3 + 1) 0 ≤ 10000000) := fun k hk => by
    obtain ⟨t0, t1, m0, m1, _⟩ := pie_true (hp k hk)
    try simp only [Nat.add_zero]
    omega
  have HS : Hid (∀ k, suF xs 1 (k + 1) = suF xs 1 k + xs.getD (k * 3 + 1) 0) := fun k => rfl
  have H0 : Hid (suF xs 1 0 = 0) := rfl
  clear hc h hp
  generalize suF xs 1 = F at *
  go_enter Tryd.func114, Tryd.ntmps114
  go_wp2_with fail
  go_loopw [5, 10] (fun q i wr => ∃ k : Nat, k ≤ n ∧ i = .int .i64 k ∧ q = .int .i64 (F k) ∧ Below w.heap.size w wr) (fun _ i _ => n - (intOf i).toNat)
  case atStart => exact ⟨0, Nat.zero_le _, rfl, by rw [H0.out], Below.refl _ _⟩
  case round =>
    obtain ⟨k, hk, rfl, rfl, hbw⟩ := hrel
    have HW := Lib.hid hbw
    have sw := hbw.size
    clear hbw
    obtain ⟨f0, f1⟩ := HB.out k hk
    by_cases hlt : k < n
    · obtain ⟨q0, q1, q2⟩ := HC.out wr HW.out k hlt
      obtain ⟨p0, p1⟩ := HP.out k hlt
      have X := Lib.hid (HS.out k)
      try simp only [Nat.add_zero] at p0 p1 X
      generalize xs.getD (k * 3) 0 = t at *
      generalize xs.getD (k * 3 + 1) 0 = m at *
      generalize xs.getD (k * 3 + 2) 0 = r at *
      have b1 : (0 : Int) ≤ (k : Int) := by omega
      have b2 : (k : Int) < (n : Int) := by omega
      have HWa : Hid (Below w.heap.size w (wr.alloc (.cells #[.int .i64 t, .int .i64 m, .int .i64 r] 105))) := HW.out.alloc sw _
      go_wp2_with fail
      refine (c_join2 t m r _).mono ?_
      rintro e w2 ⟨rfl, hb2⟩
      have HB2 : Hid (Below w.heap.size w w2) := HWa.out.trans (hb2.mono HWa.out.size)
      clear hb2
      go_wp2
      go_roundw
      case rel => exact ⟨k + 1, by omega, by go_num, by rw [X.out], HB2.out⟩
      case measure => simp [intOf]; omega
    · obtain rfl : k = n := by omega
      go_wp2
      go_ret
      exact ⟨rfl, HW.out⟩

set_option maxHeartbeats 4000000 in
set_option maxRecDepth 100000 in
theorem c_mainRock0 (n : Nat) (xs : List Int) (v : Value) (w : World) (o : Nat) (ho : bestR (rkT xs n) 5 = o) (h0 : 0 < n) (hl : n ≤ 20) (hp : PieTo xs n) (h : SeenP w v n xs) (hk : RK w) :
    Calls Tryd.prog 117 #[v] w fun e w' => e = .returned (.int .i64 (o : Int)) ∧ Below w.heap.size w w' := by
  obtain ⟨b, off, c, rfl, hc⟩ := seen_cells3 h h0
  have HC := Lib.hid hc
  have HK := Lib.hid hk
  have HP : Hid (∀ k, k < n → 0 ≤ xs.getD (k * 3) 0 ∧ xs.getD (k * 3) 0 ≤ 10000 ∧ ∃ r : Nat, r < 5 ∧ xs.getD (k * 3 + 2) 0 = (r : Int)) := fun k hk => by
    obtain ⟨t0, t1, _, _, r0, r1⟩ := pie_true (hp k hk)
    exact ⟨t0, t1, (xs.getD (k * 3 + 2) 0).toNat, by omega, by omega⟩
  have HT : Hid (∀ k, k ≤ n → ∀ r, 0 ≤ (rkT xs k).getD r 0 ∧ (rkT xs k).getD r 0 ≤ 200000) := fun k hk r => by
    have := rkT_box k (hp.less hk) r
    omega
  have HS : Hid (∀ k, rkT xs (k + 1) = (rkT xs k).set (xs.getD (k * 3 + 2) 0).toNat ((rkT xs k).getD (xs.getD (k * 3 + 2) 0).toNat 0 + xs.getD (k * 3) 0)) := fun k => rfl
  have H0 : Hid (rkT xs 0 = [0, 0, 0, 0, 0]) := rfl
  have HA0 : Hid (Arr5 (w.alloc (.cells #[.int .i64 0, .int .i64 0, .int .i64 0, .int .i64 0, .int .i64 0] 175)) w.heap.size (rkT xs 0)) := ⟨rfl, by simp, fun i hi => by
    rcases (show i = 0 ∨ i = 1 ∨ i = 2 ∨ i = 3 ∨ i = 4 by omega) with rfl | rfl | rfl | rfl | rfl <;> simp [rkT], fun i => by simp⟩
  have hix : ∀ (j : Nat) (W : World), j < 5 → (Instr.index 175 (.agg #[.int .i64 0, .int .i64 1, .int .i64 2, .int .i64 3, .int .i64 4]) (.int .i64 (j : Int))).run Tryd.prog W = .ok (.int .i64 (j : Int)) W := fun j W hj => by
    rcases (show j = 0 ∨ j = 1 ∨ j = 2 ∨ j = 3 ∨ j = 4 by omega) with rfl | rfl | rfl | rfl | rfl <;> kernel_rfl
  clear hc hk h hp
  go_enter Tryd.func117, Tryd.ntmps117
  go_wp2_with fail
  go_loopw [11] (fun i wr => ∃ k : Nat, k ≤ n ∧ i = .int .i64 k ∧ Arr5 wr w.heap.size (rkT xs k) ∧ Below w.heap.size w wr) (fun i _ => n - (intOf i).toNat)
  case atStart => exact ⟨0, Nat.zero_le _, rfl, HA0.out, (Below.refl _ _).alloc (Nat.le_refl _) _⟩
  case round =>
    obtain ⟨k, hk, rfl, ha, hbw⟩ := hrel
    have HA := Lib.hid ha
    have HW := Lib.hid hbw
    have sw := hbw.size
    have hlt5 := ha.lt
    clear ha hbw
    by_cases hlt : k < n
    · obtain ⟨q0, q1, q2⟩ := HC.out wr HW.out k hlt
      obtain ⟨t0, t1, r, r5, er⟩ := HP.out k hlt
      have X := Lib.hid (HS.out k)
      rw [er] at q2 X
      simp only [Int.toNat_natCast] at X
      obtain ⟨s0, s1⟩ := HT.out k hk r
      have qa := HA.out.at_ r r5
      have fa := HA.out.fz r
      generalize xs.getD (k * 3) 0 = t at *
      generalize xs.getD (k * 3 + 1) 0 = m at *
      generalize hs : (rkT xs k).getD r 0 = s at *
      have b1 : (0 : Int) ≤ (k : Int) := by omega
      have b2 : (k : Int) < (n : Int) := by omega
      have b3 : (0 : Int) ≤ (r : Int) := by omega
      have b4 : (r : Int) < 5 := by omega
      clear er hs
      go_wp2_with fail
      go_region
      have N1 : Hid (Arr5 (((wr.setCell ⟨w.heap.size, r, none⟩ (.int .i64 (s + t))).alloc (.cells #[.int .i64 t, .int .i64 m, .int .i64 (r : Int)] 105)).drew) w.heap.size (rkT xs (k + 1))) := by
        rw [X.out]; exact ((HA.out.set_ r5 (s + t)).below ((Below.refl _ _).alloc (Nat.le_refl _) _)).draw
      have N2 : Hid (Below w.heap.size w (((wr.setCell ⟨w.heap.size, r, none⟩ (.int .i64 (s + t))).alloc (.cells #[.int .i64 t, .int .i64 m, .int .i64 (r : Int)] 105)).drew)) := ((HW.out.setCell (Nat.le_refl _) _).alloc (by simpa using sw) _).drew
      go_wp2
      go_roundw
      case rel => exact ⟨k + 1, by omega, by go_num, N1.out, N2.out⟩
      case measure => simp [intOf]; omega
    · obtain rfl : k = n := by omega
      have hrk := HK.out.below HW.out
      have d0 : wr.cell? ⟨2, 0, none⟩ = some (.int .i64 0) := hrk 0 (by omega)
      have d1 : wr.cell? ⟨2, 1, none⟩ = some (.int .i64 1) := hrk 1 (by omega)
      have d2 : wr.cell? ⟨2, 2, none⟩ = some (.int .i64 2) := hrk 2 (by omega)
      have d3 : wr.cell? ⟨2, 3, none⟩ = some (.int .i64 3) := hrk 3 (by omega)
      have d4 : wr.cell? ⟨2, 4, none⟩ = some (.int .i64 4) := hrk 4 (by omega)
      have HTn := Lib.hid (HT.out k (Nat.le_refl _))
      clear hrk HC HP HS HT H0 HA0 HK
      generalize rkT xs k = T at *
      have HLT : Hid (∀ j, bestR T j ≤ j - 1) := bestR_lt T
      have HBS : Hid (∀ j, bestR T (j + 1) = if T.getD (bestR T j) 0 < T.getD j 0 then j else bestR T j) := fun j => rfl
      have HB0 : Hid (bestR T 0 = 0) := rfl
      generalize bestR T = BR at *
      go_wp2_with fail
      go_loopw [6, 27] (fun q i wz => ∃ j : Nat, j ≤ 5 ∧ i = .int .i64 j ∧ q = .int .i64 (BR j : Int) ∧ Arr5 wz w.heap.size T ∧ Below w.heap.size w wz) (fun _ i _ => 5 - (intOf i).toNat)
      case atStart => exact ⟨0, by omega, rfl, by rw [HB0.out]; rfl, HA.out, HW.out⟩
      case round =>
        obtain ⟨j, hj, rfl, rfl, ha2, hb2⟩ := hrel
        have HA2 := Lib.hid ha2
        have HW2 := Lib.hid hb2
        have sw2 := hb2.size
        have hlt52 := ha2.lt
        clear ha2 hb2
        have lj := HLT.out j
        by_cases hlt2 : j < 5
        · have r5 : BR j < 5 := by omega
          have qa := HA2.out.at_ j hlt2
          have qb := HA2.out.at_ (BR j) r5
          have X := Lib.hid (HBS.out j)
          have ea := fun W => hix j W hlt2
          generalize T.getD j 0 = x at *
          generalize T.getD (BR j) 0 = y at *
          generalize hz : BR j = z at *
          have b1 : (0 : Int) ≤ (j : Int) := by omega
          have b2 : (j : Int) < 5 := by omega
          have b3 : (0 : Int) ≤ (z : Int) := by omega
          have b4 : (z : Int) < 5 := by omega
          by_cases hxy : y < x
          · rw [if_pos hxy] at X
            go_wp2_with fail
            go_region
            go_wp2
            go_roundw
            case rel => exact ⟨j + 1, by omega, by go_num, by rw [X.out], HA2.out.draw, HW2.out.drew⟩
            case measure => simp [intOf]; omega
          · rw [if_neg hxy] at X
            go_wp2_with fail
            go_region
            go_wp2
            go_roundw
            case rel => exact ⟨j + 1, by omega, by go_num, by rw [X.out], HA2.out.draw, HW2.out.drew⟩
            case measure => simp [intOf]; omega
        · obtain rfl : j = 5 := by omega
          go_wp2
          go_ret
          exact ⟨by rw [← ho]; rfl, HW2.out⟩
theorem c_mainRock (n : Nat) (xs : List Int) (v : Value) (w : World) (h0 : 0 < n) (hl : n ≤ 20) (hp : PieTo xs n) (h : SeenP w v n xs) (hk : RK w) :
    Calls Tryd.prog 117 #[v] w fun e w' => e = .returned (.int .i64 (bestR (rkT xs n) 5 : Int)) ∧ Below w.heap.size w w' := c_mainRock0 n xs v w _ rfl h0 hl hp h hk
end Go.Proofs.YtmimilchldjkbaaDoor
