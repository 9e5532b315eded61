/-
  Contracts: the strip ratio, in the program and in the model of it.
-/
import Derived.Test.YtcmdnpablnihmaaM8
import Derived.Test.YtcmdnpablnihmaaW4
namespace Go.Proofs.Ytcmdnpablnihmaa
open Go.RowKit
set_option linter.unusedVariables false

/-- The tonnes of the block at place j of a list, if it is waste (not positive), or if it is ore. -/
def wasF (ts xs bs : List Int) (j : Nat) : Int := if 0 < valF xs bs j then 0 else tonF ts bs j
def oreF (ts xs bs : List Int) (j : Nat) : Int := if 0 < valF xs bs j then tonF ts bs j else 0
def stW (ts xs bs : List Int) : Int := sumN (wasF ts xs bs) bs.length
def stO (ts xs bs : List Int) : Int := sumN (oreF ts xs bs) bs.length
def stG (x y z : Int) (ts gs rs xs bs : List Int) : Bool := listB x y z ts gs rs bs && valB ts.length xs
def stB (x y z : Int) (ts gs rs xs bs : List Int) : Bool := stG x y z ts gs rs xs bs && decide (stO ts xs bs ≠ 0)
def stP (x y z : Int) (ts gs rs xs bs : List Int) : Int := if stB x y z ts gs rs xs bs then stW ts xs bs / (Int.gcd (stW ts xs bs) (stO ts xs bs) : Int) else 0
def stQ (x y z : Int) (ts gs rs xs bs : List Int) : Int := if stB x y z ts gs rs xs bs then stO ts xs bs / (Int.gcd (stW ts xs bs) (stO ts xs bs) : Int) else 0

theorem st_len {x y z : Int} {ts gs rs bs : List Int} (h : listB x y z ts gs rs bs = true) : (ts.length : Int) = x * y * z := by
  have hm := (list_true h).1
  unfold moB areB at hm
  simp only [Bool.and_eq_true, decide_eq_true_eq] at hm
  exact hm.2.1.1
theorem st_at {x y z : Int} {ts gs rs xs bs : List Int} (h : stG x y z ts gs rs xs bs = true) {j : Nat} (hj : j < bs.length) :
    ∃ k : Nat, bs.getD j 0 = (k : Int) ∧ k < ts.length ∧ k < xs.length ∧ valF xs bs j = xs.getD k 0 ∧ tonF ts bs j = ts.getD k 0 ∧ 0 ≤ tonF ts bs j ∧ tonF ts bs j ≤ 10000000 := by
  unfold stG at h
  simp only [Bool.and_eq_true] at h
  obtain ⟨h1, h2⟩ := h
  obtain ⟨k, e, hk⟩ := list_at h1 hj
  have hl := st_len h1
  have hx := (val_yes h2).1
  obtain ⟨a, b⟩ := ton_box h1 hj
  exact ⟨k, e, by omega, by omega, by unfold valF; rw [e]; rfl, ton_at e, a, b⟩
theorem was_box {x y z : Int} {ts gs rs xs bs : List Int} (h : stG x y z ts gs rs xs bs = true) : ∀ j : Nat, j < bs.length → 0 ≤ wasF ts xs bs j ∧ wasF ts xs bs j ≤ 10000000 := fun j hj => by
  obtain ⟨_, _, _, _, _, _, a, b⟩ := st_at h hj
  unfold wasF; split <;> omega
theorem ore_box {x y z : Int} {ts gs rs xs bs : List Int} (h : stG x y z ts gs rs xs bs = true) : ∀ j : Nat, j < bs.length → 0 ≤ oreF ts xs bs j ∧ oreF ts xs bs j ≤ 10000000 := fun j hj => by
  obtain ⟨_, _, _, _, _, _, a, b⟩ := st_at h hj
  unfold oreF; split <;> omega

/-- What the loops over a list of blocks want to know. -/
structure StF (w : World) (u1 v1 : Value) (A : Option Addr) (n1 nx nb : Nat) (val ton : Nat → Int) (b : Nat → Int) : Prop where
  blk : ∀ j : Nat, j < nb → ∃ bb off, A = some ⟨bb, off, none⟩ ∧ bb < w.heap.size ∧ w.cell? ⟨bb, off + j, none⟩ = some (.int .i64 (b j))
  at_ : ∀ j : Nat, j < nb → ∃ k b1 o1 b2 o2, b j = ((k : Nat) : Int) ∧ k < n1 ∧ k < nx ∧ (∃ c, v1 = .slice (some ⟨b1, o1, none⟩) n1 c) ∧ b1 < w.heap.size ∧ w.cell? ⟨b1, o1 + k, none⟩ = some (.int .i64 (ton j)) ∧ (∃ c, u1 = .slice (some ⟨b2, o2, none⟩) nx c) ∧ b2 < w.heap.size ∧ w.cell? ⟨b2, o2 + k, none⟩ = some (.int .i64 (val j))
theorem StF.new {x y z : Int} {ts gs rs xs bs : List Int} {w : World} {u1 v1 : Value} {A : Option Addr} {c : Nat} (h : stG x y z ts gs rs xs bs = true) (h1 : Seen w v1 ts) (h2 : Seen w u1 xs) (h3 : Seen w (.slice A bs.length c) bs) : StF w u1 v1 A ts.length xs.length bs.length (valF xs bs) (tonF ts bs) (fun j => bs.getD j 0) := by
  obtain ⟨A', c', e, _, hA⟩ := h3
  simp only [Value.slice.injEq] at e
  obtain ⟨rfl, _, _⟩ := e
  refine ⟨fun j hj => ?_, fun j hj => ?_⟩
  · obtain ⟨b, off, rfl, hb, hc⟩ := hA (by omega)
    exact ⟨b, off, rfl, hb, hc j hj⟩
  · obtain ⟨k, e, k1, k2, ev, et, _, _⟩ := st_at h hj
    obtain ⟨b1, o1, d1, e1, hb1, hc1⟩ := h1.at_ k1
    obtain ⟨b2, o2, d2, e2, hb2, hc2⟩ := h2.at_ k2
    exact ⟨k, b1, o1, b2, o2, e, k1, k2, ⟨_, e1⟩, hb1, by rw [et]; exact hc1, ⟨_, e2⟩, hb2, by rw [ev]; exact hc2⟩
theorem StF.below {w w' : World} {u1 v1 : Value} {A : Option Addr} {n1 nx nb : Nat} {val ton : Nat → Int} {b : Nat → Int} (h : StF w u1 v1 A n1 nx nb val ton b) (hb : Below w.heap.size w w') : StF w' u1 v1 A n1 nx nb val ton b := by
  refine ⟨fun j hj => ?_, fun j hj => ?_⟩
  · obtain ⟨bb, off, e, hl, hc⟩ := h.blk j hj
    exact ⟨bb, off, e, Nat.lt_of_lt_of_le hl hb.size, by rw [hb.cell (p := ⟨bb, off + j, none⟩) hl]; exact hc⟩
  · obtain ⟨k, b1, o1, b2, o2, e, k1, k2, e1, hb1, hc1, e2, hb2, hc2⟩ := h.at_ j hj
    exact ⟨k, b1, o1, b2, o2, e, k1, k2, e1, Nat.lt_of_lt_of_le hb1 hb.size, by rw [hb.cell (p := ⟨b1, o1 + k, none⟩) hb1]; exact hc1, e2, Nat.lt_of_lt_of_le hb2 hb.size, by rw [hb.cell (p := ⟨b2, o2 + k, none⟩) hb2]; exact hc2⟩

theorem was_pos {ts xs bs : List Int} {j : Nat} (h : 0 < valF xs bs j) : wasF ts xs bs j = 0 := if_pos h
theorem was_neg {ts xs bs : List Int} {j : Nat} (h : ¬ 0 < valF xs bs j) : wasF ts xs bs j = tonF ts bs j := if_neg h
theorem ore_pos {ts xs bs : List Int} {j : Nat} (h : 0 < valF xs bs j) : oreF ts xs bs j = tonF ts bs j := if_pos h
theorem ore_neg {ts xs bs : List Int} {j : Nat} (h : ¬ 0 < valF xs bs j) : oreF ts xs bs j = 0 := if_neg h
theorem st_no {x y z : Int} {ts gs rs xs bs : List Int} (h : stG x y z ts gs rs xs bs = false) : stB x y z ts gs rs xs bs = false ∧ stP x y z ts gs rs xs bs = 0 ∧ stQ x y z ts gs rs xs bs = 0 := by
  have e : stB x y z ts gs rs xs bs = false := by unfold stB; rw [h]; rfl
  exact ⟨e, by unfold stP; rw [e]; rfl, by unfold stQ; rw [e]; rfl⟩
theorem st_zero {x y z : Int} {ts gs rs xs bs : List Int} (h : stO ts xs bs = 0) : stB x y z ts gs rs xs bs = false ∧ stP x y z ts gs rs xs bs = 0 ∧ stQ x y z ts gs rs xs bs = 0 := by
  have e : stB x y z ts gs rs xs bs = false := by unfold stB; rw [h]; simp
  exact ⟨e, by unfold stP; rw [e]; rfl, by unfold stQ; rw [e]; rfl⟩
theorem st_yes {x y z : Int} {ts gs rs xs bs : List Int} (h : stG x y z ts gs rs xs bs = true) (h0 : stO ts xs bs ≠ 0) : stB x y z ts gs rs xs bs = true ∧ stP x y z ts gs rs xs bs = stW ts xs bs / (Int.gcd (stW ts xs bs) (stO ts xs bs) : Int) ∧ stQ x y z ts gs rs xs bs = stO ts xs bs / (Int.gcd (stW ts xs bs) (stO ts xs bs) : Int) := by
  have e : stB x y z ts gs rs xs bs = true := by unfold stB; rw [h]; simpa using h0
  exact ⟨e, by unfold stP; rw [e]; rfl, by unfold stQ; rw [e]; rfl⟩
theorem st_sum {x y z : Int} {ts gs rs xs bs : List Int} (h : stG x y z ts gs rs xs bs = true) : 0 ≤ stW ts xs bs ∧ stW ts xs bs ≤ 4000000000 ∧ 0 ≤ stO ts xs bs ∧ stO ts xs bs ≤ 4000000000 ∧ bs.length ≤ 120 := by
  have hl : bs.length ≤ 120 := by
    unfold stG at h
    simp only [Bool.and_eq_true] at h
    exact list_len h.1
  have a := sumN_box (was_box h) (by omega) bs.length (Nat.le_refl _)
  have b := sumN_box (ore_box h) (by omega) bs.length (Nat.le_refl _)
  unfold stW stO
  omega

set_option maxHeartbeats 2000000 in
theorem c_StripRatio (x y z : Int) (v1 v2 v3 : Value) (ts gs rs : List Int) (u1 : Value) (xs : List Int) (u2 : Value) (bs : List Int) (w : World) (l1 : ts.length ≤ 4000000) (l2 : gs.length ≤ 4000000) (l3 : rs.length ≤ 4000000) (l4 : xs.length ≤ 4000000) (l5 : bs.length ≤ 4000000) (h : Look w v1 v2 v3 ts gs rs) (hx : Seen w u1 xs) (hs : Seen w u2 bs) :
    Calls Try.prog 46 #[.agg #[.int .i64 x, .int .i64 y, .int .i64 z, v1, v2, v3], u1, u2] w fun e w' => e = .returned (.tuple #[.int .i64 (stP x y z ts gs rs xs bs), .int .i64 (stQ x y z ts gs rs xs bs), .bool (stB x y z ts gs rs xs bs)]) ∧ Below w.heap.size w w' := by
  have H := Lib.hid h
  obtain ⟨A1, c1, rfl⟩ := h.t.shape
  obtain ⟨A2, c2, rfl⟩ := h.g.shape
  obtain ⟨A3, c3, rfl⟩ := h.r.shape
  have HT := Lib.hid h.t
  clear h
  have HX := Lib.hid hx
  obtain ⟨AX, cX, rfl⟩ := hx.shape
  clear hx
  have HS := Lib.hid hs
  obtain ⟨AV, cV, rfl⟩ := hs.shape
  clear hs
  have HX0 : Hid (Box6 (w.alloc (.cells #[.int .i64 x, .int .i64 y, .int .i64 z, .slice A1 ts.length c1, .slice A2 gs.length c2, .slice A3 rs.length c3] 43)) w.heap.size x y z (.slice A1 ts.length c1) (.slice A2 gs.length c2) (.slice A3 rs.length c3)) := Box6.new _ _ _ _ _ _ _ _
  have HB0 : Hid (Below w.heap.size w (w.alloc (.cells #[.int .i64 x, .int .i64 y, .int .i64 z, .slice A1 ts.length c1, .slice A2 gs.length c2, .slice A3 rs.length c3] 43))) := (Below.refl _ _).alloc (Nat.le_refl _) _
  have HV : Hid (∀ u, Below w.heap.size w u → Calls Try.prog 16 #[.slice AX xs.length cX, .int .i64 (ts.length : Int)] u fun e w' => e = .returned (.bool (valB ts.length xs)) ∧ u = w') := fun u hu => c_AreValues xs _ _ u l4 (HX.out.below hu)
  have HI : Hid (Calls Try.prog 65 #[.agg #[.int .i64 x, .int .i64 y, .int .i64 z, .slice A1 ts.length c1, .slice A2 gs.length c2, .slice A3 rs.length c3]] (w.alloc (.cells #[.int .i64 x, .int .i64 y, .int .i64 z, .slice A1 ts.length c1, .slice A2 gs.length c2, .slice A3 rs.length c3] 43)) fun e w' => e = .returned (.bool (moB x y z ts gs rs)) ∧ Below (w.alloc (.cells #[.int .i64 x, .int .i64 y, .int .i64 z, .slice A1 ts.length c1, .slice A2 gs.length c2, .slice A3 rs.length c3] 43)).heap.size (w.alloc (.cells #[.int .i64 x, .int .i64 y, .int .i64 z, .slice A1 ts.length c1, .slice A2 gs.length c2, .slice A3 rs.length c3] 43)) w') := c_IsModel x y z _ _ _ ts gs rs _ l1 l2 l3 (H.out.below HB0.out)
  cases hm : moB x y z ts gs rs
  · obtain ⟨e1, e2, e3⟩ := st_no (xs := xs) (bs := bs) (show stG x y z ts gs rs xs bs = false by unfold stG listB; rw [hm]; rfl)
    rw [e1, e2, e3]
    rw [hm] at HI
    clear hm e1 e2 e3
    go_enter Try.func46, Try.ntmps46
    go_wp2_with fail
    refine (HI.out).mono ?_
    rintro e w1 ⟨rfl, hb1⟩
    have HX1 := Lib.hid (HX0.out.below hb1)
    have HB1 : Hid (Below w.heap.size w w1) := HB0.out.trans (hb1.mono HB0.out.size)
    clear hb1
    have d1_0 := HX1.out.c0
    have d1_1 := HX1.out.c1
    have d1_2 := HX1.out.c2
    have d1_3 := HX1.out.c3
    have d1_4 := HX1.out.c4
    have d1_5 := HX1.out.c5
    go_wp2
    refine bodyPost_ret (three_results rfl _ _ _) rfl ?_
    exact ⟨rfl, HB1.out⟩
  · have HG := Lib.hid (mo_true hm).1
    rw [hm] at HI
    have HL : Hid (∀ u, Below w.heap.size w u → Calls Try.prog 87 #[.agg #[.int .i64 x, .int .i64 y, .int .i64 z], .slice AV bs.length cV] u fun e w' => e = .returned (.bool (risB (x * y * z) bs)) ∧ Below u.heap.size u w') := fun u hu => c_isBlockList x y z bs _ _ HG.out l5 (HS.out.below hu)
    cases hv : valB ts.length xs
    · obtain ⟨e1, e2, e3⟩ := st_no (x := x) (y := y) (z := z) (gs := gs) (rs := rs) (bs := bs) (show stG x y z ts gs rs xs bs = false by unfold stG; rw [hv, Bool.and_false])
      rw [e1, e2, e3]
      rw [hv] at HV
      clear hm hv e1 e2 e3
      go_enter Try.func46, Try.ntmps46
      go_wp2_with fail
      refine (HI.out).mono ?_
      rintro e w1 ⟨rfl, hb1⟩
      have HX1 := Lib.hid (HX0.out.below hb1)
      have HB1 : Hid (Below w.heap.size w w1) := HB0.out.trans (hb1.mono HB0.out.size)
      clear hb1
      have d1_0 := HX1.out.c0
      have d1_1 := HX1.out.c1
      have d1_2 := HX1.out.c2
      have d1_3 := HX1.out.c3
      have d1_4 := HX1.out.c4
      have d1_5 := HX1.out.c5
      go_wp2_with fail
      refine (HV.out _ HB1.out).mono ?_
      rintro e w1' ⟨rfl, rfl⟩
      go_wp2
      refine bodyPost_ret (three_results rfl _ _ _) rfl ?_
      exact ⟨rfl, HB1.out⟩
    · rw [hv] at HV
      cases hr : risB (x * y * z) bs
      · obtain ⟨e1, e2, e3⟩ := st_no (ts := ts) (gs := gs) (rs := rs) (xs := xs) (show stG x y z ts gs rs xs bs = false by unfold stG listB; rw [hr, Bool.and_false, Bool.false_and])
        rw [e1, e2, e3]
        rw [hr] at HL
        clear hm hv hr e1 e2 e3
        go_enter Try.func46, Try.ntmps46
        go_wp2_with fail
        refine (HI.out).mono ?_
        rintro e w1 ⟨rfl, hb1⟩
        have HX1 := Lib.hid (HX0.out.below hb1)
        have HB1 : Hid (Below w.heap.size w w1) := HB0.out.trans (hb1.mono HB0.out.size)
        clear hb1
        have d1_0 := HX1.out.c0
        have d1_1 := HX1.out.c1
        have d1_2 := HX1.out.c2
        have d1_3 := HX1.out.c3
        have d1_4 := HX1.out.c4
        have d1_5 := HX1.out.c5
        go_wp2_with fail
        refine (HV.out _ HB1.out).mono ?_
        rintro e w1' ⟨rfl, rfl⟩
        go_wp2_with fail
        refine (HL.out _ HB1.out).mono ?_
        rintro e w2 ⟨rfl, hb2⟩
        have HX2 := Lib.hid (HX1.out.below hb2)
        have HB2 : Hid (Below w.heap.size w w2) := HB1.out.trans (hb2.mono HB1.out.size)
        clear hb2
        have d2_0 := HX2.out.c0
        have d2_1 := HX2.out.c1
        have d2_2 := HX2.out.c2
        have d2_3 := HX2.out.c3
        have d2_4 := HX2.out.c4
        have d2_5 := HX2.out.c5
        go_wp2
        refine bodyPost_ret (three_results rfl _ _ _) rfl ?_
        exact ⟨rfl, HB2.out⟩
      · have hG : stG x y z ts gs rs xs bs = true := by unfold stG listB; rw [hm, hr, hv]; rfl
        rw [hr] at HL
        obtain ⟨sb1, sb2, sb3, sb4, sb5⟩ := st_sum hG
        have HF := Lib.hid (StF.new (u1 := .slice AX xs.length cX) hG HT.out HX.out HS.out)
        have W1 : Hid (∀ k : Nat, k < bs.length → 0 < valF xs bs k → sumN (wasF ts xs bs) k = sumN (wasF ts xs bs) (k + 1)) := fun k _ h => by rw [sumN_succ, was_pos h, Int.add_zero]
        have W2 : Hid (∀ k : Nat, k < bs.length → 0 < valF xs bs k → sumN (oreF ts xs bs) k + tonF ts bs k = sumN (oreF ts xs bs) (k + 1)) := fun k _ h => by rw [sumN_succ, ore_pos h]
        have W3 : Hid (∀ k : Nat, k < bs.length → valF xs bs k ≤ 0 → sumN (oreF ts xs bs) k = sumN (oreF ts xs bs) (k + 1)) := fun k _ h => by rw [sumN_succ, ore_neg (by omega), Int.add_zero]
        have W4 : Hid (∀ k : Nat, k < bs.length → valF xs bs k ≤ 0 → sumN (wasF ts xs bs) k + tonF ts bs k = sumN (wasF ts xs bs) (k + 1)) := fun k _ h => by rw [sumN_succ, was_neg (by omega)]
        have W5 : Hid (∀ k : Nat, k ≤ bs.length → 0 ≤ sumN (wasF ts xs bs) k ∧ sumN (wasF ts xs bs) k ≤ 10000000 * k) := sumN_box (was_box hG) (by omega)
        have W6 : Hid (∀ k : Nat, k ≤ bs.length → 0 ≤ sumN (oreF ts xs bs) k ∧ sumN (oreF ts xs bs) k ≤ 10000000 * k) := sumN_box (ore_box hG) (by omega)
        have W7 : Hid (∀ k : Nat, k < bs.length → 0 ≤ tonF ts bs k ∧ tonF ts bs k ≤ 10000000) := fun k hk => by
          obtain ⟨_, _, _, _, _, _, a, b⟩ := st_at hG hk
          exact ⟨a, b⟩
        have W8 : Hid (sumN (wasF ts xs bs) 0 = 0 ∧ sumN (oreF ts xs bs) 0 = 0) := ⟨rfl, rfl⟩
        have hO : stO ts xs bs = 0 ∨ stO ts xs bs ≠ 0 := Decidable.em _
        have N0 : stO ts xs bs = 0 → stB x y z ts gs rs xs bs = false ∧ stP x y z ts gs rs xs bs = 0 ∧ stQ x y z ts gs rs xs bs = 0 := st_zero
        have N1 : stO ts xs bs ≠ 0 → _ := st_yes (x := x) (y := y) (z := z) (gs := gs) (rs := rs) hG
        unfold stO at N0 N1 hO sb3 sb4
        unfold stW at N1 sb1 sb2
        generalize stB x y z ts gs rs xs bs = RB at *
        generalize stP x y z ts gs rs xs bs = RP at *
        generalize stQ x y z ts gs rs xs bs = RQ at *
        generalize sumN (wasF ts xs bs) = SW at *
        generalize sumN (oreF ts xs bs) = SO at *
        generalize valF xs bs = val at *
        generalize tonF ts bs = ton at *
        generalize (fun j => bs.getD j 0) = blk at *
        clear hm hv hr hG
        generalize xs.length = nx at *
        generalize bs.length = nb at *
        generalize hn1 : ts.length = n1 at *
        clear hn1
        go_enter Try.func46, Try.ntmps46
        go_wp2_with fail
        refine (HI.out).mono ?_
        rintro e w1 ⟨rfl, hb1⟩
        have HX1 := Lib.hid (HX0.out.below hb1)
        have HB1 : Hid (Below w.heap.size w w1) := HB0.out.trans (hb1.mono HB0.out.size)
        clear hb1
        have d1_0 := HX1.out.c0
        have d1_1 := HX1.out.c1
        have d1_2 := HX1.out.c2
        have d1_3 := HX1.out.c3
        have d1_4 := HX1.out.c4
        have d1_5 := HX1.out.c5
        go_wp2_with fail
        refine (HV.out _ HB1.out).mono ?_
        rintro e w1' ⟨rfl, rfl⟩
        go_wp2_with fail
        refine (HL.out _ HB1.out).mono ?_
        rintro e w2 ⟨rfl, hb2⟩
        have HX2 := Lib.hid (HX1.out.below hb2)
        have HB2 : Hid (Below w.heap.size w w2) := HB1.out.trans (hb2.mono HB1.out.size)
        clear hb2
        have d2_0 := HX2.out.c0
        have d2_1 := HX2.out.c1
        have d2_2 := HX2.out.c2
        have d2_3 := HX2.out.c3
        have d2_4 := HX2.out.c4
        have d2_5 := HX2.out.c5
        have HF2 := Lib.hid (HF.out.below HB2.out)
        go_wp2_with fail
        go_loopw [9, 10, 34] (fun a b i wr => ∃ k : Nat, k ≤ nb ∧ i = .int .i64 k ∧ a = .int .i64 (SW k) ∧ b = .int .i64 (SO k) ∧ w2 = wr) (fun _ _ i _ => nb - (intOf i).toNat)
        case atStart => exact ⟨0, Nat.zero_le _, rfl, by rw [W8.out.1], by rw [W8.out.2], rfl⟩
        case round =>
          obtain ⟨k, hk, rfl, rfl, rfl, rfl⟩ := hrel
          by_cases hlt : k < nb
          · obtain ⟨bb, off, rfl, _, q1⟩ := HF2.out.blk k hlt
            obtain ⟨i, b1, o1, b2, o2, e1, k1, k2, ⟨d1, e2⟩, _, q2, ⟨d2, e3⟩, _, q3⟩ := HF2.out.at_ k hlt
            simp only [Value.slice.injEq] at e2 e3
            obtain ⟨rfl, -, rfl⟩ := e2
            obtain ⟨rfl, -, rfl⟩ := e3
            rw [e1] at q1
            clear e1
            obtain ⟨s0, s1⟩ := W5.out k hk
            obtain ⟨t0, t1⟩ := W6.out k hk
            obtain ⟨r0, r1⟩ := W7.out k hlt
            have f1 : Hid (0 < val k → SW k = SW (k + 1)) := W1.out k hlt
            have f2 : Hid (0 < val k → SO k + ton k = SO (k + 1)) := W2.out k hlt
            have f3 : Hid (val k ≤ 0 → SO k = SO (k + 1)) := W3.out k hlt
            have f4 : Hid (val k ≤ 0 → SW k + ton k = SW (k + 1)) := W4.out k hlt
            generalize val k = t at *
            generalize ton k = tn at *
            generalize SW k = sw at *
            generalize SO k = so at *
            have a1 : (0 : Int) ≤ (k : Int) := by omega
            have a2 : (k : Int) < (nb : Int) := by omega
            have a3 : sw ≤ 4000000000 := by omega
            have a4 : so ≤ 4000000000 := by omega
            have a5 : (0 : Int) ≤ (i : Int) := by omega
            have a6 : (i : Int) < (n1 : Int) := by omega
            have a7 : (i : Int) < (nx : Int) := by omega
            clear s1 t1
            go_wp2_with fail
            refine (c_isOre _ _).mono ?_
            rintro e w4 ⟨rfl, rfl⟩
            by_cases ht : 0 < t
            · rw [decide_eq_true ht]
              have g1 := Lib.hid (f1.out ht)
              have g2 := Lib.hid (f2.out ht)
              clear f1 f2 f3 f4
              go_wp2
              go_roundw
              case rel => exact ⟨k + 1, by omega, by go_num, by rw [g1.out], by rw [← g2.out], trivial⟩
              case measure => simp [intOf]; omega
            · rw [decide_eq_false ht]
              have g1 := Lib.hid (f3.out (by omega))
              have g2 := Lib.hid (f4.out (by omega))
              clear f1 f2 f3 f4
              go_wp2
              go_roundw
              case rel => exact ⟨k + 1, by omega, by go_num, by rw [← g2.out], by rw [g1.out], trivial⟩
              case measure => simp [intOf]; omega
          · obtain rfl : k = nb := by omega
            clear W1 W2 W3 W4 W5 W6 W7 W8 HF2
            generalize SW k = sw at *
            generalize SO k = so at *
            rcases hO with h0 | h0
            · obtain ⟨rfl, rfl, rfl⟩ := N0 h0
              subst h0
              clear N1
              go_wp2
              refine bodyPost_ret (three_results rfl _ _ _) rfl ?_
              exact ⟨rfl, HB2.out⟩
            · obtain ⟨eb, ep, eq⟩ := N1 h0
              clear N0
              obtain ⟨a, rfl⟩ := Int.eq_ofNat_of_zero_le sb1
              obtain ⟨b, rfl⟩ := Int.eq_ofNat_of_zero_le sb3
              simp only [Int.gcd_natCast_natCast] at ep eq
              have hbp : 0 < b := by omega
              have hg : 0 < Nat.gcd a b := Nat.gcd_pos_of_pos_right _ hbp
              have hlg : Nat.gcd a b ≤ b := Nat.gcd_le_right _ hbp
              have HGC := Lib.hid (c_commonDivisor a b)
              generalize Nat.gcd a b = G at *
              have g1 : (G : Int) ≠ 0 := by omega
              obtain ⟨e1, e2⟩ := div_box (i := (a : Int)) (x := (G : Int)) (by omega) (by omega)
              obtain ⟨e3, e4⟩ := div_box (i := (b : Int)) (x := (G : Int)) (by omega) (by omega)
              go_wp2_with fail
              refine (HGC.out _ (by omega) (by omega)).mono ?_
              rintro e w5 ⟨rfl, hb5⟩
              have HB5 : Hid (Below w.heap.size w w5) := HB2.out.trans (hb5.mono HB2.out.size)
              clear hb5
              go_wp2
              go_quiet (fail)
              go_wp2
              refine bodyPost_ret (three_results rfl _ _ _) rfl ?_
              exact ⟨by rw [eb, ep, eq]; rfl, below_draws HB5.out _⟩

set_option maxHeartbeats 2000000 in
theorem c_StripRatioS (x y z : Int) (v1 v2 v3 : Value) (ts gs rs : List Int) (u1 : Value) (xs : List Int) (u2 : Value) (bs : List Int) (w : World) (l1 : ts.length ≤ 4000000) (l2 : gs.length ≤ 4000000) (l3 : rs.length ≤ 4000000) (l4 : xs.length ≤ 4000000) (l5 : bs.length ≤ 4000000) (h : Look w v1 v2 v3 ts gs rs) (hx : Seen w u1 xs) (hs : Seen w u2 bs) :
    Calls Try.prog 45 #[.agg #[.int .i64 x, .int .i64 y, .int .i64 z, v1, v2, v3], u1, u2] w fun e w' => e = .returned (.tuple #[.int .i64 (stP x y z ts gs rs xs bs), .int .i64 (stQ x y z ts gs rs xs bs), .bool (stB x y z ts gs rs xs bs)]) ∧ Below w.heap.size w w' := by
  have H := Lib.hid h
  obtain ⟨A1, c1, rfl⟩ := h.t.shape
  obtain ⟨A2, c2, rfl⟩ := h.g.shape
  obtain ⟨A3, c3, rfl⟩ := h.r.shape
  have HT := Lib.hid h.t
  clear h
  have HX := Lib.hid hx
  obtain ⟨AX, cX, rfl⟩ := hx.shape
  clear hx
  have HS := Lib.hid hs
  obtain ⟨AV, cV, rfl⟩ := hs.shape
  clear hs
  have HX0 : Hid (Box6 (w.alloc (.cells #[.int .i64 x, .int .i64 y, .int .i64 z, .slice A1 ts.length c1, .slice A2 gs.length c2, .slice A3 rs.length c3] 43)) w.heap.size x y z (.slice A1 ts.length c1) (.slice A2 gs.length c2) (.slice A3 rs.length c3)) := Box6.new _ _ _ _ _ _ _ _
  have HB0 : Hid (Below w.heap.size w (w.alloc (.cells #[.int .i64 x, .int .i64 y, .int .i64 z, .slice A1 ts.length c1, .slice A2 gs.length c2, .slice A3 rs.length c3] 43))) := (Below.refl _ _).alloc (Nat.le_refl _) _
  have HI : Hid (Calls Try.prog 85 #[.agg #[.int .i64 x, .int .i64 y, .int .i64 z, .slice A1 ts.length c1, .slice A2 gs.length c2, .slice A3 rs.length c3], .slice AV bs.length cV] (w.alloc (.cells #[.int .i64 x, .int .i64 y, .int .i64 z, .slice A1 ts.length c1, .slice A2 gs.length c2, .slice A3 rs.length c3] 43)) fun e w' => e = .returned (.bool (listB x y z ts gs rs bs)) ∧ Below (w.alloc (.cells #[.int .i64 x, .int .i64 y, .int .i64 z, .slice A1 ts.length c1, .slice A2 gs.length c2, .slice A3 rs.length c3] 43)).heap.size (w.alloc (.cells #[.int .i64 x, .int .i64 y, .int .i64 z, .slice A1 ts.length c1, .slice A2 gs.length c2, .slice A3 rs.length c3] 43)) w') := c_moList x y z _ _ _ ts gs rs _ bs _ l1 l2 l3 l5 (H.out.below HB0.out) (HS.out.below HB0.out)
  have HV : Hid (∀ u, Below w.heap.size w u → Calls Try.prog 53 #[.slice AX xs.length cX, .int .i64 (ts.length : Int)] u fun e w' => e = .returned (.bool (valB ts.length xs)) ∧ u = w') := fun u hu => c_vaGood xs _ _ u l4 (HX.out.below hu)
  cases hm : listB x y z ts gs rs bs
  · obtain ⟨e1, e2, e3⟩ := st_no (xs := xs) (show stG x y z ts gs rs xs bs = false by unfold stG; rw [hm]; rfl)
    rw [e1, e2, e3]
    rw [hm] at HI
    clear hm e1 e2 e3
    go_enter Try.func45, Try.ntmps45
    go_wp2_with fail
    refine (HI.out).mono ?_
    rintro e w1 ⟨rfl, hb1⟩
    have HX1 := Lib.hid (HX0.out.below hb1)
    have HB1 : Hid (Below w.heap.size w w1) := HB0.out.trans (hb1.mono HB0.out.size)
    clear hb1
    have d1_0 := HX1.out.c0
    have d1_1 := HX1.out.c1
    have d1_2 := HX1.out.c2
    have d1_3 := HX1.out.c3
    have d1_4 := HX1.out.c4
    have d1_5 := HX1.out.c5
    go_wp2
    refine bodyPost_ret (three_results rfl _ _ _) rfl ?_
    exact ⟨rfl, HB1.out⟩
  · rw [hm] at HI
    cases hv : valB ts.length xs
    · obtain ⟨e1, e2, e3⟩ := st_no (x := x) (y := y) (z := z) (gs := gs) (rs := rs) (bs := bs) (show stG x y z ts gs rs xs bs = false by unfold stG; rw [hv, Bool.and_false])
      rw [e1, e2, e3]
      rw [hv] at HV
      clear hm hv e1 e2 e3
      go_enter Try.func45, Try.ntmps45
      go_wp2_with fail
      refine (HI.out).mono ?_
      rintro e w1 ⟨rfl, hb1⟩
      have HX1 := Lib.hid (HX0.out.below hb1)
      have HB1 : Hid (Below w.heap.size w w1) := HB0.out.trans (hb1.mono HB0.out.size)
      clear hb1
      have d1_0 := HX1.out.c0
      have d1_1 := HX1.out.c1
      have d1_2 := HX1.out.c2
      have d1_3 := HX1.out.c3
      have d1_4 := HX1.out.c4
      have d1_5 := HX1.out.c5
      go_wp2_with fail
      refine (HV.out _ HB1.out).mono ?_
      rintro e w1' ⟨rfl, rfl⟩
      go_wp2
      refine bodyPost_ret (three_results rfl _ _ _) rfl ?_
      exact ⟨rfl, HB1.out⟩
    · rw [hv] at HV
      have hG : stG x y z ts gs rs xs bs = true := by unfold stG; rw [hm, hv]; rfl
      obtain ⟨sb1, sb2, sb3, sb4, sb5⟩ := st_sum hG
      have HF := Lib.hid (StF.new (u1 := .slice AX xs.length cX) hG HT.out HX.out HS.out)
      have W1 : Hid (∀ k : Nat, k < bs.length → 0 < valF xs bs k → sumN (wasF ts xs bs) k = sumN (wasF ts xs bs) (k + 1)) := fun k _ h => by rw [sumN_succ, was_pos h, Int.add_zero]
      have W2 : Hid (∀ k : Nat, k < bs.length → 0 < valF xs bs k → sumN (oreF ts xs bs) k + tonF ts bs k = sumN (oreF ts xs bs) (k + 1)) := fun k _ h => by rw [sumN_succ, ore_pos h]
      have W3 : Hid (∀ k : Nat, k < bs.length → valF xs bs k ≤ 0 → sumN (oreF ts xs bs) k = sumN (oreF ts xs bs) (k + 1)) := fun k _ h => by rw [sumN_succ, ore_neg (by omega), Int.add_zero]
      have W4 : Hid (∀ k : Nat, k < bs.length → valF xs bs k ≤ 0 → sumN (wasF ts xs bs) k + tonF ts bs k = sumN (wasF ts xs bs) (k + 1)) := fun k _ h => by rw [sumN_succ, was_neg (by omega)]
      have W5 : Hid (∀ k : Nat, k ≤ bs.length → 0 ≤ sumN (wasF ts xs bs) k ∧ sumN (wasF ts xs bs) k ≤ 10000000 * k) := sumN_box (was_box hG) (by omega)
      have W6 : Hid (∀ k : Nat, k ≤ bs.length → 0 ≤ sumN (oreF ts xs bs) k ∧ sumN (oreF ts xs bs) k ≤ 10000000 * k) := sumN_box (ore_box hG) (by omega)
      have W7 : Hid (∀ k : Nat, k < bs.length → 0 ≤ tonF ts bs k ∧ tonF ts bs k ≤ 10000000) := fun k hk => by
        obtain ⟨_, _, _, _, _, _, a, b⟩ := st_at hG hk
        exact ⟨a, b⟩
      have W8 : Hid (sumN (wasF ts xs bs) 0 = 0 ∧ sumN (oreF ts xs bs) 0 = 0) := ⟨rfl, rfl⟩
      have hO : stO ts xs bs = 0 ∨ stO ts xs bs ≠ 0 := Decidable.em _
      have N0 : stO ts xs bs = 0 → stB x y z ts gs rs xs bs = false ∧ stP x y z ts gs rs xs bs = 0 ∧ stQ x y z ts gs rs xs bs = 0 := st_zero
      have N1 : stO ts xs bs ≠ 0 → _ := st_yes (x := x) (y := y) (z := z) (gs := gs) (rs := rs) hG
      unfold stO at N0 N1 hO sb3 sb4
      unfold stW at N1 sb1 sb2
      generalize stB x y z ts gs rs xs bs = RB at *
      generalize stP x y z ts gs rs xs bs = RP at *
      generalize stQ x y z ts gs rs xs bs = RQ at *
      generalize sumN (wasF ts xs bs) = SW at *
      generalize sumN (oreF ts xs bs) = SO at *
      generalize valF xs bs = val at *
      generalize tonF ts bs = ton at *
      generalize (fun j => bs.getD j 0) = blk at *
      clear hm hv hG
      generalize xs.length = nx at *
      generalize bs.length = nb at *
      generalize hn1 : ts.length = n1 at *
      clear hn1
      go_enter Try.func45, Try.ntmps45
      go_wp2_with fail
      refine (HI.out).mono ?_
      rintro e w1 ⟨rfl, hb1⟩
      have HX1 := Lib.hid (HX0.out.below hb1)
      have HB1 : Hid (Below w.heap.size w w1) := HB0.out.trans (hb1.mono HB0.out.size)
      clear hb1
      have d1_0 := HX1.out.c0
      have d1_1 := HX1.out.c1
      have d1_2 := HX1.out.c2
      have d1_3 := HX1.out.c3
      have d1_4 := HX1.out.c4
      have d1_5 := HX1.out.c5
      go_wp2_with fail
      refine (HV.out _ HB1.out).mono ?_
      rintro e w1' ⟨rfl, rfl⟩
      have HF2 := Lib.hid (HF.out.below HB1.out)
      go_wp2_with fail
      go_loop [9, 10, 29] (fun a b i => ∃ k : Nat, k ≤ nb ∧ i = .int .i64 k ∧ a = .int .i64 (SW k) ∧ b = .int .i64 (SO k)) (fun _ _ i => nb - (intOf i).toNat)
      case atStart => exact ⟨0, Nat.zero_le _, rfl, by rw [W8.out.1], by rw [W8.out.2]⟩
      case round =>
        obtain ⟨k, hk, rfl, rfl, rfl⟩ := hrel
        by_cases hlt : k < nb
        · obtain ⟨bb, off, rfl, _, q1⟩ := HF2.out.blk k hlt
          obtain ⟨i, b1, o1, b2, o2, e1, k1, k2, ⟨d1, e2⟩, _, q2, ⟨d2, e3⟩, _, q3⟩ := HF2.out.at_ k hlt
          simp only [Value.slice.injEq] at e2 e3
          obtain ⟨rfl, -, rfl⟩ := e2
          obtain ⟨rfl, -, rfl⟩ := e3
          rw [e1] at q1
          clear e1
          obtain ⟨s0, s1⟩ := W5.out k hk
          obtain ⟨t0, t1⟩ := W6.out k hk
          obtain ⟨r0, r1⟩ := W7.out k hlt
          have f1 : Hid (0 < val k → SW k = SW (k + 1)) := W1.out k hlt
          have f2 : Hid (0 < val k → SO k + ton k = SO (k + 1)) := W2.out k hlt
          have f3 : Hid (val k ≤ 0 → SO k = SO (k + 1)) := W3.out k hlt
          have f4 : Hid (val k ≤ 0 → SW k + ton k = SW (k + 1)) := W4.out k hlt
          generalize val k = t at *
          generalize ton k = tn at *
          generalize SW k = sw at *
          generalize SO k = so at *
          have a1 : (0 : Int) ≤ (k : Int) := by omega
          have a2 : (k : Int) < (nb : Int) := by omega
          have a3 : sw ≤ 4000000000 := by omega
          have a4 : so ≤ 4000000000 := by omega
          have a5 : (0 : Int) ≤ (i : Int) := by omega
          have a6 : (i : Int) < (n1 : Int) := by omega
          have a7 : (i : Int) < (nx : Int) := by omega
          clear s1 t1
          by_cases ht : 0 < t
          · have g1 := Lib.hid (f1.out ht)
            have g2 := Lib.hid (f2.out ht)
            clear f1 f2 f3 f4
            go_wp2
            go_round
            case rel => exact ⟨k + 1, by omega, by go_num, by rw [g1.out], by rw [← g2.out]⟩
            case measure => simp [intOf]; omega
          · have g1 := Lib.hid (f3.out (by omega))
            have g2 := Lib.hid (f4.out (by omega))
            clear f1 f2 f3 f4
            go_wp2
            go_round
            case rel => exact ⟨k + 1, by omega, by go_num, by rw [← g2.out], by rw [g1.out]⟩
            case measure => simp [intOf]; omega
        · obtain rfl : k = nb := by omega
          clear W1 W2 W3 W4 W5 W6 W7 W8 HF2
          generalize SW k = sw at *
          generalize SO k = so at *
          rcases hO with h0 | h0
          · obtain ⟨rfl, rfl, rfl⟩ := N0 h0
            subst h0
            clear N1
            go_wp2
            refine bodyPost_ret (three_results rfl _ _ _) rfl ?_
            exact ⟨rfl, HB1.out⟩
          · obtain ⟨eb, ep, eq⟩ := N1 h0
            clear N0
            obtain ⟨a, rfl⟩ := Int.eq_ofNat_of_zero_le sb1
            obtain ⟨b, rfl⟩ := Int.eq_ofNat_of_zero_le sb3
            simp only [Int.gcd_natCast_natCast] at ep eq
            have hbp : 0 < b := by omega
            have hg : 0 < Nat.gcd a b := Nat.gcd_pos_of_pos_right _ hbp
            have hlg : Nat.gcd a b ≤ b := Nat.gcd_le_right _ hbp
            have HGC := Lib.hid (c_moPart a b)
            generalize Nat.gcd a b = G at *
            generalize (a : Int) / (G : Int) = qa at *
            generalize (b : Int) / (G : Int) = qb at *
            go_wp2_with fail
            refine (HGC.out _ (by omega) (by omega) hbp).mono ?_
            rintro e w5 ⟨rfl, hb5⟩
            have HB5 : Hid (Below w.heap.size w w5) := HB1.out.trans (hb5.mono HB1.out.size)
            clear hb5
            go_wp2
            refine bodyPost_ret (three_results rfl _ _ _) rfl ?_
            exact ⟨by rw [eb, ep, eq]; rfl, HB5.out⟩

end Go.Proofs.Ytcmdnpablnihmaa
