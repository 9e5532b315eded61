/-
  Contracts: sums over the blocks of a list, in the program and in the model of it.
-/
import Derived.Test.YtlgbhemjckahhaaM6
namespace Go.Proofs.Ytlgbhemjckahhaa
open Go.RowKit
set_option linter.unusedVariables false

/-- The tonnes, and the metal, of the block at place j of a list. -/
def tonF (ts bs : List Int) (j : Nat) : Int := ts.getD (bs.getD j 0).toNat 0
def metF (ts gs bs : List Int) (j : Nat) : Int := metal ts gs (bs.getD j 0).toNat
def sumT (ts bs : List Int) : Int := sumN (tonF ts bs) bs.length
def sumM (ts gs bs : List Int) : Int := sumN (metF ts gs bs) bs.length

set_option maxHeartbeats 1000000 in
theorem c_fnTon (b0 k : Nat) (x y z : Int) (v1 v2 v3 : Value) (ts gs rs : List Int) (w : World) (hx : Box6 w b0 x y z v1 v2 v3) (h : Look w v1 v2 v3 ts gs rs) (k1 : k < ts.length) (l1 : ts.length ≤ 4000000) :
    Calls Try.prog 101 #[.int .i64 k, .pointer (some ⟨b0, 0, none⟩)] w fun e w' => e = .returned (.int .i64 (ts.getD k 0)) ∧ w = w' := by
  obtain ⟨b1, o1, c1, rfl, hb1, hc1⟩ := h.t.at_ k1
  have d3 := hx.c3
  clear hx h
  generalize ts.getD k 0 = t at *
  generalize ts.length = n1 at *
  have a0 : (0 : Int) ≤ (k : Int) := by omega
  have a1 : (k : Int) < (n1 : Int) := by omega
  go_enter Try.func101, Try.ntmps101
  go_wp2
  go_ret
  exact ⟨rfl, rfl⟩

set_option maxHeartbeats 1000000 in
theorem c_fnMet (b0 k : Nat) (x y z : Int) (v1 v2 v3 : Value) (ts gs rs : List Int) (w : World) (hx : Box6 w b0 x y z v1 v2 v3) (h : Look w v1 v2 v3 ts gs rs) (k1 : k < ts.length) (k2 : k < gs.length) (l1 : ts.length ≤ 4000000) (l2 : gs.length ≤ 4000000)
    (t0 : 0 ≤ ts.getD k 0) (t1 : ts.getD k 0 ≤ 10000) (g0 : 0 ≤ gs.getD k 0) (g1 : gs.getD k 0 ≤ 1000) :
    Calls Try.prog 102 #[.int .i64 k, .pointer (some ⟨b0, 0, none⟩)] w fun e w' => e = .returned (.int .i64 (metal ts gs k)) ∧ Below w.heap.size w w' := by
  have HC := Lib.hid (c_metalIn x y z v1 v2 v3 ts gs rs k w h k1 k2 l1 l2 t0 t1 g0 g1)
  obtain ⟨A1, c1, rfl⟩ := h.t.shape
  obtain ⟨A2, c2, rfl⟩ := h.g.shape
  obtain ⟨A3, c3, rfl⟩ := h.r.shape
  have d0 := hx.c0
  have d1 := hx.c1
  have d2 := hx.c2
  have d3 := hx.c3
  have d4 := hx.c4
  have d5 := hx.c5
  clear hx h t0 t1 g0 g1 k1 k2 l1 l2
  unfold metal
  generalize ts.getD k 0 * gs.getD k 0 = m at *
  generalize ts.length = n1 at *
  generalize gs.length = n2 at *
  generalize rs.length = n3 at *
  go_enter Try.func102, Try.ntmps102
  go_wp2_with fail
  refine HC.out.mono ?_
  rintro e w1 ⟨rfl, hb1⟩
  go_wp2
  go_ret
  exact ⟨rfl, hb1⟩

set_option maxHeartbeats 1000000 in
theorem c_sumOverTon (bs : List Int) (v : Value) (b0 : Nat) (f : Nat → Int) (w : World) (hl : bs.length ≤ 4000000) (h : Seen w v bs) (hf : ∀ k : Nat, k < bs.length → 0 ≤ f k ∧ f k ≤ 10000000)
    (H : Hid (∀ (k : Nat) (w' : World), k < bs.length → Below w.heap.size w w' → Calls Try.prog 101 #[.int .i64 (bs.getD k 0), .pointer (some ⟨b0, 0, none⟩)] w' fun e w'' => e = .returned (.int .i64 (f k)) ∧ Below w'.heap.size w' w'')) :
    Calls Try.prog 100 #[v, .func (.func 101) #[] #[.pointer (some ⟨b0, 0, none⟩)]] w fun e w' => e = .returned (.int .i64 (sumN f bs.length)) ∧ Below w.heap.size w w' := by
  have HS := Lib.hid h
  obtain ⟨A, c, rfl, hm, hA⟩ := h
  clear hm
  have E1 : Hid (∀ k : Nat, k < bs.length → ∃ b off, A = some ⟨b, off, none⟩ ∧ b < w.heap.size ∧ w.cell? ⟨b, off + k, none⟩ = some (.int .i64 (bs.getD k 0))) := fun k hk => by
    obtain ⟨b, off, rfl, hb, hc⟩ := hA (by omega)
    exact ⟨b, off, rfl, hb, hc k hk⟩
  have F1 : Hid (∀ k : Nat, k ≤ bs.length → 0 ≤ sumN f k ∧ sumN f k ≤ 10000000 * k) := sumN_box hf (by omega)
  have F2 : Hid (∀ k : Nat, k < bs.length → 0 ≤ f k ∧ f k ≤ 10000000) := hf
  have F3 : Hid (∀ k : Nat, sumN f k + f k = sumN f (k + 1)) := fun k => rfl
  have F0 : Hid (sumN f 0 = 0) := rfl
  clear hA hf HS
  generalize sumN f = S at *
  generalize hn : bs.length = n at *
  clear hn
  go_enter Try.func100, Try.ntmps100
  go_wp2_with fail
  go_loopw [5, 10] (fun q i wr => ∃ k : Nat, k ≤ n ∧ i = .int .i64 k ∧ q = .int .i64 (S k) ∧ Below w.heap.size w wr) (fun _ i _ => n - (intOf i).toNat)
  case atStart => exact ⟨0, Nat.zero_le _, rfl, by rw [F0.out], Below.refl _ _⟩
  case round =>
    obtain ⟨k, hk, rfl, rfl, hbw⟩ := hrel
    have HB := Lib.hid hbw
    clear hbw
    by_cases hlt : k < n
    · obtain ⟨b, off, rfl, hbl, hcc⟩ := E1.out k hlt
      have q1 : wr.cell? ⟨b, off + k, none⟩ = some (.int .i64 (bs.getD k 0)) := by rw [HB.out.cell (p := ⟨b, off + k, none⟩) hbl]; exact hcc
      have HC := Lib.hid (H.out k wr hlt HB.out)
      obtain ⟨s0, s1⟩ := F1.out k hk
      obtain ⟨t0, t1⟩ := F2.out k hlt
      have f3 : Hid (S k + f k = S (k + 1)) := F3.out k
      clear hcc hbl
      generalize bs.getD k 0 = i at *
      generalize f k = t at *
      generalize S k = s at *
      have b1 : (0 : Int) ≤ (k : Int) := by omega
      have b2 : (k : Int) < (n : Int) := by omega
      have b3 : s ≤ 40000000000000 := by omega
      clear s1
      go_wp2_with fail
      refine HC.out.mono ?_
      rintro e w2 ⟨rfl, hb2⟩
      have HB2 : Hid (Below w.heap.size w w2) := HB.out.trans (hb2.mono HB.out.size)
      clear hb2
      go_wp2
      go_roundw
      case rel => exact ⟨k + 1, by omega, by go_num, by rw [← f3.out], HB2.out⟩
      case measure => simp [intOf]; omega
    · obtain rfl : k = n := by omega
      go_wp2
      go_ret
      exact ⟨rfl, HB.out⟩

set_option maxHeartbeats 1000000 in
theorem c_sumOverMet (bs : List Int) (v : Value) (b0 : Nat) (f : Nat → Int) (w : World) (hl : bs.length ≤ 4000000) (h : Seen w v bs) (hf : ∀ k : Nat, k < bs.length → 0 ≤ f k ∧ f k ≤ 10000000)
    (H : Hid (∀ (k : Nat) (w' : World), k < bs.length → Below w.heap.size w w' → Calls Try.prog 102 #[.int .i64 (bs.getD k 0), .pointer (some ⟨b0, 0, none⟩)] w' fun e w'' => e = .returned (.int .i64 (f k)) ∧ Below w'.heap.size w' w'')) :
    Calls Try.prog 100 #[v, .func (.func 102) #[] #[.pointer (some ⟨b0, 0, none⟩)]] w fun e w' => e = .returned (.int .i64 (sumN f bs.length)) ∧ Below w.heap.size w w' := by
  have HS := Lib.hid h
  obtain ⟨A, c, rfl, hm, hA⟩ := h
  clear hm
  have E1 : Hid (∀ k : Nat, k < bs.length → ∃ b off, A = some ⟨b, off, none⟩ ∧ b < w.heap.size ∧ w.cell? ⟨b, off + k, none⟩ = some (.int .i64 (bs.getD k 0))) := fun k hk => by
    obtain ⟨b, off, rfl, hb, hc⟩ := hA (by omega)
    exact ⟨b, off, rfl, hb, hc k hk⟩
  have F1 : Hid (∀ k : Nat, k ≤ bs.length → 0 ≤ sumN f k ∧ sumN f k ≤ 10000000 * k) := sumN_box hf (by omega)
  have F2 : Hid (∀ k : Nat, k < bs.length → 0 ≤ f k ∧ f k ≤ 10000000) := hf
  have F3 : Hid (∀ k : Nat, sumN f k + f k = sumN f (k + 1)) := fun k => rfl
  have F0 : Hid (sumN f 0 = 0) := rfl
  clear hA hf HS
  generalize sumN f = S at *
  generalize hn : bs.length = n at *
  clear hn
  go_enter Try.func100, Try.ntmps100
  go_wp2_with fail
  go_loopw [5, 10] (fun q i wr => ∃ k : Nat, k ≤ n ∧ i = .int .i64 k ∧ q = .int .i64 (S k) ∧ Below w.heap.size w wr) (fun _ i _ => n - (intOf i).toNat)
  case atStart => exact ⟨0, Nat.zero_le _, rfl, by rw [F0.out], Below.refl _ _⟩
  case round =>
    obtain ⟨k, hk, rfl, rfl, hbw⟩ := hrel
    have HB := Lib.hid hbw
    clear hbw
    by_cases hlt : k < n
    · obtain ⟨b, off, rfl, hbl, hcc⟩ := E1.out k hlt
      have q1 : wr.cell? ⟨b, off + k, none⟩ = some (.int .i64 (bs.getD k 0)) := by rw [HB.out.cell (p := ⟨b, off + k, none⟩) hbl]; exact hcc
      have HC := Lib.hid (H.out k wr hlt HB.out)
      obtain ⟨s0, s1⟩ := F1.out k hk
      obtain ⟨t0, t1⟩ := F2.out k hlt
      have f3 : Hid (S k + f k = S (k + 1)) := F3.out k
      clear hcc hbl
      generalize bs.getD k 0 = i at *
      generalize f k = t at *
      generalize S k = s at *
      have b1 : (0 : Int) ≤ (k : Int) := by omega
      have b2 : (k : Int) < (n : Int) := by omega
      have b3 : s ≤ 40000000000000 := by omega
      clear s1
      go_wp2_with fail
      refine HC.out.mono ?_
      rintro e w2 ⟨rfl, hb2⟩
      have HB2 : Hid (Below w.heap.size w w2) := HB.out.trans (hb2.mono HB.out.size)
      clear hb2
      go_wp2
      go_roundw
      case rel => exact ⟨k + 1, by omega, by go_num, by rw [← f3.out], HB2.out⟩
      case measure => simp [intOf]; omega
    · obtain rfl : k = n := by omega
      go_wp2
      go_ret
      exact ⟨rfl, HB.out⟩

def listB (x y z : Int) (ts gs rs bs : List Int) : Bool := moB x y z ts gs rs && risB (x * y * z) bs
theorem list_true {x y z : Int} {ts gs rs bs : List Int} (h : listB x y z ts gs rs bs = true) : moB x y z ts gs rs = true ∧ risB (x * y * z) bs = true := by
  unfold listB at h; simpa using h
theorem list_len {x y z : Int} {ts gs rs bs : List Int} (h : listB x y z ts gs rs bs = true) : bs.length ≤ 120 := by
  obtain ⟨hm, hr⟩ := list_true h
  obtain ⟨_, _, _, _, _, _, _, _, q1, q2⟩ := good_box (mo_true hm).1
  have := ris_len hr q1
  omega
theorem list_at {x y z : Int} {ts gs rs bs : List Int} (h : listB x y z ts gs rs bs = true) {j : Nat} (hj : j < bs.length) : ∃ k : Nat, bs.getD j 0 = (k : Int) ∧ (k : Int) < x * y * z := by
  obtain ⟨hm, hr⟩ := list_true h
  obtain ⟨h1, h2⟩ := ris_box hr hj
  exact ⟨(bs.getD j 0).toNat, by omega, by omega⟩
theorem ton_at {ts bs : List Int} {j k : Nat} (h : bs.getD j 0 = (k : Int)) : tonF ts bs j = ts.getD k 0 := by unfold tonF; rw [h]; rfl
theorem met_at {ts gs bs : List Int} {j k : Nat} (h : bs.getD j 0 = (k : Int)) : metF ts gs bs j = metal ts gs k := by unfold metF; rw [h]; rfl
theorem ton_box {x y z : Int} {ts gs rs bs : List Int} (h : listB x y z ts gs rs bs = true) {j : Nat} (hj : j < bs.length) : 0 ≤ tonF ts bs j ∧ tonF ts bs j ≤ 10000000 := by
  obtain ⟨k, e, hk⟩ := list_at h hj
  obtain ⟨k1, k2, k3, t0, t1, g0, g1, r0, r1, m0, m1⟩ := metal_box (list_true h).1 hk
  rw [ton_at e]; omega
theorem met_box {x y z : Int} {ts gs rs bs : List Int} (h : listB x y z ts gs rs bs = true) {j : Nat} (hj : j < bs.length) : 0 ≤ metF ts gs bs j ∧ metF ts gs bs j ≤ 10000000 := by
  obtain ⟨k, e, hk⟩ := list_at h hj
  obtain ⟨k1, k2, k3, t0, t1, g0, g1, r0, r1, m0, m1⟩ := metal_box (list_true h).1 hk
  rw [met_at e]; exact ⟨m0, m1⟩

set_option maxHeartbeats 1000000 in
theorem c_sumBlocks (x y z : Int) (v1 v2 v3 : Value) (ts gs rs : List Int) (v : Value) (bs : List Int) (w : World) (l1 : ts.length ≤ 4000000) (l2 : gs.length ≤ 4000000) (hl : bs.length ≤ 4000000) (h : Look w v1 v2 v3 ts gs rs) (hs : Seen w v bs) (hL : listB x y z ts gs rs bs = true) :
    Calls Try.prog 69 #[.agg #[.int .i64 x, .int .i64 y, .int .i64 z, v1, v2, v3], v] w fun e w' => e = .returned (.tuple #[.int .i64 (sumT ts bs), .int .i64 (sumM ts gs bs)]) ∧ Below w.heap.size w w' := by
  have H := Lib.hid h
  obtain ⟨A1, c1, rfl⟩ := h.t.shape
  obtain ⟨A2, c2, rfl⟩ := h.g.shape
  obtain ⟨A3, c3, rfl⟩ := h.r.shape
  clear h
  have HS := Lib.hid hs
  obtain ⟨AV, cV, rfl⟩ := hs.shape
  clear hs
  have HX0 : Hid (Box6 (w.alloc (.cells #[.int .i64 x, .int .i64 y, .int .i64 z, (.slice A1 ts.length c1), (.slice A2 gs.length c2), (.slice A3 rs.length c3)] 52)) w.heap.size x y z (.slice A1 ts.length c1) (.slice A2 gs.length c2) (.slice A3 rs.length c3)) := Box6.new _ _ _ _ _ _ _ _
  have HB0 : Hid (Below w.heap.size w (w.alloc (.cells #[.int .i64 x, .int .i64 y, .int .i64 z, (.slice A1 ts.length c1), (.slice A2 gs.length c2), (.slice A3 rs.length c3)] 52))) := (Below.refl _ _).alloc (Nat.le_refl _) _
  have C1 : Hid (∀ u : World, Below w.heap.size w u → Box6 u w.heap.size x y z (.slice A1 ts.length c1) (.slice A2 gs.length c2) (.slice A3 rs.length c3) → Calls Try.prog 100 #[.slice AV bs.length cV, .func (.func 101) #[] #[.pointer (some ⟨w.heap.size, 0, none⟩)]] u fun e w' => e = .returned (.int .i64 (sumT ts bs)) ∧ Below u.heap.size u w') := fun u hu hx =>
    c_sumOverTon bs _ _ (tonF ts bs) u hl (HS.out.below hu) (fun k hk => ton_box hL hk) (fun k w' hk hw' => by
      obtain ⟨j, e, hj⟩ := list_at hL hk
      obtain ⟨k1, k2, k3, t0, t1, g0, g1, r0, r1, m0, m1⟩ := metal_box (list_true hL).1 hj
      rw [ton_at e, e]
      exact (c_fnTon _ j x y z _ _ _ ts gs rs w' (hx.below hw') ((H.out.below hu).below hw') k1 l1).mono fun _ _ ⟨he, hw⟩ => ⟨he, by rw [← hw]; exact Below.refl _ _⟩)
  have C2 : Hid (∀ u : World, Below w.heap.size w u → Box6 u w.heap.size x y z (.slice A1 ts.length c1) (.slice A2 gs.length c2) (.slice A3 rs.length c3) → Calls Try.prog 100 #[.slice AV bs.length cV, .func (.func 102) #[] #[.pointer (some ⟨w.heap.size, 0, none⟩)]] u fun e w' => e = .returned (.int .i64 (sumM ts gs bs)) ∧ Below u.heap.size u w') := fun u hu hx =>
    c_sumOverMet bs _ _ (metF ts gs bs) u hl (HS.out.below hu) (fun k hk => met_box hL hk) (fun k w' hk hw' => by
      obtain ⟨j, e, hj⟩ := list_at hL hk
      obtain ⟨k1, k2, k3, t0, t1, g0, g1, r0, r1, m0, m1⟩ := metal_box (list_true hL).1 hj
      rw [met_at e, e]
      exact c_fnMet _ j x y z _ _ _ ts gs rs w' (hx.below hw') ((H.out.below hu).below hw') k1 k2 l1 l2 t0 t1 g0 g1)
  clear hL
  generalize sumT ts bs = s1 at *
  generalize sumM ts gs bs = s2 at *
  go_enter Try.func69, Try.ntmps69
  go_wp2_with fail
  refine (C1.out _ HB0.out HX0.out).mono ?_
  rintro e w1 ⟨rfl, hb1⟩
  have HX1 := Lib.hid (HX0.out.below hb1)
  have HB1 : Hid (Below w.heap.size w w1) := HB0.out.trans (hb1.mono HB0.out.size)
  clear hb1
  go_wp2_with fail
  refine (C2.out _ HB1.out HX1.out).mono ?_
  rintro e w2 ⟨rfl, hb2⟩
  have HB2 : Hid (Below w.heap.size w w2) := HB1.out.trans (hb2.mono HB1.out.size)
  clear hb2
  go_wp2
  go_ret2
  exact ⟨rfl, HB2.out⟩

set_option maxHeartbeats 1000000 in
theorem c_moSums (x y z : Int) (v1 v2 v3 : Value) (ts gs rs : List Int) (v : Value) (bs : List Int) (w : World) (l1 : ts.length ≤ 4000000) (l2 : gs.length ≤ 4000000) (hl : bs.length ≤ 4000000) (h : Look w v1 v2 v3 ts gs rs) (hs : Seen w v bs) (hL : listB x y z ts gs rs bs = true) :
    Calls Try.prog 67 #[.agg #[.int .i64 x, .int .i64 y, .int .i64 z, v1, v2, v3], v] w fun e w' => e = .returned (.tuple #[.int .i64 (sumT ts bs), .int .i64 (sumM ts gs bs)]) ∧ Below w.heap.size w w' := by
  have H := Lib.hid h
  obtain ⟨A1, c1, rfl⟩ := h.t.shape
  obtain ⟨A2, c2, rfl⟩ := h.g.shape
  obtain ⟨A3, c3, rfl⟩ := h.r.shape
  clear h
  obtain ⟨AV, cV, rfl, hm, hA⟩ := hs
  clear hm
  have HX0 : Hid (Box6 (w.alloc (.cells #[.int .i64 x, .int .i64 y, .int .i64 z, (.slice A1 ts.length c1), (.slice A2 gs.length c2), (.slice A3 rs.length c3)] 52)) w.heap.size x y z (.slice A1 ts.length c1) (.slice A2 gs.length c2) (.slice A3 rs.length c3)) := Box6.new _ _ _ _ _ _ _ _
  have HB0 : Hid (Below w.heap.size w (w.alloc (.cells #[.int .i64 x, .int .i64 y, .int .i64 z, (.slice A1 ts.length c1), (.slice A2 gs.length c2), (.slice A3 rs.length c3)] 52))) := (Below.refl _ _).alloc (Nat.le_refl _) _
  have E1 : Hid (∀ j : Nat, j < bs.length → ∃ b off, AV = some ⟨b, off, none⟩ ∧ b < w.heap.size ∧ w.cell? ⟨b, off + j, none⟩ = some (.int .i64 (bs.getD j 0))) := fun j hj => by
    obtain ⟨b, off, rfl, hb, hc⟩ := hA (by omega)
    exact ⟨b, off, rfl, hb, hc j hj⟩
  have E2 : Hid (∀ j : Nat, j < bs.length → ∃ k : Nat, bs.getD j 0 = (k : Int) ∧ k < ts.length ∧ k < gs.length ∧ 0 ≤ ts.getD k 0 ∧ ts.getD k 0 ≤ 10000 ∧ 0 ≤ gs.getD k 0 ∧ gs.getD k 0 ≤ 1000 ∧ 0 ≤ metal ts gs k ∧ metal ts gs k ≤ 10000000 ∧ tonF ts bs j = ts.getD k 0 ∧ metF ts gs bs j = metal ts gs k) := fun j hj => by
    obtain ⟨k, e, hk⟩ := list_at hL hj
    obtain ⟨k1, k2, k3, t0, t1, g0, g1, r0, r1, m0, m1⟩ := metal_box (list_true hL).1 hk
    exact ⟨k, e, k1, k2, t0, t1, g0, g1, m0, m1, ton_at e, met_at e⟩
  have F1 : Hid (∀ k : Nat, k ≤ bs.length → 0 ≤ sumN (tonF ts bs) k ∧ sumN (tonF ts bs) k ≤ 10000000 * k) := sumN_box (fun k hk => ton_box hL hk) (by omega)
  have F2 : Hid (∀ k : Nat, k ≤ bs.length → 0 ≤ sumN (metF ts gs bs) k ∧ sumN (metF ts gs bs) k ≤ 10000000 * k) := sumN_box (fun k hk => met_box hL hk) (by omega)
  have F3 : Hid (∀ k : Nat, sumN (tonF ts bs) k + tonF ts bs k = sumN (tonF ts bs) (k + 1)) := fun k => rfl
  have F4 : Hid (∀ k : Nat, sumN (metF ts gs bs) k + metF ts gs bs k = sumN (metF ts gs bs) (k + 1)) := fun k => rfl
  have F5 : Hid (sumN (tonF ts bs) 0 = 0) := rfl
  have F6 : Hid (sumN (metF ts gs bs) 0 = 0) := rfl
  clear hA hL
  unfold sumT sumM
  generalize sumN (tonF ts bs) = S at *
  generalize sumN (metF ts gs bs) = M at *
  generalize hn : bs.length = n at *
  clear hn
  go_enter Try.func67, Try.ntmps67
  go_wp2_with fail
  go_loopw [6, 7, 12] (fun q r i wr => ∃ k : Nat, k ≤ n ∧ i = .int .i64 k ∧ q = .int .i64 (S k) ∧ r = .int .i64 (M k) ∧ Below w.heap.size w wr ∧ Box6 wr w.heap.size x y z (.slice A1 ts.length c1) (.slice A2 gs.length c2) (.slice A3 rs.length c3)) (fun _ _ i _ => n - (intOf i).toNat)
  case atStart => exact ⟨0, Nat.zero_le _, rfl, by rw [F5.out], by rw [F6.out], HB0.out, HX0.out⟩
  case round =>
    obtain ⟨j, hj, rfl, rfl, rfl, hbw, hbx⟩ := hrel
    have HB := Lib.hid hbw
    have HX := Lib.hid hbx
    clear hbw hbx
    by_cases hlt : j < n
    · obtain ⟨b, off, rfl, hbl, hcc⟩ := E1.out j hlt
      obtain ⟨k, ek, k1, k2, t0, t1, g0, g1, m0, m1, et, em⟩ := E2.out j hlt
      have HC := Lib.hid (c_moMetal x y z _ _ _ ts gs rs k wr (H.out.below HB.out) k1 k2 l1 l2 t0 t1 g0 g1)
      obtain ⟨b1, o1, c1', ee, hb1, hc1⟩ := (H.out.below HB.out).t.at_ k1
      obtain ⟨rfl, rfl⟩ := (by simpa using ee : A1 = some ⟨b1, o1, none⟩ ∧ c1 = c1')
      clear ee
      have q1 : wr.cell? ⟨b, off + j, none⟩ = some (.int .i64 (bs.getD j 0)) := by rw [HB.out.cell (p := ⟨b, off + j, none⟩) hbl]; exact hcc
      obtain ⟨s0, s1⟩ := F1.out j hj
      obtain ⟨u0, u1⟩ := F2.out j hj
      have f3 : Hid (S j + tonF ts bs j = S (j + 1)) := F3.out j
      have f4 : Hid (M j + metF ts gs bs j = M (j + 1)) := F4.out j
      rw [et] at f3
      rw [em] at f4
      rw [ek] at q1
      clear hcc hbl et em ek
      have d0 := HX.out.c0
      have d1 := HX.out.c1
      have d2 := HX.out.c2
      have d3 := HX.out.c3
      have d4 := HX.out.c4
      have d5 := HX.out.c5
      have a1 : (0 : Int) ≤ (k : Int) := by omega
      have a2 : (k : Int) < (ts.length : Int) := by omega
      have b1 : (0 : Int) ≤ (j : Int) := by omega
      have b2 : (j : Int) < (n : Int) := by omega
      have b3 : S j ≤ 40000000000000 := by omega
      have b4 : M j ≤ 40000000000000 := by omega
      clear s1 u1
      unfold metal at *
      generalize ts.getD k 0 * gs.getD k 0 = m at *
      generalize ts.getD k 0 = t at *
      generalize gs.getD k 0 = g at *
      generalize S j = s at *
      generalize M j = u at *
      go_wp2_with fail
      refine HC.out.mono ?_
      rintro e w2 ⟨rfl, hb2⟩
      have HX2 := Lib.hid (HX.out.below hb2)
      have HB2 : Hid (Below w.heap.size w w2) := HB.out.trans (hb2.mono HB.out.size)
      clear hb2
      go_wp2
      go_roundw
      case rel => exact ⟨j + 1, by omega, by go_num, by rw [← f3.out], by rw [← f4.out], HB2.out, HX2.out⟩
      case measure => simp [intOf]; omega
    · obtain rfl : j = n := by omega
      go_wp2
      go_ret2
      exact ⟨rfl, HB.out⟩
end Go.Proofs.Ytlgbhemjckahhaa
