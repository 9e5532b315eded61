/-
  Contracts: AreGains and FactorValues, in the program and in the model.
-/
import Derived.Test.YtoakpepoopjlaaaM4
import Derived.Test.YtoakpepoopjlaaaLP
import Derived.Test.YtoakpepoopjlaaaNR
namespace Go.Proofs.Ytoakpepoopjlaaa
open Go.RowKit
set_option linter.unusedVariables false

/-! ### Plain -/
def gnB (gs cs : List Int) (n : Int) : Bool := decide (1 ≤ n ∧ n ≤ 120) && (areB n 10000 gs && areB n 400000 cs)
def fcB (f : Int) : Bool := decide (0 ≤ f ∧ f ≤ 60)
/-- The values at a factor. -/
def faL (gs cs : List Int) (f : Int) : List Int := (List.range gs.length).map fun i => gs.getD i 0 * f - cs.getD i 0
def fvB (gs cs : List Int) (f : Int) : Bool := gnB gs cs gs.length && fcB f
def fvA (gs cs : List Int) (f : Int) : List Int := if fvB gs cs f then faL gs cs f else []
theorem faL_len (gs cs : List Int) (f : Int) : (faL gs cs f).length = gs.length := by simp [faL]
theorem faL_at {gs cs : List Int} {f : Int} {i : Nat} (h : i < gs.length) : (faL gs cs f).getD i 0 = gs.getD i 0 * f - cs.getD i 0 := by simp [faL, h]
theorem fvA_len (gs cs : List Int) (f : Int) (h : gs.length ≤ 4000000) : (fvA gs cs f).length ≤ 4000000 := by
  unfold fvA
  split
  · rw [faL_len]; exact h
  · simp
theorem are_yes {n hi : Int} {xs : List Int} (h : areB n hi xs = true) : (xs.length : Int) = n ∧ ∀ k, k < xs.length → 0 ≤ xs.getD k 0 ∧ xs.getD k 0 ≤ hi := by
  unfold areB at h
  rw [Bool.and_eq_true, decide_eq_true_eq] at h
  exact ⟨h.1, fun k hk => all_at h.2 hk⟩
structure Gains (gs cs : List Int) (n : Nat) : Prop where
  n1 : 1 ≤ n
  n2 : n ≤ 120
  gl : gs.length = n
  cl : cs.length = n
  gb : ∀ k, k < n → 0 ≤ gs.getD k 0 ∧ gs.getD k 0 ≤ 10000
  cb : ∀ k, k < n → 0 ≤ cs.getD k 0 ∧ cs.getD k 0 ≤ 400000
theorem Gains.of {gs cs : List Int} {n : Nat} (h : gnB gs cs n = true) : Gains gs cs n := by
  unfold gnB at h
  rw [Bool.and_eq_true, Bool.and_eq_true, decide_eq_true_eq] at h
  obtain ⟨h1, h2, h3⟩ := h
  have a2 := are_yes h2
  have a3 := are_yes h3
  exact ⟨by omega, by omega, by omega, by omega, fun k hk => a2.2 k (by omega), fun k hk => a3.2 k (by omega)⟩
theorem fc_yes {f : Int} (h : fcB f = true) : 0 ≤ f ∧ f ≤ 60 := by simpa [fcB] using h
theorem worth_box {g c f : Int} (h1 : 0 ≤ g) (h2 : g ≤ 10000) (h3 : 0 ≤ c) (h4 : c ≤ 400000) (h5 : 0 ≤ f) (h6 : f ≤ 60) : 0 ≤ g * f ∧ g * f ≤ 600000 ∧ -400000 ≤ g * f - c ∧ g * f - c ≤ 600000 := by
  have a : 0 ≤ g * f := Int.mul_nonneg h1 h5
  have b : g * f ≤ 10000 * 60 := Int.mul_le_mul h2 h6 h5 (by omega)
  omega

/-! ### The program -/
set_option maxHeartbeats 1000000 in
theorem c_AreGains (gs cs : List Int) (v u : Value) (m : Int) (w : World) (l1 : gs.length ≤ 4000000) (l2 : cs.length ≤ 4000000) (h : Seen w v gs) (hu : Seen w u cs) :
    Calls Try.prog 15 #[v, u, .int .i64 m] w fun e w' => e = .returned (.bool (gnB gs cs m)) ∧ w = w' := by
  have CG := Lib.hid (c_areNumbers gs v m 10000 w l1 h)
  have CC := Lib.hid (c_areNumbers cs u m 400000 w l2 hu)
  obtain ⟨A, c, rfl⟩ := h.shape
  obtain ⟨A2, c2, rfl⟩ := hu.shape
  unfold gnB
  clear h hu
  generalize areB m 10000 gs = R at *
  generalize areB m 400000 cs = Q at *
  by_cases h1 : 1 ≤ m
  · have h1' : m ≥ 1 := h1
    by_cases h2 : m ≤ 120
    · rw [decide_eq_true ⟨h1, h2⟩, Bool.true_and]
      cases R
      · go_enter Try.func15, Try.ntmps15
        go_wp2_with fail
        refine CG.out.mono ?_
        rintro e w1 ⟨rfl, rfl⟩
        go_wp2
        go_ret
        exact ⟨rfl, rfl⟩
      · go_enter Try.func15, Try.ntmps15
        go_wp2_with fail
        refine CG.out.mono ?_
        rintro e w1 ⟨rfl, rfl⟩
        go_wp2_with fail
        refine CC.out.mono ?_
        rintro e w1 ⟨rfl, rfl⟩
        go_wp2
        go_ret
        exact ⟨rfl, rfl⟩
    · rw [decide_eq_false (fun e => h2 e.2), Bool.false_and]
      go_enter Try.func15, Try.ntmps15
      go_wp2
      go_ret
      exact ⟨rfl, rfl⟩
  · have h1' : ¬ m ≥ 1 := h1
    rw [decide_eq_false (fun e => h1 e.1), Bool.false_and]
    go_enter Try.func15, Try.ntmps15
    go_wp2
    go_ret
    exact ⟨rfl, rfl⟩

theorem c_isFactor (f : Int) (w : World) : Calls Try.prog 46 #[.int .i64 f] w fun e w' => e = .returned (.bool (fcB f)) ∧ w = w' := by
  unfold fcB
  by_cases h1 : 0 ≤ f
  · have h1' : f ≥ 0 := h1
    by_cases h2 : f ≤ 60
    · rw [decide_eq_true ⟨h1, h2⟩]
      go_enter Try.func46, Try.ntmps46
      go_wp2
      go_ret
      exact ⟨rfl, rfl⟩
    · rw [decide_eq_false (fun e => h2 e.2)]
      go_enter Try.func46, Try.ntmps46
      go_wp2
      go_ret
      exact ⟨rfl, rfl⟩
  · have h1' : ¬ f ≥ 0 := h1
    rw [decide_eq_false (fun e => h1 e.1)]
    go_enter Try.func46, Try.ntmps46
    go_wp2
    go_ret
    exact ⟨rfl, rfl⟩

theorem c_valueAt (g c f : Int) (w : World) (h1 : 0 ≤ g) (h2 : g ≤ 10000) (h3 : 0 ≤ c) (h4 : c ≤ 400000) (h5 : 0 ≤ f) (h6 : f ≤ 60) :
    Calls Try.prog 47 #[.int .i64 g, .int .i64 c, .int .i64 f] w fun e w' => e = .returned (.int .i64 (g * f - c)) ∧ w = w' := by
  obtain ⟨b1, b2, b3, b4⟩ := worth_box h1 h2 h3 h4 h5 h6
  have e1 : IntKind.i64.wrap (g * f) = g * f := IntWalk.i64_in _ (by omega)
  have e2 : IntKind.i64.wrap (g * f - c) = g * f - c := IntWalk.i64_in _ (by omega)
  go_enter Try.func47, Try.ntmps47
  go_wp2
  go_ret
  exact ⟨by first | rfl | (rw [e1, e2]) | (simp only [e1, e2]), rfl⟩

/-- A list of zeros is made. -/
theorem mk_ints (w : World) (n : Nat) (hn : n ≤ 4000000) : (Instr.makeSlice 22 (.int .i64 (n : Int)) (.int .i64 (n : Int))).run Try.prog w = .ok (.slice (some ⟨w.heap.size, 0, none⟩) n n) (w.alloc (.cells (madeCells #[.int .i64 0] n) 3)) := by
  obtain ⟨i0, hi0, hz0, hz1, hz2⟩ := info_parts int_info
  have := run_make (P := Try.prog) w 22 3 i0 (.int .i64 0) Try.underlying22 hi0 hz0 .i64 .i64 (n : Int) (n : Int) (by omega) (by omega) (by rw [hz2]; omega) (by omega)
  simpa [hz1, Value.cells] using this
set_option maxHeartbeats 2000000 in
set_option maxRecDepth 100000 in
theorem c_FactorValues (gs cs : List Int) (f : Int) (v u : Value) (w : World) (l1 : gs.length ≤ 4000000) (l2 : cs.length ≤ 4000000) (h : Seen w v gs) (hu : Seen w u cs) :
    Calls Try.prog 18 #[v, u, .int .i64 f] w (GivesRow2 w (fvA gs cs f) (fvB gs cs f)) := by
  have CG := Lib.hid (c_AreGains gs cs v u gs.length w l1 l2 h hu)
  have CF := Lib.hid (c_isFactor f w)
  obtain ⟨A, c, rfl, hm, hA⟩ := h
  obtain ⟨A2, c2, rfl, hm2, hA2⟩ := hu
  unfold fvA fvB
  cases hG : gnB gs cs gs.length
  · rw [hG] at CG
    rw [Bool.false_and, if_neg (by simp)]
    clear hA hA2 hG
    generalize gs.length = n at *
    generalize cs.length = n2 at *
    go_enter Try.func18, Try.ntmps18
    go_wp2_with fail
    refine CG.out.mono ?_
    rintro e w1 ⟨rfl, rfl⟩
    go_wp2
    go_ret2
    exact ⟨_, rfl, Row.nil _ _, Below.refl _ _⟩
  · rw [hG] at CG
    rw [Bool.true_and]
    cases hF : fcB f
    · rw [hF] at CF
      rw [if_neg (by simp)]
      clear hA hA2 hG hF
      generalize gs.length = n at *
      generalize cs.length = n2 at *
      go_enter Try.func18, Try.ntmps18
      go_wp2_with fail
      refine CG.out.mono ?_
      rintro e w1 ⟨rfl, rfl⟩
      go_wp2_with fail
      refine CF.out.mono ?_
      rintro e w1 ⟨rfl, rfl⟩
      go_wp2
      go_ret2
      exact ⟨_, rfl, Row.nil _ _, Below.refl _ _⟩
    · rw [hF] at CF
      rw [if_pos rfl]
      have G := Gains.of hG
      obtain ⟨f1, f2⟩ := fc_yes hF
      obtain ⟨b, off, rfl, hb, hc⟩ := hA (by have := G.n1; omega)
      obtain ⟨b2, off2, rfl, hb2, hc2⟩ := hA2 (by have := G.n1; have := G.cl; omega)
      have E1 : Hid (∀ k : Nat, k < gs.length → w.cell? ⟨b, off + k, none⟩ = some (.int .i64 (gs.getD k 0))) := hc
      have E2 : Hid (∀ k : Nat, k < gs.length → w.cell? ⟨b2, off2 + k, none⟩ = some (.int .i64 (cs.getD k 0))) := fun k hk => hc2 k (by have := G.cl; omega)
      have GB : Hid (∀ k : Nat, k < gs.length → 0 ≤ gs.getD k 0 ∧ gs.getD k 0 ≤ 10000) := G.gb
      have CB : Hid (∀ k : Nat, k < gs.length → 0 ≤ cs.getD k 0 ∧ cs.getD k 0 ≤ 400000) := G.cb
      have hcl : cs.length = gs.length := G.cl
      have n1 := G.n1
      have n2 := G.n2
      obtain ⟨ys, hys⟩ : ∃ ys, faL gs cs f = ys := ⟨_, rfl⟩
      have hyl : ys.length = gs.length := by rw [← hys, faL_len]
      have HV : Hid (∀ k, k < gs.length → ys.getD k 0 = gs.getD k 0 * f - cs.getD k 0) := fun k hk => by rw [← hys, faL_at hk]
      have HS : Hid (∀ j, j < gs.length → (half ys j).set j (ys.getD j 0) = half ys (j + 1)) := fun j hj => half_set ys j (by omega)
      have HL : Hid (∀ j, j ≤ gs.length → (half ys j).length = gs.length) := fun j hj => by rw [half_len ys j (by omega), hyl]
      have H0 : Hid (half ys 0 = List.replicate gs.length 0) := by show _ = _; rw [half_zero, hyl]
      have HN : Hid (half ys gs.length = ys) := by show _ = _; rw [← hyl]; exact half_all ys
      rw [hys]
      have HZ : Hid (Row (w.alloc (.cells (madeCells #[.int .i64 0] gs.length) 3)) w.heap.size (.slice (some ⟨w.heap.size, 0, none⟩) gs.length gs.length) (List.replicate gs.length 0)) := row_zeros w gs.length (by unfold maxLen; omega)
      have hbA : Hid (b < w.heap.size) := hb
      have hbB : Hid (b2 < w.heap.size) := hb2
      clear hc hc2 hA hA2 hG hF G hys hb hb2 hm hm2 l1 l2
      rw [hcl] at CG ⊢
      clear hcl
      generalize gs.length = n at *
      have hn0 : (0 : Int) ≤ (n : Int) := by omega
      go_enter Try.func18, Try.ntmps18
      go_wp2_with fail
      refine CG.out.mono ?_
      rintro e w1 ⟨rfl, rfl⟩
      go_wp2_with fail
      refine CF.out.mono ?_
      rintro e w1 ⟨rfl, rfl⟩
      have hmk := mk_ints w n (by omega)
      go_wp2_with fail
      clear hmk
      go_loopw [27] (fun i wr => ∃ k : Nat, k ≤ n ∧ i = .int .i64 k ∧ Row wr w.heap.size (.slice (some ⟨w.heap.size, 0, none⟩) n n) (half ys k) ∧ Below w.heap.size w wr) (fun i _ => n - (intOf i).toNat)
      case atStart => exact ⟨0, Nat.zero_le _, rfl, by rw [H0.out]; exact HZ.out, (Below.refl _ _).alloc (Nat.le_refl _) _⟩
      case round =>
        obtain ⟨k, hk, rfl, hr, hb⟩ := hrel
        have HR := Lib.hid hr
        have HB := Lib.hid hb
        clear hr hb
        by_cases hlt : k < n
        · have q0 : wr.cell? ⟨b, off + k, none⟩ = some (.int .i64 (gs.getD k 0)) := by rw [HB.out.cell (p := ⟨b, off + k, none⟩) hbA.out]; exact E1.out k hlt
          have q3 : wr.cell? ⟨b2, off2 + k, none⟩ = some (.int .i64 (cs.getD k 0)) := by rw [HB.out.cell (p := ⟨b2, off2 + k, none⟩) hbB.out]; exact E2.out k hlt
          have hkl : k < (half ys k).length := by rw [HL.out k hk]; exact hlt
          have q1 : wr.cell? ⟨w.heap.size, k, none⟩ = some (.int .i64 ((half ys k).getD k 0)) := by
            have hr := HR.out
            rw [← HL.out k hk] at hr
            exact hr.cell k hkl
          have q2 : wr.frozen? ⟨w.heap.size, k, none⟩ = false := by
            have hr := HR.out
            rw [← HL.out k hk] at hr
            exact hr.frozen k
          have N1 : Hid (Row (wr.setCell ⟨w.heap.size, k, none⟩ (.int .i64 (gs.getD k 0 * f - cs.getD k 0))) w.heap.size (.slice (some ⟨w.heap.size, 0, none⟩) n n) (half ys (k + 1)) ∧ wr.grownBy (wr.setCell ⟨w.heap.size, k, none⟩ (.int .i64 (gs.getD k 0 * f - cs.getD k 0))) (some w.heap.size)) := by
            have := Row.set_ (HL.out k hk).symm HR.out k (gs.getD k 0 * f - cs.getD k 0)
            rw [← HV.out k hlt, HS.out k hlt, HV.out k hlt] at this
            exact this
          have CV : Hid (∀ wz, Calls Try.prog 47 #[.int .i64 (gs.getD k 0), .int .i64 (cs.getD k 0), .int .i64 f] wz fun e w' => e = .returned (.int .i64 (gs.getD k 0 * f - cs.getD k 0)) ∧ wz = w') := fun wz => c_valueAt _ _ _ wz (GB.out k hlt).1 (GB.out k hlt).2 (CB.out k hlt).1 (CB.out k hlt).2 f1 f2
          generalize gs.getD k 0 * f - cs.getD k 0 = t at *
          generalize (half ys k).getD k 0 = z at q1
          generalize gs.getD k 0 = g at *
          generalize cs.getD k 0 = x at *
          have b1 : (0 : Int) ≤ (k : Int) := by omega
          have b3 : (k : Int) < (n : Int) := by omega
          clear hkl
          go_wp2_with fail
          refine (CV.out _).mono ?_
          rintro e w1 ⟨rfl, rfl⟩
          go_wp2
          go_roundw
          case rel => exact ⟨k + 1, by omega, by go_num, N1.out.1, HB.out.setCell (Nat.le_refl _) _⟩
          case measure => simp [intOf]; omega
        · obtain rfl : k = n := by omega
          go_wp2
          go_ret2
          exact ⟨_, rfl, by have := HR.out; rw [HN.out] at this; exact this, HB.out⟩

/-! ### The model -/
set_option maxHeartbeats 1000000 in
theorem c_neGains (gs cs : List Int) (v u : Value) (m : Int) (w : World) (l1 : gs.length ≤ 4000000) (l2 : cs.length ≤ 4000000) (h : Seen w v gs) (hu : Seen w u cs) :
    Calls Try.prog 42 #[v, u, .int .i64 m] w fun e w' => e = .returned (.bool (gnB gs cs m)) ∧ w = w' := by
  have CG := Lib.hid (c_l1All gs v 10000 w l1 h)
  have CC := Lib.hid (c_l1All cs u 400000 w l2 hu)
  obtain ⟨A, c, rfl⟩ := h.shape
  obtain ⟨A2, c2, rfl⟩ := hu.shape
  unfold gnB areB
  clear h hu
  generalize allB 10000 gs = R at *
  generalize allB 400000 cs = Q at *
  generalize gs.length = n at *
  generalize cs.length = n2 at *
  by_cases h1 : (1 : Int) ≤ m ∧ m ≤ 120
  · have H1 := Lib.hid (decide_eq_true h1)
    rw [decide_eq_true h1, Bool.true_and]
    clear h1
    by_cases e1 : (n : Int) = m
    · have e1' : ((n : Int) == m) = true := by simpa using e1
      rw [decide_eq_true e1, Bool.true_and]
      by_cases e2 : (n2 : Int) = m
      · have e2' : ((n2 : Int) == m) = true := by simpa using e2
        rw [decide_eq_true e2, Bool.true_and]
        cases R
        · go_enter Try.func42, Try.ntmps42
          go_wp2_with fail
          refine (c_l1In _ _ _ _).mono ?_
          rintro e w1 ⟨rfl, rfl⟩
          rw [H1.out]
          go_wp2_with fail
          refine CG.out.mono ?_
          rintro e w1 ⟨rfl, rfl⟩
          go_wp2
          go_ret
          exact ⟨rfl, rfl⟩
        · go_enter Try.func42, Try.ntmps42
          go_wp2_with fail
          refine (c_l1In _ _ _ _).mono ?_
          rintro e w1 ⟨rfl, rfl⟩
          rw [H1.out]
          go_wp2_with fail
          refine CG.out.mono ?_
          rintro e w1 ⟨rfl, rfl⟩
          go_wp2_with fail
          refine CC.out.mono ?_
          rintro e w1 ⟨rfl, rfl⟩
          go_wp2
          go_ret
          exact ⟨rfl, rfl⟩
      · have e2' : ((n2 : Int) == m) = false := by simpa using e2
        rw [decide_eq_false e2, Bool.false_and, Bool.and_false]
        go_enter Try.func42, Try.ntmps42
        go_wp2_with fail
        refine (c_l1In _ _ _ _).mono ?_
        rintro e w1 ⟨rfl, rfl⟩
        rw [H1.out]
        go_wp2
        go_ret
        exact ⟨rfl, rfl⟩
    · have e1' : ((n : Int) == m) = false := by simpa using e1
      rw [decide_eq_false e1, Bool.false_and, Bool.false_and]
      go_enter Try.func42, Try.ntmps42
      go_wp2_with fail
      refine (c_l1In _ _ _ _).mono ?_
      rintro e w1 ⟨rfl, rfl⟩
      rw [H1.out]
      go_wp2
      go_ret
      exact ⟨rfl, rfl⟩
  · have H1 := Lib.hid (decide_eq_false h1)
    rw [decide_eq_false h1, Bool.false_and]
    clear h1
    go_enter Try.func42, Try.ntmps42
    go_wp2_with fail
    refine (c_l1In _ _ _ _).mono ?_
    rintro e w1 ⟨rfl, rfl⟩
    rw [H1.out]
    go_wp2
    go_ret
    exact ⟨rfl, rfl⟩

set_option maxHeartbeats 400000 in
theorem c_AreGainsS (gs cs : List Int) (v u : Value) (m : Int) (w : World) (l1 : gs.length ≤ 4000000) (l2 : cs.length ≤ 4000000) (h : Seen w v gs) (hu : Seen w u cs) :
    Calls Try.prog 13 #[v, u, .int .i64 m] w fun e w' => e = .returned (.bool (gnB gs cs m)) ∧ w = w' := by
  have H1 := Lib.hid (c_neGains gs cs v u m w l1 l2 h hu)
  obtain ⟨A, c, rfl⟩ := h.shape
  obtain ⟨A2, c2, rfl⟩ := hu.shape
  clear h hu
  generalize gnB gs cs m = R at *
  go_enter Try.func13, Try.ntmps13
  go_wp2_with fail
  refine H1.out.mono ?_
  rintro e w1 ⟨rfl, rfl⟩
  go_wp2
  go_ret
  exact ⟨rfl, rfl⟩

set_option maxHeartbeats 400000 in
theorem c_neFactor (f : Int) (w : World) : Calls Try.prog 44 #[.int .i64 f] w fun e w' => e = .returned (.bool (fcB f)) ∧ w = w' := by
  have H1 := Lib.hid (c_l1In f 0 60 w)
  unfold fcB
  generalize decide (0 ≤ f ∧ f ≤ 60) = R at *
  go_enter Try.func44, Try.ntmps44
  go_wp2_with fail
  refine H1.out.mono ?_
  rintro e w1 ⟨rfl, rfl⟩
  go_wp2
  go_ret
  exact ⟨rfl, rfl⟩

set_option maxHeartbeats 4000000 in
set_option maxRecDepth 100000 in
theorem c_neValues (gs cs : List Int) (f : Int) (v u : Value) (w : World) (hG : gnB gs cs gs.length = true) (hF : fcB f = true) (h : Seen w v gs) (hu : Seen w u cs) :
    Calls Try.prog 45 #[v, u, .int .i64 f] w (GivesRow w (faL gs cs f)) := by
  obtain ⟨i0, hi0, hz0, hz1, hz2⟩ := info_parts int_info
  obtain ⟨A, c, rfl, hm, hA⟩ := h
  obtain ⟨A2, c2, rfl, hm2, hA2⟩ := hu
  have G := Gains.of hG
  obtain ⟨f1, f2⟩ := fc_yes hF
  obtain ⟨b, off, rfl, hb, hc⟩ := hA (by have := G.n1; omega)
  obtain ⟨b2, off2, rfl, hb2, hc2⟩ := hA2 (by have := G.n1; have := G.cl; omega)
  have E1 : Hid (∀ k : Nat, k < gs.length → w.cell? ⟨b, off + k, none⟩ = some (.int .i64 (gs.getD k 0))) := hc
  have E2 : Hid (∀ k : Nat, k < gs.length → w.cell? ⟨b2, off2 + k, none⟩ = some (.int .i64 (cs.getD k 0))) := fun k hk => hc2 k (by have := G.cl; omega)
  have GB : Hid (∀ k : Nat, k < gs.length → 0 ≤ gs.getD k 0 ∧ gs.getD k 0 ≤ 10000) := G.gb
  have CB : Hid (∀ k : Nat, k < gs.length → 0 ≤ cs.getD k 0 ∧ cs.getD k 0 ≤ 400000) := G.cb
  have hcl : cs.length = gs.length := G.cl
  have n1 := G.n1
  have n2 := G.n2
  obtain ⟨ys, hys⟩ : ∃ ys, faL gs cs f = ys := ⟨_, rfl⟩
  have hyl : ys.length = gs.length := by rw [← hys, faL_len]
  have HT : Hid (∀ k, k < gs.length → ys.take (k + 1) = ys.take k ++ [gs.getD k 0 * f - cs.getD k 0]) := fun k hk => by
    have : ys.getD k 0 = gs.getD k 0 * f - cs.getD k 0 := by rw [← hys, faL_at hk]
    rw [← this, List.take_succ_eq_append_getElem (by omega)]
    simp [List.getD_eq_getElem?_getD, hyl, hk]
  have HL : Hid (∀ j, j ≤ gs.length → (ys.take j).length = j) := fun j hj => by rw [List.length_take]; omega
  have HN : Hid (ys.take gs.length = ys) := by show _ = _; rw [← hyl]; exact List.take_length
  rw [hys]
  have hbA : Hid (b < w.heap.size) := hb
  have hbB : Hid (b2 < w.heap.size) := hb2
  have HI := Lib.hid hi0
  clear hc hc2 hA hA2 hG hF G hys hb hb2 hm hm2 hi0
  rw [hcl]
  clear hcl
  generalize gs.length = n at *
  go_enter Try.func45, Try.ntmps45
  go_wp2_with fail
  go_loopw [7, 12] (fun q i wr => ∃ k : Nat, k ≤ n ∧ i = .int .i64 k ∧ Row wr w.heap.size q (ys.take k) ∧ Below w.heap.size w wr) (fun _ i _ => n - (intOf i).toNat)
  case atStart => exact ⟨0, Nat.zero_le _, rfl, Row.nil _ _, Below.refl _ _⟩
  case round =>
    obtain ⟨k, hk, rfl, hr, hb⟩ := hrel
    have HR := Lib.hid hr
    have HB := Lib.hid hb
    clear hr hb
    by_cases hlt : k < n
    · have q0 : wr.cell? ⟨b, off + k, none⟩ = some (.int .i64 (gs.getD k 0)) := by rw [HB.out.cell (p := ⟨b, off + k, none⟩) hbA.out]; exact E1.out k hlt
      have q3 : wr.cell? ⟨b2, off2 + k, none⟩ = some (.int .i64 (cs.getD k 0)) := by rw [HB.out.cell (p := ⟨b2, off2 + k, none⟩) hbB.out]; exact E2.out k hlt
      obtain ⟨x1, x2, x3, x4⟩ := worth_box (GB.out k hlt).1 (GB.out k hlt).2 (CB.out k hlt).1 (CB.out k hlt).2 f1 f2
      have e1 : IntKind.i64.wrap (gs.getD k 0 * f) = gs.getD k 0 * f := IntWalk.i64_in _ (by omega)
      have e2 : IntKind.i64.wrap (gs.getD k 0 * f - cs.getD k 0) = gs.getD k 0 * f - cs.getD k 0 := IntWalk.i64_in _ (by omega)
      have HT1 := Lib.hid (HT.out k hlt)
      have hlen := HL.out k hk
      generalize gs.getD k 0 = g at *
      generalize cs.getD k 0 = x at *
      have b1 : (0 : Int) ≤ (k : Int) := by omega
      have b3 : (k : Int) < (n : Int) := by omega
      have sw := HB.out.size
      generalize ys.take k = Y at *
      go_wp2_with (at_builtin; refine wpList_append_own _ rfl _ _ 22 rfl (w.heap.size) 3 i0 (.int .i64 0) 1 8 Try.underlying22 HI.out hz0 hz1 hz2 rfl (by decide) _ _ _ rfl (World.ownsRow.alloc HR.out _) ⟨wr.heap.size, 0, none⟩ 1 1 [.int .i64 (g * f - x)] rfl rfl ?c1 ?c2 ?c3 ?c4 ?c5 ?_)
      case c1 =>
        intro j u hj
        match j, hj with
        | 0, hj => simp at hj; subst hj; simp [Addr.add]
      case c2 => intro u hu; simp at hu; subst hu; rfl
      case c3 => unfold maxLen; omega
      case c4 => omega
      case c5 => simp; omega
      intro v' w4 hown' hgrow _
      have R1 : Hid (Row w4 w.heap.size v' (ys.take (k + 1))) := by rw [HT1.out]; exact row_more (by rw [hlen]; exact hown')
      have R2 : Hid (Below w.heap.size w w4) := (HB.out.alloc sw _).grown hgrow (by simp; omega) (fun g hg => (World.ownsRow.lt HR.out g hg).1)
      clear hown' hgrow
      go_wp2
      go_roundw
      case rel => exact ⟨k + 1, by omega, by go_num, R1.out, R2.out⟩
      case measure => simp [intOf]; omega
    · obtain rfl : k = n := by omega
      go_wp2
      go_ret
      exact ⟨_, rfl, by have := HR.out; rw [HN.out] at this; exact this, HB.out⟩

set_option maxHeartbeats 1000000 in
theorem c_FactorValuesS (gs cs : List Int) (f : Int) (v u : Value) (w : World) (l1 : gs.length ≤ 4000000) (l2 : cs.length ≤ 4000000) (h : Seen w v gs) (hu : Seen w u cs) :
    Calls Try.prog 17 #[v, u, .int .i64 f] w (GivesRow2 w (fvA gs cs f) (fvB gs cs f)) := by
  have CG := Lib.hid (c_neGains gs cs v u gs.length w l1 l2 h hu)
  have CF := Lib.hid (c_neFactor f w)
  have CN : Hid (gnB gs cs gs.length = true → fcB f = true → Calls Try.prog 45 #[v, u, .int .i64 f] w (GivesRow w (faL gs cs f))) := fun a b => c_neValues gs cs f v u w a b h hu
  obtain ⟨A, c, rfl⟩ := h.shape
  obtain ⟨A2, c2, rfl⟩ := hu.shape
  unfold fvA fvB
  clear h hu l1 l2
  generalize faL gs cs f = X at *
  generalize gnB gs cs gs.length = R at *
  generalize fcB f = Q at *
  generalize gs.length = n at *
  generalize cs.length = n2 at *
  cases R
  · rw [Bool.false_and, if_neg (by simp)]
    go_enter Try.func17, Try.ntmps17
    go_wp2_with fail
    refine CG.out.mono ?_
    rintro e w1 ⟨rfl, rfl⟩
    go_wp2
    go_ret2
    exact ⟨_, rfl, Row.nil _ _, Below.refl _ _⟩
  · rw [Bool.true_and]
    cases Q
    · rw [if_neg (by simp)]
      go_enter Try.func17, Try.ntmps17
      go_wp2_with fail
      refine CG.out.mono ?_
      rintro e w1 ⟨rfl, rfl⟩
      go_wp2_with fail
      refine CF.out.mono ?_
      rintro e w1 ⟨rfl, rfl⟩
      go_wp2
      go_ret2
      exact ⟨_, rfl, Row.nil _ _, Below.refl _ _⟩
    · rw [if_pos rfl]
      have CN2 := Lib.hid (CN.out rfl rfl)
      clear CN
      go_enter Try.func17, Try.ntmps17
      go_wp2_with fail
      refine CG.out.mono ?_
      rintro e w1 ⟨rfl, rfl⟩
      go_wp2_with fail
      refine CF.out.mono ?_
      rintro e w1 ⟨rfl, rfl⟩
      go_wp2_with fail
      refine CN2.out.mono ?_
      rintro e w1 ⟨v1, rfl, hr, hb⟩
      have HR := Lib.hid hr
      have HB := Lib.hid hb
      clear hr hb
      go_wp2
      go_ret2
      exact ⟨_, rfl, HR.out, HB.out⟩
end Go.Proofs.Ytoakpepoopjlaaa
