/-
  Contracts: what is a flow, and its value, in the program and in the model of it.
-/
import Derived.Test.YtkdhjmidpijkeaaZS
namespace Go.Proofs.Ytkdhjmidpijkeaa
open Go.RowKit
set_option linter.unusedVariables false

/-- Are these flows; does the question have an answer. -/
def isfV (n : Int) (m : Nat) (xs fs : List Int) : Bool := netB n m xs && flowB n.toNat m xs fs
theorem isf_no {n : Int} {m : Nat} {xs fs : List Int} (h : netB n m xs = false) : isfV n m xs fs = false := by unfold isfV; rw [h]; rfl
theorem isf_yes {n : Int} {m : Nat} {xs fs : List Int} (h : netB n m xs = true) : isfV n m xs fs = flowB n.toNat m xs fs := by unfold isfV; rw [h]; rfl
def flvV (n : Int) (m : Nat) (xs fs : List Int) : Int := if isfV n m xs fs then balV xs fs 0 m else 0

set_option maxHeartbeats 2000000 in
theorem c_IsFlowS (n : Int) (m : Nat) (xs fs : List Int) (v u : Value) (w : World) (hw : -9223372036854775808 ≤ n ∧ n ≤ 9223372036854775807) (hm : m ≤ 1048576) (hl : fs.length ≤ 4000000) (h : SeenP w v m xs) (hu : Seen w u fs) :
    Calls Try.prog 26 #[.int .i64 n, v, u] w fun e w' => e = .returned (.tuple #[.bool (isfV n m xs fs), .bool (netB n m xs)]) ∧ Below w.heap.size w w' := by
  have C0 := Lib.hid (c_mfGood n m xs v w hm hw h)
  have HS := Lib.hid h
  have HU := Lib.hid hu
  obtain ⟨A, c, rfl, _, _, _⟩ := h
  obtain ⟨A2, c2, rfl⟩ := hu.shape
  clear hu hw
  cases hn : netB n m xs
  · rw [isf_no hn]
    rw [hn] at C0
    clear hn
    go_enter Try.func26, Try.ntmps26
    go_wp2_with fail
    refine C0.out.mono ?_
    rintro e w1 ⟨rfl, hb⟩
    have HB := Lib.hid hb
    clear hb
    go_wp2
    go_ret2
    exact ⟨rfl, HB.out⟩
  · rw [isf_yes hn]
    obtain ⟨N, rfl⟩ := Int.eq_ofNat_of_zero_le (show 0 ≤ n by have := net_true hn; omega)
    rw [Int.toNat_natCast]
    have HN := Lib.hid hn
    rw [hn] at C0
    clear hn
    go_enter Try.func26, Try.ntmps26
    go_wp2_with fail
    refine C0.out.mono ?_
    rintro e w1 ⟨rfl, hb⟩
    have HB := Lib.hid hb
    have HU1 := Lib.hid (HU.out.below hb)
    have HS1 := Lib.hid (HS.out.below hb)
    clear hb
    go_wp2_with fail
    refine (c_mfFlows N m xs fs _ _ w1 HN.out hl HS1.out HU1.out).mono ?_
    rintro e w2 ⟨rfl, hb⟩
    have HB2 : Hid (Below w.heap.size w w2) := HB.out.trans (hb.mono HB.out.size)
    clear hb
    go_wp2
    go_ret2
    exact ⟨rfl, HB2.out⟩

set_option maxHeartbeats 4000000 in
theorem c_IsFlow (n : Int) (m : Nat) (xs fs : List Int) (v u : Value) (w : World) (hm : m ≤ 1048576) (hl : fs.length ≤ 4000000) (h : SeenP w v m xs) (hu : Seen w u fs) :
    Calls Try.prog 25 #[.int .i64 n, v, u] w fun e w' => e = .returned (.tuple #[.bool (isfV n m xs fs), .bool (netB n m xs)]) ∧ Below w.heap.size w w' := by
  have C0 := Lib.hid (c_IsNetwork n m xs v w hm h)
  have HS := Lib.hid h
  have HU := Lib.hid hu
  obtain ⟨A, c, rfl, _, _, _⟩ := h
  obtain ⟨A2, c2, rfl⟩ := hu.shape
  clear hu
  cases hn : netB n m xs
  · rw [isf_no hn]
    rw [hn] at C0
    clear hn
    go_enter Try.func25, Try.ntmps25
    go_wp2_with fail
    refine C0.out.mono ?_
    rintro e w1 ⟨rfl, hb⟩
    have HB := Lib.hid hb
    clear hb
    go_wp2
    go_ret2
    exact ⟨rfl, HB.out⟩
  · rw [isf_yes hn]
    obtain ⟨N, rfl⟩ := Int.eq_ofNat_of_zero_le (show 0 ≤ n by have := net_true hn; omega)
    rw [Int.toNat_natCast]
    have HN := Lib.hid hn
    obtain ⟨n1, n2, n3, _⟩ := net_true hn
    rw [hn] at C0
    clear hn
    cases hf : fitB m xs fs
    · have G : Hid (flowB N m xs fs = false) := by show _ = _; unfold flowB; rw [hf]; rfl
      rw [G.out]
      have HF := Lib.hid hf
      clear hf
      go_enter Try.func25, Try.ntmps25
      go_wp2_with fail
      refine C0.out.mono ?_
      rintro e w1 ⟨rfl, hb⟩
      have HB := Lib.hid hb
      have HU1 := Lib.hid (HU.out.below hb)
      have HS1 := Lib.hid (HS.out.below hb)
      clear hb
      go_wp2_with fail
      refine (c_areWithinCaps m xs fs _ _ w1 n3 hl HS1.out HU1.out).mono ?_
      rintro e w2 ⟨rfl, rfl⟩
      rw [HF.out]
      go_wp2
      go_ret2
      exact ⟨rfl, HB.out⟩
    · have HF := Lib.hid hf
      have HG : Hid (flowB N m xs fs = allB 0 (subL N (balL 1 N xs fs m))) := by show _ = _; unfold flowB; rw [hf]; rfl
      have BL : Hid (N = (balL 1 N xs fs m).length) := (balL_len 1 N xs fs m).symm
      have SL : Hid ((subL N (balL 1 N xs fs m)).length = N - 1 - 1) := by show _ = _; unfold subL; rw [List.length_take, List.length_drop, balL_len]; omega
      have A0 : Hid (∀ k, k < (subL N (balL 1 N xs fs m)).length → ¬ ((subL N (balL 1 N xs fs m)).getD k 0 = 0) → flowB N m xs fs = false) := fun k hk h => by rw [HG.out]; exact all_false hk (by omega)
      have A1 : Hid ((∀ k, k < (subL N (balL 1 N xs fs m)).length → (subL N (balL 1 N xs fs m)).getD k 0 = 0) → flowB N m xs fs = true) := fun h => by rw [HG.out]; exact all_true fun k hk => by rw [h k hk]; omega
      clear hf HG
      generalize flowB N m xs fs = R at *
      go_enter Try.func25, Try.ntmps25
      go_wp2_with fail
      refine C0.out.mono ?_
      rintro e w1 ⟨rfl, hb⟩
      have HB := Lib.hid hb
      have HU1 := Lib.hid (HU.out.below hb)
      have HS1 := Lib.hid (HS.out.below hb)
      clear hb
      go_wp2_with fail
      refine (c_areWithinCaps m xs fs _ _ w1 n3 hl HS1.out HU1.out).mono ?_
      rintro e w2 ⟨rfl, rfl⟩
      rw [HF.out]
      go_wp2_with fail
      refine (c_balancesOf N m xs fs _ _ w1 HN.out HF.out HS1.out HU1.out).mono ?_
      rintro e w2 ⟨v2, rfl, hr, hb⟩
      have HB2 : Hid (Below w.heap.size w w2) := HB.out.trans (hb.mono HB.out.size)
      obtain ⟨g, c3, rfl, _, _⟩ := hr.form (by rw [← BL.out]; omega)
      rw [← BL.out] at hr ⊢
      obtain ⟨hc3⟩ : Nonempty (N ≤ c3) := by
        rcases hr.2 with ⟨h3, _⟩ | ⟨g', cap, cur, h3, _, _, h4, _⟩
        · simp at h3
        · simp at h3
          exact ⟨by rw [← BL.out] at h4; omega⟩
      have HSub := Lib.hid (row_sub hr BL.out (by omega))
      clear hr hb
      generalize subL N (balL 1 N xs fs m) = sl at *
      have i1 : (1 : Int) ≤ (N : Int) - 1 := by omega
      have i2 : (N : Int) - 1 ≤ (c3 : Int) := by omega
      go_wp2_with fail
      have hq2 : N - 1 - 1 ≤ 130 := by omega
      generalize hq : N - 1 - 1 = q at *
      clear hq
      go_loop [26] (fun i => ∃ k : Nat, k ≤ q ∧ i = .int .i64 k ∧ ∀ j, j < k → sl.getD j 0 = 0) (fun i => q - (RowKit.intOf i).toNat)
      case atStart => exact ⟨0, Nat.zero_le _, rfl, fun j hj => by omega⟩
      case round =>
        obtain ⟨k, hk, rfl, hP⟩ := hrel
        have HP := Lib.hid hP
        clear hP
        by_cases hlt : k < q
        · obtain ⟨b, o, c', e2, _, q0⟩ := HSub.out.at_ (k := k) (by rw [SL.out]; exact hlt)
          simp at e2
          obtain ⟨⟨rfl, rfl⟩, he2⟩ := e2
          clear he2
          have A0k := Lib.hid (A0.out k (by rw [SL.out]; exact hlt))
          have b1 : (0 : Int) ≤ (k : Int) := by omega
          have b2 : (k : Int) < (q : Int) := by omega
          by_cases hx : sl.getD k 0 = 0
          · have HP2 : Hid (∀ j, j < k + 1 → sl.getD j 0 = 0) := fun j hj => by
              by_cases e : j = k
              · subst e; exact hx
              · exact HP.out j (by omega)
            rw [hx] at q0
            clear hx
            go_wp2
            go_round
            case rel => exact ⟨k + 1, by omega, by go_num, HP2.out⟩
            case measure => simp [RowKit.intOf]; omega
          · have G := Lib.hid (A0k.out hx)
            have hx' : (sl.getD k 0 != 0) = true := by simpa using hx
            clear hx
            generalize sl.getD k 0 = x at *
            go_wp2
            go_ret2
            exact ⟨by rw [G.out]; rfl, HB2.out⟩
        · obtain rfl : k = q := by omega
          have G := Lib.hid (A1.out fun j hj => HP.out j (by rw [SL.out] at hj; exact hj))
          go_wp2
          go_ret2
          exact ⟨by rw [G.out]; rfl, HB2.out⟩

set_option maxHeartbeats 2000000 in
theorem c_FlowValue (n : Int) (m : Nat) (xs fs : List Int) (v u : Value) (w : World) (hm : m ≤ 1048576) (hl : fs.length ≤ 4000000) (h : SeenP w v m xs) (hu : Seen w u fs) :
    Calls Try.prog 27 #[.int .i64 n, v, u] w fun e w' => e = .returned (.tuple #[.int .i64 (flvV n m xs fs), .bool (isfV n m xs fs)]) ∧ Below w.heap.size w w' := by
  have C0 := Lib.hid (c_IsFlow n m xs fs v u w hm hl h hu)
  have HS := Lib.hid h
  have HU := Lib.hid hu
  obtain ⟨A, c, rfl, _, _, _⟩ := h
  obtain ⟨A2, c2, rfl⟩ := hu.shape
  clear hu
  cases hv : isfV n m xs fs
  · have HV : Hid (flvV n m xs fs = 0) := by show _ = _; unfold flvV; rw [hv]; rfl
    rw [HV.out]
    rw [hv] at C0
    clear hv
    go_enter Try.func27, Try.ntmps27
    go_wp2_with fail
    refine C0.out.mono ?_
    rintro e w1 ⟨rfl, hb⟩
    have HB := Lib.hid hb
    clear hb
    go_wp2
    go_ret2
    exact ⟨rfl, HB.out⟩
  · have HV : Hid (flvV n m xs fs = balV xs fs 0 m) := by show _ = _; unfold flvV; rw [hv]; rfl
    rw [HV.out]
    rw [hv] at C0
    have hn : netB n m xs = true := by unfold isfV at hv; simp only [Bool.and_eq_true] at hv; exact hv.1
    have hf : fitB m xs fs = true := by
      unfold isfV flowB at hv
      simp only [Bool.and_eq_true] at hv
      exact hv.2.1
    obtain ⟨N, rfl⟩ := Int.eq_ofNat_of_zero_le (show 0 ≤ n by have := net_true hn; omega)
    have hN2 : 2 ≤ N := by have := net_true hn; omega
    have HN := Lib.hid hn
    have HF := Lib.hid hf
    have BL : Hid (N = (balL 1 N xs fs m).length) := (balL_len 1 N xs fs m).symm
    have BA : Hid ((balL 1 N xs fs m).getD 0 0 = balV xs fs 0 m) := by show _ = _; rw [balL_at _ _ _ _ (by omega), Int.one_mul]; rfl
    clear hv hn hf
    go_enter Try.func27, Try.ntmps27
    go_wp2_with fail
    refine C0.out.mono ?_
    rintro e w1 ⟨rfl, hb⟩
    have HB := Lib.hid hb
    have HU1 := Lib.hid (HU.out.below hb)
    have HS1 := Lib.hid (HS.out.below hb)
    clear hb
    go_wp2_with fail
    refine (c_balancesOf N m xs fs _ _ w1 HN.out HF.out HS1.out HU1.out).mono ?_
    rintro e w2 ⟨v2, rfl, hr, hb⟩
    have HB2 : Hid (Below w.heap.size w w2) := HB.out.trans (hb.mono HB.out.size)
    obtain ⟨g, c3, rfl, _, _⟩ := hr.form (by rw [← BL.out]; omega)
    have p0 := hr.cell 0 (by rw [← BL.out]; omega)
    rw [BA.out] at p0
    rw [← BL.out] at hr ⊢
    have b1 : (0 : Int) < (N : Int) := by omega
    clear hr hb
    go_wp2
    go_ret2
    exact ⟨rfl, HB2.out⟩

theorem balV_step (xs fs : List Int) (k : Nat) : balV xs fs 0 (k + 1) = balV xs fs 0 k + (if xs.getD (k * 3) 0 = 0 then fs.getD k 0 else 0) - (if xs.getD (k * 3 + 1) 0 = 0 then fs.getD k 0 else 0) := by
  have e : balV xs fs 0 (k + 1) = balV xs fs 0 k + trm xs fs 0 k := rfl
  rw [e]
  unfold trm
  by_cases h1 : xs.getD (k * 3) 0 = 0
  · rw [decide_eq_true h1, if_pos h1]
    by_cases h2 : xs.getD (k * 3 + 1) 0 = 0
    · rw [decide_eq_true h2, if_pos h2]; simp [io]
    · rw [decide_eq_false h2, if_neg h2]; simp [io]
  · rw [decide_eq_false h1, if_neg h1]
    by_cases h2 : xs.getD (k * 3 + 1) 0 = 0
    · rw [decide_eq_true h2, if_pos h2]; simp [io, Int.mul_neg]; omega
    · rw [decide_eq_false h2, if_neg h2]; simp [io]

set_option maxHeartbeats 4000000 in
theorem c_FlowValueS (n : Int) (m : Nat) (xs fs : List Int) (v u : Value) (w : World) (hw : -9223372036854775808 ≤ n ∧ n ≤ 9223372036854775807) (hm : m ≤ 1048576) (hl : fs.length ≤ 4000000) (h : SeenP w v m xs) (hu : Seen w u fs) :
    Calls Try.prog 28 #[.int .i64 n, v, u] w fun e w' => e = .returned (.tuple #[.int .i64 (flvV n m xs fs), .bool (isfV n m xs fs)]) ∧ Below w.heap.size w w' := by
  have C0 := Lib.hid (c_mfGood n m xs v w hm hw h)
  have HS := Lib.hid h
  have HU := Lib.hid hu
  obtain ⟨A, c, rfl, _, _, hA⟩ := h
  have E0 : Hid (∀ k : Nat, k < m → ∃ b off, A = some ⟨b, off, none⟩ ∧ b < w.heap.size ∧ ∀ j : Nat, j < m * 3 → w.cell? ⟨b, off + j, none⟩ = some (.int .i64 (xs.getD j 0))) := fun k hk => hA (by omega)
  obtain ⟨A2, c2, rfl⟩ := hu.shape
  clear hu hw hA
  cases hn : netB n m xs
  · have HV : Hid (flvV n m xs fs = 0) := by show _ = _; unfold flvV; rw [isf_no hn]; rfl
    rw [isf_no hn, HV.out]
    rw [hn] at C0
    clear hn
    go_enter Try.func28, Try.ntmps28
    go_wp2_with fail
    refine C0.out.mono ?_
    rintro e w1 ⟨rfl, hb⟩
    have HB := Lib.hid hb
    clear hb
    go_wp2
    go_ret2
    exact ⟨rfl, HB.out⟩
  · have HI := Lib.hid (isf_yes (fs := fs) hn)
    obtain ⟨N, rfl⟩ := Int.eq_ofNat_of_zero_le (show 0 ≤ n by have := net_true hn; omega)
    rw [Int.toNat_natCast] at HI
    obtain ⟨_, _, n3, hE⟩ := net_true hn
    have HN := Lib.hid hn
    rw [hn] at C0
    clear hn
    cases hf : flowB N m xs fs
    · have HV : Hid (flvV N m xs fs = 0) := by show _ = _; unfold flvV; rw [HI.out, hf]; rfl
      rw [HV.out, HI.out, hf]
      have HF := Lib.hid hf
      clear hf
      go_enter Try.func28, Try.ntmps28
      go_wp2_with fail
      refine C0.out.mono ?_
      rintro e w1 ⟨rfl, hb⟩
      have HB := Lib.hid hb
      have HU1 := Lib.hid (HU.out.below hb)
      have HS1 := Lib.hid (HS.out.below hb)
      clear hb
      go_wp2_with fail
      refine (c_mfFlows N m xs fs _ _ w1 HN.out hl HS1.out HU1.out).mono ?_
      rintro e w2 ⟨rfl, hb⟩
      have HB2 : Hid (Below w.heap.size w w2) := HB.out.trans (hb.mono HB.out.size)
      clear hb
      rw [HF.out]
      go_wp2
      go_ret2
      exact ⟨rfl, HB2.out⟩
    · have HV : Hid (flvV N m xs fs = balV xs fs 0 m) := by show _ = _; unfold flvV; rw [HI.out, hf]; rfl
      rw [HV.out, HI.out, hf]
      have HF := Lib.hid hf
      obtain ⟨hlen, hfit⟩ := fit_true (show fitB m xs fs = true by unfold flowB at hf; simp only [Bool.and_eq_true] at hf; exact hf.1)
      have HL := Lib.hid hlen
      have EB : Hid (∀ k : Nat, k < m → edgB N (xs.getD (k * 3) 0) (xs.getD (k * 3 + 1) 0) (xs.getD (k * 3 + 2) 0) = true) := fun k hk => edgAll_at hE hk
      have FT : Hid (FitTo xs fs m) := hfit
      have BI : Hid (∀ k : Nat, k ≤ m → -(k * 1000000000) ≤ balV xs fs 0 k ∧ balV xs fs 0 k ≤ k * 1000000000) := fun k hk => bal_in hE 0 hk fun j hj => hfit j (by omega)
      have BS : Hid (∀ k, balV xs fs 0 (k + 1) = balV xs fs 0 k + (if xs.getD (k * 3) 0 = 0 then fs.getD k 0 else 0) - (if xs.getD (k * 3 + 1) 0 = 0 then fs.getD k 0 else 0)) := balV_step xs fs
      have B0 : Hid (balV xs fs 0 0 = 0) := rfl
      clear hf hlen hfit hE HV HI
      generalize balV xs fs 0 = F at *
      go_enter Try.func28, Try.ntmps28
      go_wp2_with fail
      refine C0.out.mono ?_
      rintro e w1 ⟨rfl, hb⟩
      have HB := Lib.hid hb
      have HU1 := Lib.hid (HU.out.below hb)
      have HS1 := Lib.hid (HS.out.below hb)
      clear hb
      go_wp2_with fail
      refine (c_mfFlows N m xs fs _ _ w1 HN.out hl HS1.out HU1.out).mono ?_
      rintro e w2 ⟨rfl, hb⟩
      have HB2 : Hid (Below w.heap.size w w2) := HB.out.trans (hb.mono HB.out.size)
      clear hb
      rw [HF.out]
      go_wp2_with fail
      go_loopw [8, 24] (fun q i wr => ∃ k : Nat, k ≤ m ∧ i = .int .i64 k ∧ q = .int .i64 (F k) ∧ Below w.heap.size w wr) (fun _ i _ => m - (RowKit.intOf i).toNat)
      case atStart => exact ⟨0, Nat.zero_le _, rfl, by rw [B0.out], HB2.out⟩
      case round =>
        obtain ⟨k, hk, rfl, rfl, hb⟩ := hrel
        have HBr := Lib.hid hb
        clear hb
        by_cases hlt : k < m
        · obtain ⟨b, off, rfl, hbl, hc⟩ := E0.out k hlt
          have q0 : wr.cell? ⟨b, off + k * 3, none⟩ = some (.int .i64 (xs.getD (k * 3) 0)) := by rw [HBr.out.cell (p := ⟨b, off + k * 3, none⟩) hbl]; exact hc _ (by omega)
          have q1 : wr.cell? ⟨b, off + k * 3 + 1, none⟩ = some (.int .i64 (xs.getD (k * 3 + 1) 0)) := by rw [HBr.out.cell (p := ⟨b, off + k * 3 + 1, none⟩) hbl]; exact hc (k * 3 + 1) (by omega)
          have q2 : wr.cell? ⟨b, off + k * 3 + 2, none⟩ = some (.int .i64 (xs.getD (k * 3 + 2) 0)) := by rw [HBr.out.cell (p := ⟨b, off + k * 3 + 2, none⟩) hbl]; exact hc (k * 3 + 2) (by omega)
          obtain ⟨b2, o2, c2', e2, hb2l, q3'⟩ := HU.out.at_ (k := k) (by rw [HL.out]; exact hlt)
          simp at e2
          obtain ⟨rfl, he2⟩ := e2
          clear he2
          have q3 : wr.cell? ⟨b2, o2 + k, none⟩ = some (.int .i64 (fs.getD k 0)) := by rw [HBr.out.cell (p := ⟨b2, o2 + k, none⟩) hb2l]; exact q3'
          have hb2r : b2 < wr.heap.size := Nat.lt_of_lt_of_le hb2l HBr.out.size
          obtain ⟨f1, f2, f3, f4, f5, f6⟩ := edg_true (EB.out k hlt)
          have ft := FT.out k hlt
          obtain ⟨s1, s2⟩ := BI.out k (by omega)
          have BSk := Lib.hid (BS.out k)
          clear hc hbl q3'
          generalize xs.getD (k * 3) 0 = f at *
          generalize xs.getD (k * 3 + 1) 0 = t at *
          generalize xs.getD (k * 3 + 2) 0 = r at *
          generalize fs.getD k 0 = d at *
          have b1 : (0 : Int) ≤ (k : Int) := by omega
          have b2' : (k : Int) < (m : Int) := by omega
          have b3 : (k : Int) < (fs.length : Int) := by have := HL.out; omega
          have b4 : k < fs.length := by omega
          have HBa : Hid (Below w.heap.size w (wr.alloc (.cells #[.int .i64 f, .int .i64 t, .int .i64 r] 47))) := HBr.out.alloc HBr.out.size _
          by_cases hf0 : f = 0
          · subst hf0
            by_cases ht0 : t = 0
            · subst ht0
              have G : Hid (F (k + 1) = F k + d - d) := by rw [Hid, BSk.out]; simp
              go_wp2
              go_roundw
              case rel => exact ⟨k + 1, by omega, by go_num, by rw [G.out]; simp, HBa.out⟩
              case measure => simp [RowKit.intOf]; omega
            · have G : Hid (F (k + 1) = F k + d) := by rw [Hid, BSk.out, if_neg ht0]; simp
              have ht' : (t == 0) = false := beq_eq_false_iff_ne.2 ht0
              clear ht0
              go_wp2
              go_roundw
              case rel => exact ⟨k + 1, by omega, by go_num, by rw [G.out], HBa.out⟩
              case measure => simp [RowKit.intOf]; omega
          · have hf' : (f == 0) = false := beq_eq_false_iff_ne.2 hf0
            by_cases ht0 : t = 0
            · subst ht0
              have G : Hid (F (k + 1) = F k - d) := by rw [Hid, BSk.out, if_neg hf0]; simp
              clear hf0
              go_wp2
              go_roundw
              case rel => exact ⟨k + 1, by omega, by go_num, by rw [G.out], HBa.out⟩
              case measure => simp [RowKit.intOf]; omega
            · have G : Hid (F (k + 1) = F k) := by rw [Hid, BSk.out, if_neg hf0, if_neg ht0]; simp
              have ht' : (t == 0) = false := beq_eq_false_iff_ne.2 ht0
              clear hf0 ht0
              go_wp2
              go_roundw
              case rel => exact ⟨k + 1, by omega, by go_num, by rw [G.out], HBa.out⟩
              case measure => simp [RowKit.intOf]; omega
        · obtain rfl : k = m := by omega
          go_wp2
          go_ret2
          exact ⟨rfl, HBr.out⟩

end Go.Proofs.Ytkdhjmidpijkeaa
