/-
  Contracts: CountClosures of the model.
-/
import Derived.Test.YtffknfgejoejoaaNK2
import Derived.Test.YtffknfgejoejoaaNK3
import Derived.Test.YtffknfgejoejoaaNF
namespace Go.Proofs.Ytffknfgejoejoaa
open Go.RowKit
set_option linter.unusedVariables false

theorem i64_and_nat (a b : Nat) (ha : a < 4294967296) (hb : b < 4294967296) : bits .and .i64 (a : Int) (b : Int) = ((a &&& b : Nat) : Int) := by
  have h : a &&& b ≤ a := Nat.and_le_left
  show IntKind.i64.wrap ((BitVec.ofInt 64 (a : Int) &&& BitVec.ofInt 64 (b : Int)).toNat : Int) = _
  rw [BitVec.toNat_and, ofInt_u64 a (by omega), ofInt_u64 b (by omega)]
  exact IntWalk.i64_in _ (by omega)
theorem i64_or_nat (a b : Nat) (ha : a < 2 ^ 32) (hb : b < 2 ^ 32) : bits .or .i64 (a : Int) (b : Int) = ((a ||| b : Nat) : Int) := by
  have h : a ||| b < 2 ^ 32 := Nat.or_lt_two_pow ha hb
  show IntKind.i64.wrap ((BitVec.ofInt 64 (a : Int) ||| BitVec.ofInt 64 (b : Int)).toNat : Int) = _
  rw [BitVec.toNat_or, ofInt_u64 a (by omega), ofInt_u64 b (by omega)]
  exact IntWalk.i64_in _ (by omega)
theorem i64_shl1 (l : Nat) (h : l < 32) : IntKind.i64.wrap ((2 : Int) ^ l) = ((2 ^ l : Nat) : Int) := by
  have h1 : 2 ^ l < 2 ^ 32 := Nat.pow_lt_pow_right (by omega) h
  have : ((2 : Int) ^ l) = ((2 ^ l : Nat) : Int) := by push_cast; rfl
  rw [this]
  generalize 2 ^ l = z at *
  exact IntWalk.i64_in _ (by omega)
theorem i64_bit (s t : Nat) (hs : s < 4294967296) : bits .and .i64 ((s : Int) / 2 ^ t) 1 = if s.testBit t = true then 1 else 0 := by
  have e : ((s : Int) / 2 ^ t) = ((s / 2 ^ t : Nat) : Int) := by push_cast; rfl
  have hd : s / 2 ^ t ≤ s := Nat.div_le_self _ _
  have := i64_and_nat (s / 2 ^ t) 1 (by omega) (by omega)
  rw [e]
  refine this.trans ?_
  rw [nat_mask1, Nat.testBit_eq_decide_div_mod_eq]
  have h2 : s / 2 ^ t % 2 = 0 ∨ s / 2 ^ t % 2 = 1 := by omega
  rcases h2 with h2 | h2 <;> simp [h2]
/-- The rows of what is right above after k of them and t bits of the next. -/
def upF (up : Nat → Nat) (l : List Int) (k t j : Nat) : Nat := if j < k then up j else if j = k then bitsT l t else 0

set_option maxHeartbeats 8000000 in
set_option maxRecDepth 100000 in
theorem c_CountClosuresS (xss : List (List Int)) (v : Value) (w : World) (hs : ShortL xss) (h : SeenL w v xss) :
    Calls Try.prog 44 #[v] w fun e w' => e = .returned (.tuple #[.int .i64 (cloV xss), .bool (cloB xss)]) ∧ Below w.heap.size w w' := by
  have C0 := Lib.hid (c_clArcs xss v w hs h)
  cases hv : arcB xss
  · have e1 : cloB xss = false := by unfold cloB; rw [hv]; rfl
    have e2 : cloV xss = 0 := by unfold cloV cloN; rw [e1]; rfl
    rw [hv] at C0
    rw [e1, e2]
    obtain ⟨A, c, rfl, _⟩ := h.shape
    clear h hs hv e1 e2
    go_enter Try.func44, Try.ntmps44
    go_wp2_with fail
    refine C0.out.mono ?_
    rintro e w1 ⟨rfl, rfl⟩
    go_wp2
    go_ret2
    exact ⟨rfl, Below.refl _ _⟩
  · rw [hv] at C0
    have hN := arc_len hv
    by_cases h20 : xss.length ≤ 20
    case neg =>
      have e1 : cloB xss = false := by unfold cloB; rw [hv, decide_eq_false h20]; rfl
      have e2 : cloV xss = 0 := by unfold cloV cloN; rw [e1]; rfl
      rw [e1, e2]
      obtain ⟨A, c, rfl, _⟩ := h.shape
      clear h hs hv e1 e2
      have h21 : (20 : Int) < (xss.length : Int) := by omega
      go_enter Try.func44, Try.ntmps44
      go_wp2_with fail
      refine C0.out.mono ?_
      rintro e w1 ⟨rfl, rfl⟩
      go_wp2
      go_ret2
      exact ⟨rfl, Below.refl _ _⟩
    case pos =>
    have e1 : cloB xss = true := cloB_iff.2 ⟨hv, h20⟩
    have e2 : cloV xss = ((cntP (closN xss xss.length) (2 ^ xss.length) : Nat) : Int) := by rw [cnt_same e1]; rfl
    rw [e1, e2]
    obtain ⟨i0, hi0, hz0, hz1, hz2⟩ := info_parts int_info
    have hp20 : 2 ^ xss.length ≤ 1048576 := Nat.pow_le_pow_right (n := 2) (by omega) h20
    have HCL : Hid (∀ k, k < xss.length → InN xss.length (xss.getD k [])) := fun k hk => arc_in hv hk
    have HCN : Hid (∀ k, k < xss.length → (xss.getD k []).length ≤ 120) := fun k hk => arc_slen hv hk
    have HCO : Hid (∀ k, bitsT (xss.getD k []) (xss.getD k []).length = upN xss k) := fun k => rfl
    have HUL : Hid (∀ k, k < xss.length → upN xss k < 2 ^ xss.length) := fun k hk => bitsT_lt (arc_in hv hk) _ (Nat.le_refl _)
    have HYE : Hid (∀ s, (∀ i, i < xss.length → s.testBit i = true → s &&& upN xss i = upN xss i) → closN xss xss.length s = true) := fun s hh => closN_iff.2 hh
    have HNO : Hid (∀ s i, i < xss.length → s.testBit i = true → s &&& upN xss i ≠ upN xss i → closN xss xss.length s = false) := fun s i hi hb hh => by
      rw [Bool.eq_false_iff]
      exact fun h => hh (closN_iff.1 h i hi hb)
    have u1 : IntKind.i64.wrap ((2 : Int) ^ xss.length) = ((2 ^ xss.length : Nat) : Int) := i64_shl1 _ (by omega)
    obtain ⟨A, c, rfl, _⟩ := h.shape
    have ER : Hid (∀ k, k < xss.length → ∃ b off A' c', A = some ⟨b, off, none⟩ ∧ ∀ u, Below w.heap.size w u → u.cell? ⟨b, off + k, none⟩ = some (.slice A' (xss.getD k []).length c') ∧ Seen u (.slice A' (xss.getD k []).length c') (xss.getD k [])) := fun k hk => h.row2 hk
    clear h hs hv e1 e2
    generalize closN xss xss.length = cl at *
    generalize upN xss = up at *
    generalize hP : 2 ^ xss.length = P at *
    generalize hn : xss.length = N at *
    have HNn := Lib.hid hn
    have HPp := Lib.hid hP
    clear hn hP
    have HS0 : Hid (cntP cl 0 = 0) := rfl
    have HS1 : Hid (∀ s, cl s = true → cntP cl (s + 1) = cntP cl s + 1) := fun s => cntP_yes
    have HS2 : Hid (∀ s, cl s = false → cntP cl (s + 1) = cntP cl s) := fun s => cntP_no
    have HS3 : Hid (∀ s, cntP cl s ≤ s) := cntP_le cl
    generalize cntP cl = cc at *
    have hmk : (Instr.makeSlice 27 (.int .i64 (N : Int)) (.int .i64 (N : Int))).run Try.prog w = .ok (.slice (some ⟨w.heap.size, 0, none⟩) N N) (w.alloc (.cells (madeCells #[.int .i64 0] N) 3)) := by
      have := run_make (P := Try.prog) w 27 3 i0 (.int .i64 0) Try.underlying27 hi0 hz0 .i64 .i64 (N : Int) (N : Int) (by omega) (by omega) (by rw [hz2]; omega) (by omega)
      simpa [hz1, Value.cells] using this
    have HM0 : Hid (NumB .i64 3 (w.alloc (.cells (madeCells #[.int .i64 0] N) 3)) w.heap.size N (upF up [] 0 0)) := (NumB.new .i64 3 w N (by unfold maxLen; omega)).congr fun k hk => by
      unfold upF
      rw [if_neg (by omega)]
      split <;> rfl
    clear hi0 hz0 hz1 hz2
    go_enter Try.func44, Try.ntmps44
    go_wp2_with fail
    refine C0.out.mono ?_
    rintro e w' ⟨rfl, rfl⟩
    go_wp2
    clear hmk
    go_loopw [27] (fun i wr => ∃ k : Nat, k ≤ N ∧ i = .int .i64 k ∧ NumB .i64 3 wr w.heap.size N (upF up [] k 0) ∧ Below w.heap.size w wr) (fun i _ => N - (RowKit.intOf i).toNat)
    case atStart => exact ⟨0, Nat.zero_le _, rfl, HM0.out, (Below.refl _ _).alloc (Nat.le_refl _) _⟩
    case round =>
      obtain ⟨k, hk, rfl, hm, hb⟩ := hrel
      obtain ⟨wo, ewo⟩ : ∃ u, u = wr := ⟨_, rfl⟩
      subst ewo
      have HM := Lib.hid hm
      have HB := Lib.hid hb
      clear hm hb
      by_cases hlt : k < N
      · have hgo := HM.out.lt (by omega)
        obtain ⟨bX, oX, A', c', rfl, hE⟩ := ER.out k hlt
        have HE := Lib.hid hE
        obtain ⟨q1, _⟩ := hE wo HB.out
        have EI := Lib.hid (HCL.out k hlt)
        have hyl := HCN.out k hlt
        have EO := Lib.hid (HCO.out k)
        clear hE
        generalize xss.getD k [] = ys at *
        have b1 : (0 : Int) ≤ (k : Int) := by omega
        have b2 : (k : Int) < (N : Int) := by omega
        have HM2 : Hid (NumB .i64 3 wo w.heap.size N (upF up ys k 0)) := HM.out.congr fun j hj => by
          unfold upF
          split
          · rfl
          · split <;> rfl
        go_wp2_with fail
        go_loopw [34] (fun i wr => ∃ t : Nat, t ≤ ys.length ∧ i = .int .i64 t ∧ NumB .i64 3 wr w.heap.size N (upF up ys k t) ∧ Below w.heap.size w wr) (fun i _ => ys.length - (RowKit.intOf i).toNat)
        case atStart => exact ⟨0, Nat.zero_le _, rfl, HM2.out, HB.out⟩
        case round =>
          obtain ⟨t, ht, rfl, hm, hb⟩ := hrel
          have HM3 := Lib.hid hm
          have HB3 := Lib.hid hb
          clear hm hb
          by_cases htl : t < ys.length
          · have HSi := Lib.hid (HE.out _ HB3.out).2
            obtain ⟨bY, oY, rfl, _, q0⟩ := HSi.out.at2 htl
            have hx := EI.out _ (getD_memN htl)
            have hbt := Nat.lt_of_lt_of_le (bitsT_lt EI.out t ht) (Nat.pow_le_pow_right (n := 2) (by omega) (show N ≤ 20 from h20))
            have hbs : bitsT ys (t + 1) = bitsT ys t ||| 2 ^ (ys.getD t 0).toNat := rfl
            generalize ys.getD t 0 = x at *
            obtain ⟨m, rfl⟩ := Int.eq_ofNat_of_zero_le hx.1
            have hmN : m < N := by omega
            have q2 := HM3.out.cell k hlt
            have q3 := HM3.out.frozen k
            have hF : upF up ys k t k = bitsT ys t := by unfold upF; rw [if_neg (by omega), if_pos rfl]
            rw [hF] at q2
            have v1 := i64_shl1 m (by omega)
            have hpm : 2 ^ m < 2 ^ 20 := Nat.pow_lt_pow_right (by omega) (by omega)
            have v2 := i64_or_nat (bitsT ys t) (2 ^ m) (by omega) (by omega)
            have v3 : IntKind.u64.wrap (m : Int) = m := by rw [IntKind.wrap_u64]; omega
            rw [Int.toNat_natCast] at hbs
            rw [← hbs] at v2
            have N1 := NumB.put (q := upF up ys k (t + 1)) (b := bitsT ys (t + 1)) HM3.out hlt fun j hj => by
              unfold upF
              by_cases e : j = k
              · rw [e, if_neg (by omega), if_pos rfl, if_pos rfl]
              · rw [if_neg e, if_neg e, if_neg e]
            have N2 := Lib.hid N1.1
            have NB : Hid (Below w.heap.size w (wr.setCell ⟨w.heap.size, k, none⟩ (.int .i64 (bitsT ys (t + 1))))) := HB3.out.setCell (Nat.le_refl _) _
            have t1 : (0 : Int) ≤ (t : Int) := by omega
            have t2 : (t : Int) < (ys.length : Int) := by omega
            clear hF hbs N1
            generalize 2 ^ m = PM at *
            generalize bitsT ys (t + 1) = B1 at *
            generalize bitsT ys t = B0 at *
            go_wp2
            go_roundw
            case rel => exact ⟨t + 1, by omega, by go_num, N2.out, NB.out⟩
            case measure => simp [RowKit.intOf]; omega
          · obtain rfl : t = ys.length := by omega
            have HM5 : Hid (NumB .i64 3 wr w.heap.size N (upF up [] (k + 1) 0)) := HM3.out.congr fun j hj => by
              unfold upF
              by_cases e : j < k
              · rw [if_pos e, if_pos (by omega)]
              · rw [if_neg e]
                by_cases e2 : j = k
                · rw [if_pos e2, if_pos (by omega), e2]; exact EO.out
                · rw [if_neg e2, if_neg (by omega)]
                  split <;> rfl
            go_wp2
            go_roundw
            case rel => exact ⟨k + 1, by omega, by go_num, HM5.out, HB3.out⟩
            case measure => simp [RowKit.intOf]; omega
      · obtain rfl : k = N := by omega
        have HM5 : Hid (NumB .i64 3 wo w.heap.size k up) := HM.out.congr fun j hj => by
          unfold upF
          rw [if_pos hj]
        have v3 : IntKind.u64.wrap (k : Int) = k := by rw [IntKind.wrap_u64]; omega
        have HU : Hid (∀ i, i < k → up i < P) := HUL.out
        clear HM HNn
        go_wp2_with fail
        go_loopw [9, 10] (fun n i wr => ∃ s : Nat, s ≤ P ∧ i = .int .i64 s ∧ n = .int .i64 (cc s) ∧ NumB .i64 3 wr w.heap.size k up ∧ Below w.heap.size w wr) (fun _ i _ => P - (RowKit.intOf i).toNat)
        case atStart => exact ⟨0, Nat.zero_le _, rfl, by rw [HS0.out]; rfl, HM5.out, HB.out⟩
        case round =>
          obtain ⟨s, hs, rfl, rfl, hm, hb⟩ := hrel
          obtain ⟨wp, ewp⟩ : ∃ u, u = wr := ⟨_, rfl⟩
          subst ewp
          have HM6 := Lib.hid hm
          have HB6 := Lib.hid hb
          clear hm hb
          have hcs := HS3.out s
          by_cases hlt : s < P
          · have b1 : (0 : Int) ≤ (s : Int) := by omega
            have b2 : (s : Int) < (P : Int) := by omega
            have HYs := Lib.hid (HYE.out s)
            have HNs := Lib.hid (HNO.out s)
            have HS1s := Lib.hid (HS1.out s)
            have HS2s := Lib.hid (HS2.out s)
            go_wp2_with fail
            go_loopw [11, 59] (fun d i wr => ∃ t : Nat, t ≤ k ∧ i = .int .i64 t ∧ d = .bool true ∧ (∀ j, j < t → s.testBit j = true → s &&& up j = up j) ∧ NumB .i64 3 wr w.heap.size k up ∧ Below w.heap.size w wr) (fun _ i _ => k - (RowKit.intOf i).toNat)
            case atStart => exact ⟨0, Nat.zero_le _, rfl, rfl, fun j hj => by omega, HM6.out, HB6.out⟩
            case round =>
              obtain ⟨t, ht, rfl, rfl, hq, hm, hb⟩ := hrel
              have HQ := Lib.hid hq
              have HM7 := Lib.hid hm
              have HB7 := Lib.hid hb
              clear hq hm hb
              by_cases htl : t < k
              · have q0 := HM7.out.cell t htl
                have v4 : IntKind.u64.wrap (t : Int) = t := by rw [IntKind.wrap_u64]; omega
                have t1 : (0 : Int) ≤ (t : Int) := by omega
                have t2 : (t : Int) < (k : Int) := by omega
                have hut := HU.out t htl
                have w1 := i64_bit s t (by omega)
                have w2 := i64_and_nat s (up t) (by omega) (by omega)
                cases hbit : s.testBit t
                · rw [hbit, if_neg (by simp)] at w1
                  have HQ2 : Hid (∀ j, j < t + 1 → s.testBit j = true → s &&& up j = up j) := fun j hj hjb => by
                    by_cases e : j = t
                    · rw [e, hbit] at hjb; cases hjb
                    · exact HQ.out j (by omega) hjb
                  clear w2 hbit
                  go_wp2
                  go_roundw
                  case rel => exact ⟨t + 1, by omega, by go_num, rfl, HQ2.out, HM7.out, HB7.out⟩
                  case measure => simp [RowKit.intOf]; omega
                · rw [hbit, if_pos rfl] at w1
                  have HNt := Lib.hid (HNs.out t htl hbit)
                  by_cases hup : s &&& up t = up t
                  · rw [hup] at w2
                    have HQ2 : Hid (∀ j, j < t + 1 → s.testBit j = true → s &&& up j = up j) := fun j hj hjb => by
                      by_cases e : j = t
                      · rw [e]; exact hup
                      · exact HQ.out j (by omega) hjb
                    have w3 : ((up t : Int) != (up t : Int)) = false := by simp
                    clear hbit hup
                    generalize up t = x at *
                    go_wp2
                    go_roundw
                    case rel => exact ⟨t + 1, by omega, by go_num, rfl, HQ2.out, HM7.out, HB7.out⟩
                    case measure => simp [RowKit.intOf]; omega
                  · have G := Lib.hid (HS2s.out (HNt.out hup))
                    have w3 : (((s &&& up t : Nat) : Int) != (up t : Int)) = true := bne_iff_ne.2 (by omega)
                    clear hbit hup HNt
                    generalize s &&& up t = AN at *
                    generalize up t = x at *
                    go_wp2
                    go_roundw
                    case rel => exact ⟨s + 1, by omega, by go_num, by rw [G.out], HM7.out, HB7.out⟩
                    case measure => simp [RowKit.intOf]; omega
              · obtain rfl : t = k := by omega
                have G := Lib.hid (HS1s.out (HYs.out HQ.out))
                have hcw : IntKind.i64.wrap ((cc s : Int) + 1) = (cc s : Int) + 1 := IntWalk.i64_in _ (by omega)
                go_wp2
                go_roundw
                case rel => exact ⟨s + 1, by omega, by go_num, by rw [G.out]; push_cast; rfl, HM7.out, HB7.out⟩
                case measure => simp [RowKit.intOf]; omega
          · obtain rfl : s = P := by omega
            go_wp2
            go_ret2
            exact ⟨rfl, HB6.out⟩
end Go.Proofs.Ytffknfgejoejoaa
