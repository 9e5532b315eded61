/-
Contracts: blocks outside a list, pits, phases, in the program.
Contracts: PhasesOf and PhaseOfBlock, in the program.
Contracts: PhaseOfBlock, in the program.
Contracts: pits and phases, in the model.
Contracts: AreNested, PhasesOf and PhaseOfBlock, in the model.
Contracts: FillPits, in the program.
Contracts: FillPits, in the model.
-/
import Derived.Test.YtlgbhemjckahhaaXA
import Derived.Test.YtlgbhemjckahhaaNA
import Derived.Test.YtlgbhemjckahhaaR4
import Derived.Test.YtlgbhemjckahhaaNC
import Derived.RangeFuncNested
import Derived.Test.YtlgbhemjckahhaaNH
namespace Go.Proofs.Ytlgbhemjckahhaa
open Go.RowKit
set_option linter.unusedVariables false

theorem take_hasX {X : List Int} {k : Nat} (hk : k < X.length) (y : Int) : (X.take (k + 1)).contains y = ((X.take k).contains y || (y == X.getD k 0)) := by
  have e : X.take (k + 1) = X.take k ++ [X.getD k 0] := by
    rw [List.take_add_one, List.getElem?_eq_getElem hk, List.getD_eq_getElem?_getD, List.getElem?_eq_getElem hk]
    rfl
  rw [e, Bool.eq_iff_iff]
  simp

set_option maxHeartbeats 4000000 in
theorem c_blocksOutside (N : Nat) (Y X : List Int) (v u : Value) (w : World) (hN : N ≤ 1000) (hY : InN N Y) (hX : InN N X) (l1 : Y.length ≤ 4000000) (l2 : X.length ≤ 4000000) (h : Seen w v Y) (hu : Seen w u X) :
    Calls Try.prog 51 #[v, u] w (GivesRow w (sel (lessP Y X) N)) := by
  have EC : Hid (∀ k, k < X.length → 0 ≤ X.getD k 0 ∧ X.getD k 0 < (N : Int)) := fun k hk => hX _ (getD_memN hk)
  obtain ⟨P, hP⟩ : ∃ P : Nat → Int → Bool, P = fun k y => inL Y y && !(X.take k).contains y := ⟨_, rfl⟩
  have P0 : Hid (P 0 = inL Y) := by rw [hP]; funext y; simp
  have PS : Hid (∀ k, k < X.length → (fun y => !(y == X.getD k 0) && P k y) = P (k + 1)) := fun k hk => by
    rw [hP]
    funext y
    show (!(y == X.getD k 0) && (inL Y y && !(X.take k).contains y)) = (inL Y y && !(X.take (k + 1)).contains y)
    rw [take_hasX hk]
    cases inL Y y <;> cases (X.take k).contains y <;> cases (y == X.getD k 0) <;> rfl
  have PE : Hid (P X.length = lessP Y X) := by rw [hP]; funext y; show (inL Y y && !(X.take X.length).contains y) = _; rw [List.take_length]; rfl
  have CM := Lib.hid (c_marksOf N Y v w l1 hN h hY)
  have HXs := Lib.hid hu
  obtain ⟨A, c, rfl⟩ := h.shape
  obtain ⟨A2, c2, rfl⟩ := hu.shape
  clear hP hY hX h hu
  rw [← PE.out]
  go_enter Try.func51, Try.ntmps51
  go_wp2_with fail
  refine CM.out.mono ?_
  rintro e w3 ⟨rfl, hm3, hb⟩
  rw [← P0.out] at hm3
  have HM := Lib.hid hm3
  have HB3 : Hid (Below w.heap.size w w3) := hb
  have hw3 : w.heap.size < w3.heap.size := hm3.lt
  clear hm3 hb
  go_wp2_with fail
  go_loopw [12] (fun i wr => ∃ k : Nat, k ≤ X.length ∧ i = .int .i64 k ∧ SetM wr w.heap.size N (P k) ∧ Below w.heap.size w wr) (fun i _ => X.length - (RowKit.intOf i).toNat)
  case atStart => exact ⟨0, Nat.zero_le _, rfl, HM.out, HB3.out⟩
  case round =>
    obtain ⟨k, hk, rfl, hm, hb⟩ := hrel
    have HMr := Lib.hid hm
    have HBr := Lib.hid hb
    clear hm hb
    by_cases hlt : k < X.length
    · obtain ⟨bX, oX, rfl, _, q0⟩ := (HXs.out.below HBr.out).at2 hlt
      obtain ⟨s0, s1⟩ := EC.out k hlt
      have G := Lib.hid (PS.out k hlt)
      have b1 : (0 : Int) ≤ (k : Int) := by omega
      have b2 : (k : Int) < (X.length : Int) := by omega
      generalize X.getD k 0 = x at *
      obtain ⟨w5, hrun, hm5, hg5⟩ := HMr.out.del x s0 s1 hN 0
      rw [G.out] at hm5
      have HM5 := Lib.hid hm5
      have HB5 : Hid (Below w.heap.size w w5) := HBr.out.grown hg5 HBr.out.size (fun k hk => by cases hk; exact Nat.le_refl _)
      clear hm5 hg5
      go_wp2
      go_roundw
      case rel => exact ⟨k + 1, by omega, by go_num, HM5.out, HB5.out⟩
      case measure => simp [RowKit.intOf]; omega
    · obtain rfl : k = X.length := by omega
      go_wp2_with fail
      refine (c_markedBlocks w.heap.size N (P X.length) _ hN HMr.out).mono ?_
      rintro e w6 ⟨q, rfl, hq, hb2⟩
      have HBx : Hid (Below w.heap.size w w6) := HBr.out.trans (hb2.mono HBr.out.size)
      have HQ := Lib.hid (hq.mono HBr.out.size)
      obtain ⟨A6, c6, rfl⟩ := hq.shape
      clear hq hb2
      go_wp2
      go_ret
      exact ⟨_, rfl, HQ.out, HBx.out⟩

set_option maxHeartbeats 8000000 in
set_option maxRecDepth 100000 in
theorem c_arePits (xss pss : List (List Int)) (v u : Value) (w : World) (hs : ShortL xss) (hs2 : ShortL pss) (h : SeenL w v xss) (hu : SeenL w u pss) :
    Calls Try.prog 48 #[v, u] w fun e w' => e = .returned (.bool (pitsB xss pss)) ∧ Below w.heap.size w w' := by
  have HPs := Lib.hid hu
  have C1 : Hid (∀ (l : List Int) (q : Value) w1, l.length ≤ 4000000 → Below w.heap.size w w1 → Seen w1 q l → Calls Try.prog 83 #[v, q] w1 fun e w' => e = .returned (.bool (gB xss l)) ∧ Below w1.heap.size w1 w') := fun l q w1 hl hb hq => c_isClosed xss l v q w1 hs hl (h.below hb) hq
  have C2 : Hid (∀ (l : List Int) (q : Value) w1, gB xss l = true → Seen w1 q l → Calls Try.prog 85 #[q] w1 fun e w' => e = .returned (.map (some w1.heap.size)) ∧ SetM w' w1.heap.size xss.length (inL l) ∧ Below w1.heap.size w1 w') := fun l q w1 hg hq => by
    have hr := (gB_iff.1 hg).1.2
    have := ris_len hr (by omega)
    have := arc_len (gB_iff.1 hg).1.1
    exact c_marksOf xss.length l q w1 (by omega) (by omega) hq (InN.ris hr)
  have C3 : Hid (∀ (b : Nat) (l m : List Int) (q : Value) w1, gB xss l = true → risB xss.length m = true → SetM w1 b xss.length (inL l) → Seen w1 q m → Calls Try.prog 84 #[.map (some b), q] w1 fun e w' => e = .returned (.bool (m.all (inL l))) ∧ Below w1.heap.size w1 w') := fun b l m q w1 hg hr hm hq => by
    have := ris_len hr (by omega)
    have := arc_len (gB_iff.1 hg).1.1
    exact c_areMarked b xss.length (inL l) m q w1 (by omega) (by omega) hm hq (InN.ris hr)
  obtain ⟨A, c, rfl, _⟩ := h.shape
  obtain ⟨A2, c2, rfl, _⟩ := hu.shape
  have hls := hs.1
  have hls2 := hs2.1
  have HL2 : Hid (∀ k, k < pss.length → (pss.getD k []).length ≤ 1048576) := fun k hk => hs2.2 k hk
  clear h hu hs hs2
  by_cases hn : 1 ≤ pss.length ∧ pss.length ≤ 8
  · obtain ⟨n1, n2⟩ := hn
    have d1 : ¬ ((pss.length : Int) < 1) := by omega
    have d2 : ¬ ((pss.length : Int) > 8) := by omega
    have FT : Hid (PitTo xss pss pss.length → pitsB xss pss = true) := fun h => pits_true ⟨n1, n2⟩ h
    have FF : Hid (∀ k, k < pss.length → pitC xss pss k = false → pitsB xss pss = false) := fun k hk h => pits_false hk h
    generalize pitsB xss pss = R at *
    obtain ⟨n, hnn⟩ : ∃ n, pss.length = n := ⟨_, rfl⟩
    have HNN := Lib.hid hnn
    rw [hnn] at d1 d2 n1 n2 FT FF HL2 ⊢
    clear hnn hls2
    go_enter Try.func48, Try.ntmps48
    go_wp2_with fail
    go_loopw [5, 18] (fun p i wr => ∃ (k : Nat) (Ap : Option Addr) (cp : Nat), k ≤ n ∧ i = .int .i64 k ∧ p = .slice Ap (befL pss k).length cp ∧ Seen wr p (befL pss k) ∧ PitTo xss pss k ∧ Below w.heap.size w wr) (fun _ i _ => n - (RowKit.intOf i).toNat)
    case atStart => exact ⟨0, none, 0, Nat.zero_le _, rfl, rfl, Row.seen (Row.nil _ 0), PitTo.zero _ _, Below.refl _ _⟩
    case round =>
      obtain ⟨k, Ap, cp, hk, rfl, rfl, hsp, hpt, hb⟩ := hrel
      have HSP := Lib.hid hsp
      have HPT := Lib.hid hpt
      have HB := Lib.hid hb
      clear hsp hpt hb
      by_cases hlt : k < n
      · have hps := HPs.out.below HB.out
        obtain ⟨b, off, A', c', rfl, hbl, q0, hse⟩ := hps.at_ (k := k) (by rw [HNN.out]; exact hlt)
        have HSE := Lib.hid hse
        have hlk := HL2.out k hlt
        have b1 : (0 : Int) ≤ (k : Int) := by omega
        have b2 : (k : Int) < (n : Int) := by omega
        have hbr := bef_ris HPT.out (Nat.le_refl k)
        have HBR := Lib.hid hbr
        have FS : Hid (pitC xss pss k = true → PitTo xss pss (k + 1)) := fun h => HPT.out.succ h
        have FN : Hid (gB xss (pss.getD k []) = true → (befL pss k).all (inL (pss.getD k [])) = true → (pss.getD k []).length ≠ (befL pss k).length → pitC xss pss k = true) := fun h1 h2 h3 => pit_ne HPT.out h1 h2 h3
        have FG : Hid (gB xss (pss.getD k []) = false → R = false) := fun h => FF.out k hlt (pitC_g h)
        have FA : Hid ((befL pss k).all (inL (pss.getD k [])) = false → R = false) := fun h => FF.out k hlt (pitC_a h)
        have FL : Hid ((pss.getD k []).length = (befL pss k).length → R = false) := fun h => FF.out k hlt (pitC_l (by omega))
        have HBF : Hid (befL pss (k + 1) = pss.getD k []) := rfl
        have hlb : (befL pss k).length ≤ 4000000 := by
          cases k with
          | zero => simp [befL]
          | succ j => have := HL2.out j (by omega); simp only [befL]; omega
        clear hps hse hbr
        generalize pss.getD k [] = m at *
        generalize befL pss k = bf at *
        cases hg : gB xss m
        · have HC := Lib.hid (C1.out m _ wr (by omega) HB.out HSE.out)
          rw [hg] at HC
          have HR := Lib.hid (FG.out hg)
          go_wp2_with fail
          refine HC.out.mono ?_
          rintro e w1 ⟨rfl, hb⟩
          have HB1 := Lib.hid (HB.out.trans (hb.mono HB.out.size))
          clear hb
          go_wp2
          go_ret
          exact ⟨ret_bool HR.out.symm, HB1.out⟩
        · have HC := Lib.hid (C1.out m _ wr (by omega) HB.out HSE.out)
          rw [hg] at HC
          have HG := Lib.hid hg
          cases hal : bf.all (inL m)
          · have HR := Lib.hid (FA.out hal)
            have HAL := Lib.hid hal
            clear hal hg
            go_wp2_with fail
            refine HC.out.mono ?_
            rintro e w1 ⟨rfl, hb⟩
            have HB1 := Lib.hid (HB.out.trans (hb.mono HB.out.size))
            have HSE1 := Lib.hid (HSE.out.below hb)
            have HSP1 := Lib.hid (HSP.out.below hb)
            clear hb
            go_wp2_with fail
            refine (C2.out m _ w1 HG.out HSE1.out).mono ?_
            rintro e w2 ⟨rfl, hm, hb⟩
            have HB2 := Lib.hid (HB1.out.trans (hb.mono HB1.out.size))
            have HC3 := Lib.hid (C3.out _ m bf _ w2 HG.out HBR.out hm (HSP1.out.below hb))
            rw [HAL.out] at HC3
            clear hm hb
            go_wp2_with fail
            refine HC3.out.mono ?_
            rintro e w3 ⟨rfl, hb⟩
            have HB3 := Lib.hid (HB2.out.trans (hb.mono HB2.out.size))
            clear hb
            go_wp2
            go_ret
            exact ⟨ret_bool HR.out.symm, HB3.out⟩
          · have HAL := Lib.hid hal
            clear hal hg
            by_cases he : m.length = bf.length
            · have HR := Lib.hid (FL.out he)
              have he' : (m.length : Int) = (bf.length : Int) := by omega
              clear he
              go_wp2_with fail
              refine HC.out.mono ?_
              rintro e w1 ⟨rfl, hb⟩
              have HB1 := Lib.hid (HB.out.trans (hb.mono HB.out.size))
              have HSE1 := Lib.hid (HSE.out.below hb)
              have HSP1 := Lib.hid (HSP.out.below hb)
              clear hb
              go_wp2_with fail
              refine (C2.out m _ w1 HG.out HSE1.out).mono ?_
              rintro e w2 ⟨rfl, hm, hb⟩
              have HB2 := Lib.hid (HB1.out.trans (hb.mono HB1.out.size))
              have HC3 := Lib.hid (C3.out _ m bf _ w2 HG.out HBR.out hm (HSP1.out.below hb))
              rw [HAL.out] at HC3
              clear hm hb
              go_wp2_with fail
              refine HC3.out.mono ?_
              rintro e w3 ⟨rfl, hb⟩
              have HB3 := Lib.hid (HB2.out.trans (hb.mono HB2.out.size))
              clear hb
              go_wp2
              go_ret
              exact ⟨ret_bool HR.out.symm, HB3.out⟩
            · have he' : ¬ (m.length : Int) = (bf.length : Int) := by omega
              have HP2 := Lib.hid (FS.out (FN.out HG.out HAL.out he))
              clear he
              go_wp2_with fail
              refine HC.out.mono ?_
              rintro e w1 ⟨rfl, hb⟩
              have HB1 := Lib.hid (HB.out.trans (hb.mono HB.out.size))
              have HSE1 := Lib.hid (HSE.out.below hb)
              have HSP1 := Lib.hid (HSP.out.below hb)
              clear hb
              go_wp2_with fail
              refine (C2.out m _ w1 HG.out HSE1.out).mono ?_
              rintro e w2 ⟨rfl, hm, hb⟩
              have HB2 := Lib.hid (HB1.out.trans (hb.mono HB1.out.size))
              have HSE2 := Lib.hid (HSE1.out.below hb)
              have HC3 := Lib.hid (C3.out _ m bf _ w2 HG.out HBR.out hm (HSP1.out.below hb))
              rw [HAL.out] at HC3
              clear hm hb
              go_wp2_with fail
              refine HC3.out.mono ?_
              rintro e w3 ⟨rfl, hb⟩
              have HB3 := Lib.hid (HB2.out.trans (hb.mono HB2.out.size))
              have HSE3 := Lib.hid (HSE2.out.below hb)
              clear hb
              go_wp2
              go_roundw
              case rel => exact ⟨k + 1, A', c', by omega, by go_num, by rw [HBF.out], by rw [HBF.out]; exact HSE3.out, HP2.out, HB3.out⟩
              case measure => simp [RowKit.intOf]; omega
      · obtain rfl : k = n := by omega
        have HR := Lib.hid (FT.out HPT.out)
        go_wp2
        go_ret
        exact ⟨ret_bool HR.out.symm, HB.out⟩
  · have HR : Hid (pitsB xss pss = false) := pits_short hn
    rw [HR.out]
    rcases Nat.lt_or_ge pss.length 1 with h1 | h1
    · have d1 : (pss.length : Int) < 1 := by omega
      go_enter Try.func48, Try.ntmps48
      go_wp2
      go_ret
      exact ⟨rfl, Below.refl _ _⟩
    · have d1 : ¬ (pss.length : Int) < 1 := by omega
      have d2 : (pss.length : Int) > 8 := by omega
      go_enter Try.func48, Try.ntmps48
      go_wp2
      go_ret
      exact ⟨rfl, Below.refl _ _⟩

set_option maxHeartbeats 1000000 in
theorem c_AreNested (xss pss : List (List Int)) (v u : Value) (w : World) (hs : ShortL xss) (hs2 : ShortL pss) (h : SeenL w v xss) (hu : SeenL w u pss) :
    Calls Try.prog 15 #[v, u] w (Two (arcB xss && pitsB xss pss) (arcB xss) w) := by
  have C1 := Lib.hid (c_AreArcs xss v w hs h)
  have C2 := Lib.hid (c_arePits xss pss v u w hs hs2 h hu)
  obtain ⟨A, c, rfl, _⟩ := h.shape
  obtain ⟨A2, c2, rfl, _⟩ := hu.shape
  have hls := hs.1
  have hls2 := hs2.1
  clear h hu hs hs2
  generalize pitsB xss pss = R at *
  cases ha : arcB xss
  · rw [ha] at C1
    rw [Bool.false_and]
    go_enter Try.func15, Try.ntmps15
    go_wp2_with fail
    refine C1.out.mono ?_
    rintro e w1 ⟨rfl, rfl⟩
    go_wp2
    go_ret2
    exact ⟨rfl, Below.refl _ _⟩
  · rw [ha] at C1
    rw [Bool.true_and]
    go_enter Try.func15, Try.ntmps15
    go_wp2_with fail
    refine C1.out.mono ?_
    rintro e w1 ⟨rfl, rfl⟩
    go_wp2_with fail
    refine C2.out.mono ?_
    rintro e w1 ⟨rfl, hb⟩
    have HB := Lib.hid hb
    clear hb
    go_wp2
    go_ret2
    exact ⟨rfl, HB.out⟩
end Go.Proofs.Ytlgbhemjckahhaa

namespace Go.Proofs.Ytlgbhemjckahhaa
open Go.RowKit
set_option linter.unusedVariables false

theorem ph_short {xss pss : List (List Int)} (h : pitsB xss pss = true) {k : Nat} (hk : k < pss.length) : (pss.getD k []).length ≤ 120 ∧ (phL pss k).length ≤ 120 := by
  have h1 := ris_len (pit_ris (pits_at h) hk) (by omega)
  have h2 := arc_len (pits_arc h)
  have h3 := less_len (pss.getD k []) (befL pss k)
  unfold phL
  omega
theorem bef_short {xss pss : List (List Int)} (h : pitsB xss pss = true) {k : Nat} (hk : k ≤ pss.length) : (befL pss k).length ≤ 120 := by
  cases k with
  | zero => simp [befL]
  | succ k => exact (ph_short h (k := k) (by omega)).1
theorem bef_in {xss pss : List (List Int)} (h : pitsB xss pss = true) {k : Nat} (hk : k ≤ pss.length) : InN xss.length (befL pss k) := InN.ris (bef_ris (pits_at h) hk)

set_option maxHeartbeats 8000000 in
set_option maxRecDepth 100000 in
theorem c_PhasesOf (xss pss : List (List Int)) (v u : Value) (w : World) (hs : ShortL xss) (hs2 : ShortL pss) (h : SeenL w v xss) (hu : SeenL w u pss) :
    Calls Try.prog 18 #[v, u] w (GivesRows2 w (phA xss pss) (pitsB xss pss)) := by
  have C0 := Lib.hid (c_arePits xss pss v u w hs hs2 h hu)
  have HPs := Lib.hid hu
  cases hp : pitsB xss pss
  · have HL : Hid (phA xss pss = []) := by show _ = _; unfold phA; rw [hp]; rfl
    rw [hp] at C0
    rw [HL.out]
    obtain ⟨A, c, rfl, _⟩ := h.shape
    obtain ⟨A2, c2, rfl, _⟩ := hu.shape
    have hls := hs.1
    have hls2 := hs2.1
    clear h hu hs hs2 hp
    go_enter Try.func18, Try.ntmps18
    go_wp2_with fail
    refine C0.out.mono ?_
    rintro e w1 ⟨rfl, hb⟩
    have HB := Lib.hid hb
    clear hb
    go_wp2
    go_ret2
    exact ⟨_, rfl, Rows.nil _ _ _, HB.out⟩
  · have HL : Hid (phA xss pss = phsL pss pss.length) := by show _ = _; unfold phA; rw [hp]; rfl
    rw [hp] at C0
    have hN := arc_len (pits_arc hp)
    obtain ⟨n1, n2⟩ := pits_len hp
    obtain ⟨i0, hi0, hz0, hz1, hz2⟩ := info_parts list_info
    obtain ⟨n, hnn⟩ : ∃ n, pss.length = n := ⟨_, rfl⟩
    have HNN := Lib.hid hnn
    have C1 : Hid (∀ (k : Nat) (q q2 : Value) (u : World), k < n → Seen u q (pss.getD k []) → Seen u q2 (befL pss k) → Calls Try.prog 51 #[q, q2] u (GivesRow u (phL pss k))) := fun k q q2 u hk h1 h2 => by
      have hk' : k < pss.length := by omega
      rw [ph_sel (pits_at hp) hk']
      have := (ph_short hp hk').1
      have := bef_short hp (k := k) (by omega)
      exact c_blocksOutside xss.length _ _ q q2 u (by omega) (InN.ris (pit_ris (pits_at hp) hk')) (bef_in hp (by omega)) (by omega) (by omega) h1 h2
    obtain ⟨A, c, rfl, _⟩ := h.shape
    obtain ⟨A2, c2, rfl, hm⟩ := hu.shape
    have hmk : Hid (∀ u : World, (Instr.makeSlice 22 (.int .i64 (n : Int)) (.int .i64 (n : Int))).run Try.prog u = .ok (.slice (some ⟨u.heap.size, 0, none⟩) n n) (u.alloc (.cells (madeCells #[.slice none 0 0] n) 35))) := fun u => by
      have := run_make (P := Try.prog) u 22 35 i0 (.slice none 0 0) Try.underlying22 hi0 hz0 .i64 .i64 (n : Int) (n : Int) (by omega) (by omega) (by rw [hz2]; omega) (by omega)
      simpa [hz1, Value.cells] using this
    have H0 : Hid (∀ u : World, Rows (u.alloc (.cells (madeCells #[.slice none 0 0] n) 35)) u.heap.size (u.alloc (.cells (madeCells #[.slice none 0 0] n) 35)).heap.size (.slice (some ⟨u.heap.size, 0, none⟩) n n) (stg (phsL pss n) 0)) := fun u => by
      rw [stg_zero, phs_len]; exact rows_nils u _ (by omega)
    have HLn : Hid (∀ k, k ≤ n → (stg (phsL pss n) k).length = n) := fun k hk => by rw [stg_len _ _ (by rw [phs_len]; exact hk), phs_len]
    have HSt : Hid (∀ j, j < n → (stg (phsL pss n) j).set j (phL pss j) = stg (phsL pss n) (j + 1)) := fun j hj => by
      rw [← phs_at hj]; exact stg_set _ _ (by rw [phs_len]; exact hj)
    have HA : Hid (stg (phsL pss n) n = phsL pss n) := by
      show _ = _
      have := stg_all (phsL pss n)
      rwa [phs_len] at this
    have HPL : Hid (∀ k, k < n → (pss.getD k []).length ≤ 120 ∧ (phL pss k).length ≤ 120) := fun k hk => ph_short hp (by omega)
    have HBL : Hid (∀ k, k ≤ n → (befL pss k).length ≤ 120) := fun k hk => bef_short hp (by omega)
    have HBF : Hid (∀ k, befL pss (k + 1) = pss.getD k []) := fun k => rfl
    have hls := hs.1
    rw [HL.out, hnn]
    rw [hnn] at C0
    have HN8 : Hid (n ≤ 8) := by show _ ≤ _; omega
    clear n1 n2
    clear h hu hs hs2 hi0 hz0 hz1 hz2 hm hp hnn HL
    generalize stg (phsL pss n) = M at *
    go_enter Try.func18, Try.ntmps18
    go_wp2_with fail
    refine C0.out.mono ?_
    rintro e w1 ⟨rfl, hb⟩
    have HB1 := Lib.hid hb
    clear hb
    have hmw := hmk.out w1
    have hwG : w.heap.size ≤ w1.heap.size := HB1.out.size
    have HR1 := Lib.hid (H0.out w1)
    have HBa : Hid (Below w.heap.size w (w1.alloc (.cells (madeCells #[.slice none 0 0] n) 35))) := HB1.out.alloc hwG _
    have hza : (w1.alloc (.cells (madeCells #[.slice none 0 0] n) 35)).heap.size = w1.heap.size + 1 := by simp
    clear hmk H0
    go_wp2_with fail
    clear hmw
    generalize w1.alloc (.cells (madeCells #[.slice none 0 0] n) 35) = wa at *
    generalize w1.heap.size = G at *
    go_loopw [7, 19] (fun p i wr => ∃ (k : Nat) (Ap : Option Addr) (cp : Nat), k ≤ n ∧ i = .int .i64 k ∧ p = .slice Ap (befL pss k).length cp ∧ Seen w p (befL pss k) ∧ Rows wr w.heap.size wr.heap.size (.slice (some ⟨G, 0, none⟩) n n) (M k) ∧ Below w.heap.size w wr ∧ G < wr.heap.size) (fun _ i _ => n - (RowKit.intOf i).toNat)
    case atStart => exact ⟨0, none, 0, Nat.zero_le _, rfl, rfl, Row.seen (Row.nil _ 0), HR1.out.mono hwG, HBa.out, by omega⟩
    case round =>
      obtain ⟨k, Ap, cp, hk, rfl, rfl, hsp, hr, hb, hsz⟩ := hrel
      have HSP := Lib.hid hsp
      have HR := Lib.hid hr
      have HB := Lib.hid hb
      clear hsp hr hb
      by_cases hlt : k < n
      · obtain ⟨b, off, A', c', rfl, hbl, q0', hse⟩ := HPs.out.at_ (k := k) (by rw [HNN.out]; exact hlt)
        have q0 : wr.cell? ⟨b, off + k, none⟩ = some (.slice A' (pss.getD k []).length c') := (HB.out.cell (p := ⟨b, off + k, none⟩) hbl).trans q0'
        have HSE := Lib.hid hse
        have HC1 := Lib.hid (C1.out k _ _ wr hlt (hse.below HB.out) (HSP.out.below HB.out))
        have hset := Lib.hid (HSt.out k hlt)
        have hlk := Lib.hid (HLn.out k hk)
        have hl1 := (HPL.out k hlt).1
        have hk8 : k < 8 := by have := HN8.out; omega
        have hl2 := HBL.out k hk
        have HBFk := Lib.hid (HBF.out k)
        have b1 : (0 : Int) ≤ (k : Int) := by omega
        have b2 : (k : Int) < (n : Int) := by omega
        clear hse q0'
        generalize phL pss k = ys at *
        generalize pss.getD k [] = m at *
        go_wp2_with fail
        refine HC1.out.mono ?_
        rintro e w3 ⟨p, rfl, hpr, hb3⟩
        obtain ⟨PA, pc, hps⟩ := hpr.shape
        subst hps
        have HP := Lib.hid hpr
        have s2 := hb3.size
        have HB3 : Hid (Below w.heap.size w w3) := HB.out.trans (hb3.mono HB.out.size)
        have HR3 := Lib.hid (HR.out.below hb3 (Nat.le_refl _))
        have hs3 : G < w3.heap.size := Nat.lt_of_lt_of_le hsz s2
        have hpo : Hid (∀ j, (Value.slice PA ys.length pc).ownBlock = some j → wr.heap.size ≤ j) := fun j hj => (World.ownsRow.lt HP.out j hj).1
        clear hpr hb3
        obtain ⟨vs, kv⟩ := HR3.out
        have q1 : w3.cell? ⟨G, k, none⟩ = some (vs.getD k (.slice none 0 0)) := by
          have hv := kv
          rw [← hlk.out] at hv
          exact hv.cell (by rw [hlk.out]; exact hlt)
        have q2 : w3.frozen? ⟨G, k, none⟩ = false := by
          have hv := kv.own
          rw [hlk.out] at hv
          exact World.ownsRow.frozenAt hv k
        have hGw : Hid (w.heap.size ≤ G) := (World.ownsRow.lt kv.own G rfl).1
        have N1 := Lib.hid (RowsV.put kv hlk.out.symm (by rw [hlk.out]; exact hlt) (HP.out.mono HB.out.size) hpo.out)
        rw [hset.out] at N1
        have NB : Hid (Below w.heap.size w (w3.setCell ⟨G, k, none⟩ (.slice PA ys.length pc))) := HB3.out.setCell hGw.out _
        clear kv
        generalize vs.getD k (.slice none 0 0) = z at *
        go_wp2
        go_roundw
        case rel => exact ⟨k + 1, A', c', by omega, by go_num, by rw [HBFk.out], by rw [HBFk.out]; exact HSE.out, ⟨_, N1.out⟩, NB.out, by simpa using hs3⟩
        case measure => simp [RowKit.intOf]; omega
      · obtain rfl : k = n := by omega
        go_wp2
        go_ret2
        exact ⟨_, rfl, by have := HR.out; rw [HA.out] at this; exact this, HB.out⟩
end Go.Proofs.Ytlgbhemjckahhaa

namespace Go.Proofs.Ytlgbhemjckahhaa
open Go.RowKit
set_option linter.unusedVariables false

set_option maxHeartbeats 1000000 in
theorem c_IndexI (l : List Int) (x : Int) (v : Value) (w : World) (hl : l.length ≤ 4000000) (hs : Seen w v l) :
    Calls Try.prog 87 #[v, .int .i64 x] w fun e w' => (∃ i : Int, e = .returned (.int .i64 i) ∧ decide (0 ≤ i) = inL l x) ∧ w = w' := by
  obtain ⟨A, c, rfl, hm, hA⟩ := hs
  clear hm
  have E1 : Hid (∀ k : Nat, k < l.length → ∃ bb off, A = some ⟨bb, off, none⟩ ∧ w.cell? ⟨bb, off + k, none⟩ = some (.int .i64 (l.getD k 0))) := fun k hk => by
    obtain ⟨bb, off, rfl, hb, hc⟩ := hA (by omega)
    exact ⟨bb, off, rfl, hc k hk⟩
  have EN : Hid ((∀ q, q < l.length → ¬ x = l.getD q 0) → inL l x = false) := fun h => by
    show _ = _
    rw [Bool.eq_false_iff]
    intro hc
    obtain ⟨q, hq, e⟩ := mem_getD (inL_iff.1 hc)
    exact h q hq e.symm
  have EY : Hid (∀ k, k < l.length → x = l.getD k 0 → inL l x = true) := fun k hk h => by
    show _ = _
    rw [inL_iff, h]
    exact getD_memN hk
  clear hA
  go_enter Try.func87, Try.ntmps87
  go_wp2_with fail
  go_loop [8] (fun i => ∃ k : Nat, k ≤ l.length ∧ i = .int .i64 k ∧ ∀ q, q < k → ¬ x = l.getD q 0) (fun i => l.length - (RowKit.intOf i).toNat)
  case atStart => exact ⟨0, Nat.zero_le _, rfl, fun q hq => by omega⟩
  case round =>
    obtain ⟨k, hk, rfl, hv⟩ := hrel
    have HV := Lib.hid hv
    clear hv
    by_cases hlt : k < l.length
    · obtain ⟨bb, off, rfl, q1⟩ := E1.out k hlt
      have b1 : (0 : Int) ≤ (k : Int) := by omega
      have b2 : (k : Int) < (l.length : Int) := by omega
      have HY := Lib.hid (EY.out k hlt)
      have HS : Hid (¬ x = l.getD k 0 → ∀ q, q < k + 1 → ¬ x = l.getD q 0) := fun hx q hq => by
        by_cases e : q = k
        · rw [e]; exact hx
        · exact HV.out q (by omega)
      generalize l.getD k 0 = t at *
      by_cases hx : x = t
      · have G : Hid (decide (0 ≤ (k : Int)) = inL l x) := by show _ = _; rw [HY.out hx, decide_eq_true b1]
        subst hx
        go_wp2
        go_ret
        exact ⟨⟨k, rfl, G.out⟩, rfl⟩
      · have G := Lib.hid (HS.out hx)
        go_wp2
        go_round
        case rel => exact ⟨k + 1, by omega, by go_num, G.out⟩
        case measure => simp [RowKit.intOf]; omega
    · obtain rfl : k = l.length := by omega
      have G : Hid (decide (0 ≤ (-1 : Int)) = inL l x) := by show _ = _; rw [EN.out HV.out]; rfl
      go_wp2
      go_ret
      exact ⟨⟨-1, rfl, G.out⟩, rfl⟩

set_option maxHeartbeats 1000000 in
theorem c_ContainsI (l : List Int) (x : Int) (v : Value) (w : World) (hl : l.length ≤ 4000000) (hs : Seen w v l) :
    Calls Try.prog 55 #[v, .int .i64 x] w fun e w' => e = .returned (.bool (inL l x)) ∧ w = w' := by
  have C := Lib.hid (c_IndexI l x v w hl hs)
  obtain ⟨A, c, rfl⟩ := hs.shape
  clear hs
  generalize inL l x = t at *
  go_enter Try.func55, Try.ntmps55
  go_wp2_with fail
  refine C.out.mono ?_
  rintro e w1 ⟨⟨i, rfl, hi⟩, rfl⟩
  have HI := Lib.hid hi
  clear hi
  go_wp2
  go_ret
  exact ⟨ret_bool HI.out, rfl⟩

set_option maxHeartbeats 1000000 in
theorem c_fnPh (l : List Int) (x : Int) (b : Nat) (v : Value) (w : World) (hl : l.length ≤ 4000000) (hs : Seen w v l) (hc : w.cell? ⟨b, 0, none⟩ = some (.int .i64 x)) :
    Calls Try.prog 54 #[v, .pointer (some ⟨b, 0, none⟩)] w fun e w' => e = .returned (.bool (inL l x)) ∧ w = w' := by
  have C := Lib.hid (c_ContainsI l x v w hl hs)
  obtain ⟨A, c, rfl⟩ := hs.shape
  clear hs
  generalize inL l x = t at *
  go_enter Try.func54, Try.ntmps54
  go_wp2_with fail
  refine C.out.mono ?_
  rintro e w1 ⟨rfl, rfl⟩
  go_wp2
  go_ret
  exact ⟨rfl, rfl⟩

set_option maxHeartbeats 4000000 in
theorem c_indexPh (yss : List (List Int)) (x : Int) (b : Nat) (v : Value) (w : World) (hl : ∀ k, k < yss.length → (yss.getD k []).length ≤ 4000000) (hn : yss.length ≤ 1000) (hs : SeenL w v yss) (hc : w.cell? ⟨b, 0, none⟩ = some (.int .i64 x)) :
    Calls Try.prog 53 #[v, .func (.func 54) #[] #[.pointer (some ⟨b, 0, none⟩)]] w fun e w' => ((e = .returned (.int .i64 (-1)) ∧ ∀ q, q < yss.length → inL (yss.getD q []) x = false) ∨ ∃ k : Nat, k < yss.length ∧ e = .returned (.int .i64 k) ∧ inL (yss.getD k []) x = true ∧ ∀ q, q < k → inL (yss.getD q []) x = false) ∧ w = w' := by
  obtain ⟨A, c, rfl, _⟩ := hs.shape
  have EC : Hid (∀ k : Nat, k < yss.length → ∃ bb off A' c'', A = some ⟨bb, off, none⟩ ∧ w.cell? ⟨bb, off + k, none⟩ = some (.slice A' (yss.getD k []).length c'') ∧ Calls Try.prog 54 #[.slice A' (yss.getD k []).length c'', .pointer (some ⟨b, 0, none⟩)] w fun e w' => e = .returned (.bool (inL (yss.getD k []) x)) ∧ w = w') := fun k hk => by
    obtain ⟨bb, off, A', c'', rfl, _, h1, h2⟩ := hs.at_ hk
    exact ⟨bb, off, A', c'', rfl, h1, c_fnPh _ x b _ w (hl k hk) h2 hc⟩
  clear hs hl hc
  generalize hN : yss.length = N at *
  clear hN
  go_enter Try.func53, Try.ntmps53
  go_wp2_with fail
  go_loopw [8] (fun i wr => ∃ k : Nat, k ≤ N ∧ i = .int .i64 k ∧ (∀ q, q < k → inL (yss.getD q []) x = false) ∧ w = wr) (fun i _ => N - (RowKit.intOf i).toNat)
  case atStart => exact ⟨0, Nat.zero_le _, rfl, fun q hq => by omega, rfl⟩
  case round =>
    obtain ⟨k, hk, rfl, hv, rfl⟩ := hrel
    have HV := Lib.hid hv
    clear hv
    by_cases hlt : k < N
    · obtain ⟨bb, off, A', c2, rfl, q1, hcl⟩ := EC.out k hlt
      have HC := Lib.hid hcl
      have b1 : (0 : Int) ≤ (k : Int) := by omega
      have b2 : (k : Int) < (N : Int) := by omega
      clear hcl
      cases hx : inL (yss.getD k []) x
      · have G : Hid (∀ q, q < k + 1 → inL (yss.getD q []) x = false) := fun q hq => by
          by_cases e : q = k
          · rw [e]; exact hx
          · exact HV.out q (by omega)
        rw [hx] at HC
        clear hx
        generalize (yss.getD k []).length = m at *
        go_wp2_with fail
        refine HC.out.mono ?_
        rintro e w2 ⟨rfl, rfl⟩
        go_wp2
        go_roundw
        case rel => exact ⟨k + 1, by omega, by go_num, G.out, trivial⟩
        case measure => simp [RowKit.intOf]; omega
      · have G := Lib.hid hx
        rw [hx] at HC
        clear hx
        generalize (yss.getD k []).length = m at *
        go_wp2_with fail
        refine HC.out.mono ?_
        rintro e w2 ⟨rfl, rfl⟩
        go_wp2
        go_ret
        exact ⟨.inr ⟨k, hlt, rfl, G.out, HV.out⟩, rfl⟩
    · obtain rfl : k = N := by omega
      go_wp2
      go_ret
      exact ⟨.inl ⟨rfl, HV.out⟩, rfl⟩

theorem phA_short {xss pss : List (List Int)} {k : Nat} (hk : k < (phA xss pss).length) : (phA xss pss).length ≤ 8 ∧ ((phA xss pss).getD k []).length ≤ 120 := by
  unfold phA at hk ⊢
  split at hk
  · rename_i h
    rw [if_pos h]
    rw [phs_len] at hk ⊢
    have := pits_len h
    rw [phs_at hk]
    exact ⟨by omega, (ph_short h hk).2⟩
  · simp at hk

set_option maxHeartbeats 4000000 in
theorem c_PhaseOfBlock (xss pss : List (List Int)) (x : Int) (v u : Value) (w : World) (hs : ShortL xss) (hs2 : ShortL pss) (h : SeenL w v xss) (hu : SeenL w u pss) :
    Calls Try.prog 22 #[v, u, .int .i64 x] w fun e w' => e = .returned (.tuple #[.int .i64 (poV xss pss x), .bool (poB xss pss x)]) ∧ Below w.heap.size w w' := by
  have HB0 : Hid (Below w.heap.size w (w.alloc (.cells #[.int .i64 x] 3))) := (Below.refl _ _).alloc (Nat.le_refl _) _
  have HX0 : Hid (Boxed (w.alloc (.cells #[.int .i64 x] 3)) w.heap.size 3 (.int .i64 x)) := Boxed.new w 3 _
  have C0 := Lib.hid (c_PhasesOf xss pss v u (w.alloc (.cells #[.int .i64 x] 3)) hs hs2 (h.below HB0.out) (hu.below HB0.out))
  have HSh : Hid (∀ k, k < (phA xss pss).length → (phA xss pss).length ≤ 8 ∧ ((phA xss pss).getD k []).length ≤ 120) := fun k hk => phA_short hk
  have hn : (phA xss pss).length ≤ 1000 := by
    rcases Nat.eq_zero_or_pos (phA xss pss).length with e | e
    · omega
    · have := (phA_short e).1; omega
  have HN : Hid ((∀ q, q < (phA xss pss).length → inL ((phA xss pss).getD q []) x = false) → poV xss pss x = 0 ∧ poB xss pss x = false) := fun hq => by
    have hb : poB xss pss x = false := by
      unfold poB
      cases hp : pitsB xss pss
      · rfl
      · rw [show phA xss pss = phsL pss pss.length by unfold phA; rw [hp]; rfl] at hq
        have h1 : ∀ q, q < pss.length → inL (phL pss q) x = false := fun q hq2 => by
          have := hq q (by rw [phs_len]; exact hq2)
          rwa [phs_at hq2] at this
        rw [fst_none (po_before h1), decide_eq_false (by omega)]
        rfl
    exact ⟨by unfold poV; rw [hb]; rfl, hb⟩
  have HY : Hid (∀ k : Nat, k < (phA xss pss).length → inL ((phA xss pss).getD k []) x = true → (∀ q, q < k → inL ((phA xss pss).getD q []) x = false) → poV xss pss x = k ∧ poB xss pss x = true) := fun k hk hx hq => by
    cases hp : pitsB xss pss
    · rw [show phA xss pss = [] by unfold phA; rw [hp]; rfl] at hk
      simp at hk
    · rw [show phA xss pss = phsL pss pss.length by unfold phA; rw [hp]; rfl] at hk hx hq
      rw [phs_len] at hk
      rw [phs_at hk] at hx
      have h1 : ∀ q, q < k → inL (phL pss q) x = false := fun q hq2 => by
        have := hq q hq2
        rwa [phs_at (by omega)] at this
      have hf := fst_hit (po_before h1) (po_at hx) hk
      have hb : poB xss pss x = true := by unfold poB; rw [hp, hf, decide_eq_true hk]; rfl
      exact ⟨by unfold poV; rw [hb, hf]; rfl, hb⟩
  obtain ⟨A, c, rfl, _⟩ := h.shape
  obtain ⟨A2, c2, rfl, _⟩ := hu.shape
  have hls := hs.1
  have hls2 := hs2.1
  clear h hu hs hs2
  generalize poV xss pss x = R at *
  generalize poB xss pss x = Z at *
  generalize phA xss pss = Y at *
  generalize pitsB xss pss = G at *
  go_enter Try.func22, Try.ntmps22
  go_wp2_with fail
  refine C0.out.mono ?_
  rintro e w1 ⟨v1, rfl, hr, hb⟩
  have HB1 := Lib.hid (HB0.out.trans (hb.mono HB0.out.size))
  have HX1 : Hid (Boxed w1 w.heap.size 3 (.int .i64 x)) := (hb.block _ HX0.out.lt).trans HX0.out
  have CI := Lib.hid (c_indexPh Y x w.heap.size v1 w1 (fun k hk => by have := (HSh.out k hk).2; omega) hn hr.seen HX1.out.cell)
  obtain ⟨A1, c1, rfl⟩ := hr.shape
  clear hr hb
  go_wp2_with fail
  refine CI.out.mono ?_
  rintro e w2 ⟨⟨rfl, hq⟩ | ⟨k, hk, rfl, hx, hq⟩, rfl⟩
  · obtain ⟨e1, e2⟩ := HN.out hq
    have E1 := Lib.hid e1
    have E2 := Lib.hid e2
    clear hq e1 e2
    go_wp2
    go_ret2
    exact ⟨by rw [E1.out, E2.out]; rfl, HB1.out⟩
  · obtain ⟨e1, e2⟩ := HY.out k hk hx hq
    have E1 := Lib.hid e1
    have E2 := Lib.hid e2
    have b1 : ¬ (k : Int) < 0 := by omega
    clear hq hx e1 e2
    go_wp2
    go_ret2
    exact ⟨by rw [E1.out, E2.out]; rfl, HB1.out⟩
end Go.Proofs.Ytlgbhemjckahhaa

namespace Go.Proofs.Ytlgbhemjckahhaa
open Go.RowKit
set_option linter.unusedVariables false

theorem hasI_in (xs : List Int) (x : Int) : hasI xs x = inL xs x := by
  unfold hasI inL
  rw [List.contains_eq_mem]
theorem c_hasL (ys : List Int) (x : Int) (v : Value) (w : World) (hl : ys.length ≤ 4000000) (h : Seen w v ys) :
    Calls Try.prog 52 #[v, .int .i64 x] w fun e w' => e = .returned (.bool (inL ys x)) ∧ w = w' := by
  have := c_l1Has ys x v w hl h
  rwa [hasI_in] at this

set_option maxHeartbeats 2000000 in
theorem c_phIn (a b : List Int) (v u : Value) (w : World) (l1 : a.length ≤ 4000000) (l2 : b.length ≤ 4000000) (h : Seen w v a) (hu : Seen w u b) :
    Calls Try.prog 81 #[v, u] w fun e w' => e = .returned (.bool (a.all (inL b))) ∧ w = w' := by
  have CH : Hid (∀ x : Int, Calls Try.prog 52 #[u, .int .i64 x] w fun e w' => e = .returned (.bool (inL b x)) ∧ w = w') := fun x => c_hasL b x u w l2 hu
  have HC := Lib.hid h
  obtain ⟨A, c, rfl⟩ := h.shape
  obtain ⟨A2, c2, rfl⟩ := hu.shape
  have FN : Hid (∀ k, k < a.length → inL b (a.getD k 0) = false → a.all (inL b) = false) := fun k hk h => all_no hk h
  have FY : Hid ((∀ q, q < a.length → inL b (a.getD q 0) = true) → a.all (inL b) = true) := fun h => all_yes h
  clear h hu
  generalize a.all (inL b) = R at *
  generalize inL b = p at *
  go_enter Try.func81, Try.ntmps81
  go_wp2_with fail
  go_loopw [9] (fun i wr => ∃ k : Nat, k ≤ a.length ∧ i = .int .i64 k ∧ (∀ q, q < k → p (a.getD q 0) = true) ∧ w = wr) (fun i _ => a.length - (RowKit.intOf i).toNat)
  case atStart => exact ⟨0, Nat.zero_le _, rfl, fun q hq => by omega, rfl⟩
  case round =>
    obtain ⟨k, hk, rfl, hv, rfl⟩ := hrel
    have HV := Lib.hid hv
    clear hv
    by_cases hlt : k < a.length
    · obtain ⟨bb, off, rfl, _, q1⟩ := HC.out.at2 hlt
      have b1 : (0 : Int) ≤ (k : Int) := by omega
      have b2 : (k : Int) < (a.length : Int) := by omega
      have HFN := Lib.hid (FN.out k hlt)
      have HS : Hid (p (a.getD k 0) = true → ∀ q, q < k + 1 → p (a.getD q 0) = true) := fun hx q hq => by
        by_cases e : q = k
        · rw [e]; exact hx
        · exact HV.out q (by omega)
      have HCx := Lib.hid (CH.out (a.getD k 0))
      generalize a.getD k 0 = t at *
      cases hx : p t
      · have G := Lib.hid (HFN.out hx)
        rw [hx] at HCx
        clear hx
        go_wp2_with fail
        refine HCx.out.mono ?_
        rintro e w2 ⟨rfl, rfl⟩
        go_wp2
        go_ret
        exact ⟨ret_bool G.out.symm, rfl⟩
      · have G := Lib.hid (HS.out hx)
        rw [hx] at HCx
        clear hx
        go_wp2_with fail
        refine HCx.out.mono ?_
        rintro e w2 ⟨rfl, rfl⟩
        go_wp2
        go_roundw
        case rel => exact ⟨k + 1, by omega, by go_num, G.out, trivial⟩
        case measure => simp [RowKit.intOf]; omega
    · obtain rfl : k = a.length := by omega
      have G := Lib.hid (FY.out HV.out)
      go_wp2
      go_ret
      exact ⟨ret_bool G.out.symm, rfl⟩

theorem less_yes {a b : List Int} {k : Nat} (hk : k < a.length) (h : inL b (a.getD k 0) = false) : lessL (a.take (k + 1)) b = lessL (a.take k) b ++ [a.getD k 0] := by
  unfold lessL
  rw [List.take_succ_eq_append_getElem hk, List.filter_append, show a[k] = a.getD k 0 by simp [hk]]
  simp only [List.filter_cons, h, Bool.not_false, if_true, List.filter_nil]
theorem less_no {a b : List Int} {k : Nat} (hk : k < a.length) (h : inL b (a.getD k 0) = true) : lessL (a.take (k + 1)) b = lessL (a.take k) b := by
  unfold lessL
  rw [List.take_succ_eq_append_getElem hk, List.filter_append, show a[k] = a.getD k 0 by simp [hk]]
  simp only [List.filter_cons, h, Bool.not_true, List.filter_nil]
  simp

set_option maxHeartbeats 4000000 in
theorem c_phLess (a b : List Int) (v u : Value) (w : World) (l1 : a.length ≤ 4000000) (l2 : b.length ≤ 4000000) (h : Seen w v a) (hu : Seen w u b) :
    Calls Try.prog 72 #[v, u] w (GivesRow w (lessL a b)) := by
  obtain ⟨i0, hi0, hz0, hz1, hz2⟩ := info_parts int_info
  have HI := Lib.hid hi0
  clear hi0
  have CH : Hid (∀ (x : Int) (w1 : World), Below w.heap.size w w1 → Calls Try.prog 52 #[u, .int .i64 x] w1 fun e w' => e = .returned (.bool (inL b x)) ∧ w1 = w') := fun x w1 hb => c_hasL b x u w1 l2 (hu.below hb)
  have HC := Lib.hid h
  obtain ⟨A, c, rfl⟩ := h.shape
  obtain ⟨A2, c2, rfl⟩ := hu.shape
  have EY : Hid (∀ k, k < a.length → inL b (a.getD k 0) = false → lessL (a.take (k + 1)) b = lessL (a.take k) b ++ [a.getD k 0]) := fun k hk h => less_yes hk h
  have EN : Hid (∀ k, k < a.length → inL b (a.getD k 0) = true → lessL (a.take (k + 1)) b = lessL (a.take k) b) := fun k hk h => less_no hk h
  have E0 : Hid (lessL (a.take 0) b = []) := rfl
  have EA : Hid (lessL (a.take a.length) b = lessL a b) := by show _ = _; rw [List.take_length]
  have EL : Hid (∀ k, (lessL (a.take k) b).length ≤ a.length) := fun k => Nat.le_trans (less_len _ _) (by rw [List.length_take]; omega)
  rw [← EA.out]
  clear h hu EA
  obtain ⟨O, hO⟩ : ∃ O : Nat → List Int, (fun k => lessL (a.take k) b) = O := ⟨_, rfl⟩
  have HO : Hid (∀ k, lessL (a.take k) b = O k) := fun k => congrFun hO k
  simp only [HO.out] at EY EN E0 EL
  rw [HO.out]
  clear hO HO
  generalize inL b = p at *
  go_enter Try.func72, Try.ntmps72
  go_wp2_with fail
  go_loopw [5, 10] (fun q i wr => ∃ k : Nat, k ≤ a.length ∧ i = .int .i64 k ∧ Row wr w.heap.size q (O k) ∧ Below w.heap.size w wr) (fun _ i _ => a.length - (RowKit.intOf i).toNat)
  case atStart => exact ⟨0, Nat.zero_le _, rfl, by rw [E0.out]; exact Row.nil _ _, Below.refl _ _⟩
  case round =>
    obtain ⟨k, hk, rfl, hrw, hb⟩ := hrel
    have HR := Lib.hid hrw
    have HB := Lib.hid hb
    clear hrw hb
    by_cases hlt : k < a.length
    · obtain ⟨bb, off, rfl, _, q1⟩ := (HC.out.below HB.out).at2 hlt
      have b1 : (0 : Int) ≤ (k : Int) := by omega
      have b2 : (k : Int) < (a.length : Int) := by omega
      have HEY := Lib.hid (EY.out k hlt)
      have HEN := Lib.hid (EN.out k hlt)
      have hLn := EL.out k
      have HCx := Lib.hid (CH.out (a.getD k 0) wr HB.out)
      have sw := HB.out.size
      generalize a.getD k 0 = t at *
      cases hx : p t
      · have G := Lib.hid (HEY.out hx)
        rw [hx] at HCx
        clear hx
        go_wp2_with fail
        refine HCx.out.mono ?_
        rintro e w2 ⟨rfl, rfl⟩
        go_wp2_with (at_builtin; refine wpList_append_own _ rfl _ _ 35 rfl (w.heap.size) 3 i0 (.int .i64 0) 1 8 Try.underlying35 HI.out hz0 hz1 hz2 rfl (by decide) _ _ _ rfl (World.ownsRow.alloc HR.out _) ⟨wr.heap.size, 0, none⟩ 1 1 [.int .i64 t] rfl rfl ?c1 ?c2 ?c3 ?c4 ?c5 ?_)
        case c1 =>
          intro jj u hjj
          match jj, hjj with
          | 0, hjj => simp at hjj; subst hjj; simp [Addr.add]
        case c2 => intro u hu; simp at hu; subst hu; rfl
        case c3 => unfold maxLen; omega
        case c4 => omega
        case c5 => simp; omega
        intro v' w5 hown' hgrow _
        have R1 : Hid (Row w5 w.heap.size v' (O (k + 1))) := by rw [G.out]; exact row_more hown'
        have R2 : Hid (Below w.heap.size w w5) := (HB.out.alloc sw _).grown hgrow (by simp; omega) (fun g hg => (World.ownsRow.lt HR.out g hg).1)
        clear hown' hgrow
        go_wp2
        go_roundw
        case rel => exact ⟨k + 1, by omega, by go_num, R1.out, R2.out⟩
        case measure => simp [RowKit.intOf]; omega
      · have G := Lib.hid (HEN.out hx)
        rw [hx] at HCx
        clear hx
        go_wp2_with fail
        refine HCx.out.mono ?_
        rintro e w2 ⟨rfl, rfl⟩
        go_wp2
        go_roundw
        case rel => exact ⟨k + 1, by omega, by go_num, by rw [G.out]; exact HR.out, HB.out⟩
        case measure => simp [RowKit.intOf]; omega
    · obtain rfl : k = a.length := by omega
      go_wp2
      go_ret
      exact ⟨_, rfl, HR.out, HB.out⟩

set_option maxHeartbeats 8000000 in
set_option maxRecDepth 100000 in
theorem c_phPits (xss pss : List (List Int)) (v u : Value) (w : World) (hs : ShortL xss) (hs2 : ShortL pss) (h : SeenL w v xss) (hu : SeenL w u pss) :
    Calls Try.prog 46 #[v, u] w fun e w' => e = .returned (.bool (pitsB xss pss)) ∧ Below w.heap.size w w' := by
  have HPs := Lib.hid hu
  have C1 : Hid (∀ (l : List Int) (q : Value) w1, l.length ≤ 4000000 → Below w.heap.size w w1 → Seen w1 q l → Calls Try.prog 80 #[v, q] w1 fun e w' => e = .returned (.bool (gB xss l)) ∧ Below w1.heap.size w1 w') := fun l q w1 hl hb hq => c_clGood xss l v q w1 hs hl (h.below hb) hq
  have C2 : Hid (∀ (l m : List Int) (q q2 : Value) w1, l.length ≤ 4000000 → m.length ≤ 4000000 → Seen w1 q l → Seen w1 q2 m → Calls Try.prog 81 #[q, q2] w1 fun e w' => e = .returned (.bool (l.all (inL m))) ∧ w1 = w') := fun l m q q2 w1 h1 h2 h3 h4 => c_phIn l m q q2 w1 h1 h2 h3 h4
  have C3 : Hid (∀ w1, Calls Try.prog 71 #[.int .i64 pss.length, .int .i64 1, .int .i64 8] w1 fun e w' => e = .returned (.bool (decide (1 ≤ (pss.length : Int) ∧ (pss.length : Int) ≤ 8))) ∧ w1 = w') := fun w1 => c_l1In _ 1 8 w1
  obtain ⟨A, c, rfl, _⟩ := h.shape
  obtain ⟨A2, c2, rfl, _⟩ := hu.shape
  have hls := hs.1
  have hls2 := hs2.1
  have HL2 : Hid (∀ k, k < pss.length → (pss.getD k []).length ≤ 1048576) := fun k hk => hs2.2 k hk
  have FT : Hid (PitTo xss pss pss.length → decide (1 ≤ (pss.length : Int) ∧ (pss.length : Int) ≤ 8) = pitsB xss pss) := fun hp => by
    by_cases hn : 1 ≤ pss.length ∧ pss.length ≤ 8
    · rw [pits_true hn hp, decide_eq_true (by omega)]
    · rw [pits_short hn, decide_eq_false (by omega)]
  have FF : Hid (∀ k, k < pss.length → pitC xss pss k = false → pitsB xss pss = false) := fun k hk h => pits_false hk h
  clear h hu hs hs2
  generalize pitsB xss pss = R at *
  obtain ⟨n, hnn⟩ : ∃ n, pss.length = n := ⟨_, rfl⟩
  have HNN := Lib.hid hnn
  rw [hnn] at FT FF HL2 hls2 C3 ⊢
  clear hnn
  generalize hdd : decide (1 ≤ (n : Int) ∧ (n : Int) ≤ 8) = D at *
  clear hdd
  go_enter Try.func46, Try.ntmps46
  go_wp2_with fail
  go_loopw [9] (fun i wr => ∃ k : Nat, k ≤ n ∧ i = .int .i64 k ∧ PitTo xss pss k ∧ Below w.heap.size w wr) (fun i _ => n - (RowKit.intOf i).toNat)
  case atStart => exact ⟨0, Nat.zero_le _, rfl, PitTo.zero _ _, Below.refl _ _⟩
  case round =>
    obtain ⟨k, hk, rfl, hpt, hb⟩ := hrel
    have HPT := Lib.hid hpt
    have HB := Lib.hid hb
    clear hpt hb
    by_cases hlt : k < n
    · obtain ⟨b, off, A', c', rfl, hbl, q0', hse⟩ := HPs.out.at_ (k := k) (by rw [HNN.out]; exact hlt)
      have q0 : wr.cell? ⟨b, off + k, none⟩ = some (.slice A' (pss.getD k []).length c') := (HB.out.cell (p := ⟨b, off + k, none⟩) hbl).trans q0'
      have HSE := Lib.hid hse
      have hlk := HL2.out k hlt
      have HC := Lib.hid (C1.out (pss.getD k []) _ wr (by omega) HB.out (hse.below HB.out))
      have b1 : (0 : Int) ≤ (k : Int) := by omega
      have b2 : (k : Int) < (n : Int) := by omega
      have FS : Hid (pitC xss pss k = true → PitTo xss pss (k + 1)) := fun h => HPT.out.succ h
      have FG : Hid (gB xss (pss.getD k []) = false → R = false) := fun h => FF.out k hlt (pitC_g h)
      have FA : Hid ((befL pss k).all (inL (pss.getD k [])) = false → R = false) := fun h => FF.out k hlt (pitC_a h)
      have FL : Hid (¬ (befL pss k).length < (pss.getD k []).length → R = false) := fun h => FF.out k hlt (pitC_l h)
      have FI : Hid (gB xss (pss.getD k []) = true → (befL pss k).all (inL (pss.getD k [])) = true → (befL pss k).length < (pss.getD k []).length → pitC xss pss k = true) := fun h1 h2 h3 => pitC_iff.2 ⟨h1, h2, h3⟩
      clear hse q0'
      cases hg : gB xss (pss.getD k [])
      · rw [hg] at HC
        have HR := Lib.hid (FG.out hg)
        clear hg
        generalize (pss.getD k []).length = mm at *
        go_wp2_with fail
        refine HC.out.mono ?_
        rintro e w1 ⟨rfl, hb⟩
        have HB1 := Lib.hid (HB.out.trans (hb.mono HB.out.size))
        clear hb
        go_wp2
        go_ret
        exact ⟨ret_bool HR.out.symm, HB1.out⟩
      · rw [hg] at HC
        have HG := Lib.hid hg
        clear hg
        by_cases hk0 : k = 0
        · have hb0 : befL pss k = [] := by rw [hk0]; rfl
          have b3 : ¬ (k : Int) > 0 := by omega
          clear hk0
          rw [hb0] at FA FL FI
          by_cases he : (pss.getD k []).length = 0
          · have HR := Lib.hid (FL.out (by rw [he]; simp))
            have he' : ((pss.getD k []).length : Int) = 0 := by omega
            clear he
            generalize (pss.getD k []).length = mm at *
            go_wp2_with fail
            refine HC.out.mono ?_
            rintro e w1 ⟨rfl, hb⟩
            have HB1 := Lib.hid (HB.out.trans (hb.mono HB.out.size))
            clear hb
            go_wp2
            go_ret
            exact ⟨ret_bool HR.out.symm, HB1.out⟩
          · have HP2 := Lib.hid (FS.out (FI.out HG.out rfl (by rw [List.length_nil]; omega)))
            have he' : ¬ ((pss.getD k []).length : Int) = 0 := by omega
            have hbe : (((pss.getD k []).length : Int) == 0) = false := beq_eq_false_iff_ne.2 he'
            clear he
            generalize (pss.getD k []).length = mm at *
            go_wp2_with fail
            refine HC.out.mono ?_
            rintro e w1 ⟨rfl, hb⟩
            have HB1 := Lib.hid (HB.out.trans (hb.mono HB.out.size))
            clear hb
            go_wp2
            go_roundw
            case rel => exact ⟨k + 1, by omega, by go_num, HP2.out, HB1.out⟩
            case measure => simp [RowKit.intOf]; omega
        · obtain ⟨j, hj⟩ : ∃ j, k = j + 1 := ⟨k - 1, by omega⟩
          have hb0 : befL pss k = pss.getD j [] := by rw [hj]; rfl
          rw [hb0] at FA FL FI
          have hjl := HL2.out j (by omega)
          have HJ : Hid (∀ wy, Below w.heap.size w wy → ∃ A4 c4, wy.cell? ⟨b, off + j, none⟩ = some (.slice A4 (pss.getD j []).length c4) ∧ Seen wy (.slice A4 (pss.getD j []).length c4) (pss.getD j [])) := fun wy hy => by
            obtain ⟨b', off', A4, c4, e4, hbl4, h1, h2⟩ := HPs.out.at_ (k := j) (by rw [HNN.out]; omega)
            simp at e4
            obtain ⟨rfl, rfl⟩ := e4
            exact ⟨A4, c4, (hy.cell (p := ⟨b, off + j, none⟩) hbl4).trans h1, h2.below hy⟩
          have b3 : (k : Int) > 0 := by omega
          have e1 : IntKind.i64.wrap ((k : Int) - 1) = (j : Int) := by rw [show (k : Int) - 1 = (j : Int) by omega]; exact IntWalk.i64_in _ (by omega)
          have b4 : (0 : Int) ≤ (j : Int) := by omega
          have b5 : (j : Int) < (n : Int) := by omega
          clear hj hk0
          generalize pss.getD k [] = m at *
          generalize pss.getD j [] = pv at *
          by_cases he : m.length = 0
          · have HR := Lib.hid (FL.out (by omega))
            have he' : (m.length : Int) = 0 := by omega
            clear he
            go_wp2_with fail
            refine HC.out.mono ?_
            rintro e w1 ⟨rfl, hb⟩
            have HB1 := Lib.hid (HB.out.trans (hb.mono HB.out.size))
            have HSE1 := Lib.hid (HSE.out.below HB1.out)
            clear hb
            go_wp2
            go_ret
            exact ⟨ret_bool HR.out.symm, HB1.out⟩
          · have he' : ¬ (m.length : Int) = 0 := by omega
            have hbe : ((m.length : Int) == 0) = false := beq_eq_false_iff_ne.2 he'
            clear he
            by_cases hle : m.length ≤ pv.length
            · have HR := Lib.hid (FL.out (by omega))
              have hle' : (m.length : Int) ≤ (pv.length : Int) := by omega
              clear hle
              go_wp2_with fail
              refine HC.out.mono ?_
              rintro e w1 ⟨rfl, hb⟩
              have HB1 := Lib.hid (HB.out.trans (hb.mono HB.out.size))
              have HSE1 := Lib.hid (HSE.out.below HB1.out)
              clear hb
              obtain ⟨A4, c4, q4, _⟩ := HJ.out w1 HB1.out
              go_wp2
              go_ret
              exact ⟨ret_bool HR.out.symm, HB1.out⟩
            · have hle' : ¬ (m.length : Int) ≤ (pv.length : Int) := by omega
              have hlt2 : pv.length < m.length := by omega
              have HLT := Lib.hid hlt2
              clear hle hlt2
              cases hal : pv.all (inL m)
              · have HR := Lib.hid (FA.out hal)
                have HAL := Lib.hid hal
                clear hal
                go_wp2_with fail
                refine HC.out.mono ?_
                rintro e w1 ⟨rfl, hb⟩
                have HB1 := Lib.hid (HB.out.trans (hb.mono HB.out.size))
                have HSE1 := Lib.hid (HSE.out.below HB1.out)
                clear hb
                obtain ⟨A4, c4, q4, hs4⟩ := HJ.out w1 HB1.out
                have HC4 := Lib.hid (C2.out pv m _ _ w1 (by omega) (by omega) hs4 HSE1.out)
                rw [HAL.out] at HC4
                clear hs4
                go_wp2_with fail
                refine HC4.out.mono ?_
                rintro e w2 ⟨rfl, rfl⟩
                go_wp2
                go_ret
                exact ⟨ret_bool HR.out.symm, HB1.out⟩
              · have HP2 := Lib.hid (FS.out (FI.out HG.out hal HLT.out))
                have HAL := Lib.hid hal
                clear hal
                go_wp2_with fail
                refine HC.out.mono ?_
                rintro e w1 ⟨rfl, hb⟩
                have HB1 := Lib.hid (HB.out.trans (hb.mono HB.out.size))
                have HSE1 := Lib.hid (HSE.out.below HB1.out)
                clear hb
                obtain ⟨A4, c4, q4, hs4⟩ := HJ.out w1 HB1.out
                have HC4 := Lib.hid (C2.out pv m _ _ w1 (by omega) (by omega) hs4 HSE1.out)
                rw [HAL.out] at HC4
                clear hs4
                go_wp2_with fail
                refine HC4.out.mono ?_
                rintro e w2 ⟨rfl, rfl⟩
                go_wp2
                go_roundw
                case rel => exact ⟨k + 1, by omega, by go_num, HP2.out, HB1.out⟩
                case measure => simp [RowKit.intOf]; omega
    · obtain rfl : k = n := by omega
      have HR := Lib.hid (FT.out HPT.out)
      go_wp2_with fail
      refine (C3.out _).mono ?_
      rintro e w2 ⟨rfl, rfl⟩
      go_wp2
      go_ret
      exact ⟨ret_bool HR.out, HB.out⟩
end Go.Proofs.Ytlgbhemjckahhaa

namespace Go.Proofs.Ytlgbhemjckahhaa
open Go.RowKit
set_option linter.unusedVariables false

set_option maxHeartbeats 8000000 in
set_option maxRecDepth 100000 in
theorem c_phPhases (pss : List (List Int)) (u : Value) (w : World) (hn8 : pss.length ≤ 8) (hl : ∀ k, k < pss.length → (pss.getD k []).length ≤ 4000000) (hu : SeenL w u pss) :
    Calls Try.prog 50 #[u] w fun e w' => ∃ v, e = .returned v ∧ Rows w' w.heap.size w'.heap.size v (phsL pss pss.length) ∧ Below w.heap.size w w' := by
  obtain ⟨j0, hj0, hy0, hy1, hy2⟩ := info_parts list_info
  have HJ := Lib.hid hj0
  clear hj0
  have HPs := Lib.hid hu
  obtain ⟨n, hnn⟩ : ∃ n, pss.length = n := ⟨_, rfl⟩
  have HNN := Lib.hid hnn
  have HBL : Hid (∀ k, k ≤ n → (befL pss k).length ≤ 4000000) := fun k hk => by
    cases k with
    | zero => simp [befL]
    | succ k => exact hl k (by omega)
  have C1 : Hid (∀ (k : Nat) (q q2 : Value) (u : World), k < n → Seen u q (pss.getD k []) → Seen u q2 (befL pss k) → Calls Try.prog 72 #[q, q2] u (GivesRow u (phL pss k))) := fun k q q2 u hk h1 h2 => c_phLess _ _ q q2 u (hl k (by omega)) (HBL.out k (by omega)) h1 h2
  have HBF : Hid (∀ k, befL pss (k + 1) = pss.getD k []) := fun k => rfl
  have OS : Hid (∀ k, phsL pss k ++ [phL pss k] = phsL pss (k + 1)) := fun k => (phs_succ pss k).symm
  have OL : Hid (∀ k, (phsL pss k).length = k) := fun k => phs_len pss k
  have O0 : Hid (phsL pss 0 = []) := rfl
  obtain ⟨A2, c2, rfl, _⟩ := hu.shape
  have HN8 : Hid (n ≤ 8) := by show _ ≤ _; omega
  rw [hnn]
  clear hu hl hnn
  generalize phsL pss = O at *
  go_enter Try.func50, Try.ntmps50
  go_wp2_with fail
  go_loopw [3, 4, 9] (fun o p i wr => ∃ (k : Nat) (Ap : Option Addr) (cp : Nat), k ≤ n ∧ i = .int .i64 k ∧ p = .slice Ap (befL pss k).length cp ∧ Seen w p (befL pss k) ∧ Rows wr w.heap.size wr.heap.size o (O k) ∧ Below w.heap.size w wr) (fun _ _ i _ => n - (RowKit.intOf i).toNat)
  case atStart => exact ⟨0, none, 0, Nat.zero_le _, rfl, rfl, Row.seen (Row.nil _ 0), by rw [O0.out]; exact Rows.nil _ _ _, Below.refl _ _⟩
  case round =>
    obtain ⟨k, Ap, cp, hk, rfl, rfl, hsp, hr, hb⟩ := hrel
    have HSP := Lib.hid hsp
    have HB := Lib.hid hb
    obtain ⟨AO, CO, hso⟩ := hr.shape
    rw [OL.out k] at hso
    subst hso
    have HR := Lib.hid hr
    clear hsp hr hb
    by_cases hlt : k < n
    · obtain ⟨b, off, A', c', rfl, hbl, q0', hse⟩ := HPs.out.at_ (k := k) (by rw [HNN.out]; exact hlt)
      have q0 : wr.cell? ⟨b, off + k, none⟩ = some (.slice A' (pss.getD k []).length c') := (HB.out.cell (p := ⟨b, off + k, none⟩) hbl).trans q0'
      have HSE := Lib.hid hse
      have HC1 := Lib.hid (C1.out k _ _ wr hlt (hse.below HB.out) (HSP.out.below HB.out))
      have hk8 : k < 8 := by have := HN8.out; omega
      have HBFk := Lib.hid (HBF.out k)
      have ON := Lib.hid (OS.out k)
      have hlen : (O k).length = k := OL.out k
      have b1 : (0 : Int) ≤ (k : Int) := by omega
      have b2 : (k : Int) < (n : Int) := by omega
      clear hse q0'
      generalize phL pss k = ys at *
      generalize pss.getD k [] = m at *
      go_wp2_with fail
      refine HC1.out.mono ?_
      rintro e wi ⟨p, rfl, hpr, hb3⟩
      obtain ⟨AK, CK, hps⟩ := hpr.shape
      subst hps
      have HRK := Lib.hid hpr
      have hbr_ := Lib.hid HB.out.size
      have hro_ := Lib.hid hb3.size
      have HBw : Hid (Below w.heap.size w wi) := HB.out.trans (hb3.mono HB.out.size)
      have HRo := Lib.hid (HR.out.below hb3 (Nat.le_refl _))
      clear hpr hb3
      have hbb : Below wi.heap.size wi (wi.alloc (.cells #[.slice AK ys.length CK] 35)) := (Below.refl _ _).alloc (Nat.le_refl _) _
      have HP6 := Lib.hid ((HRK.out.mono (Nat.le_trans hbr_.out (Nat.le_refl _))).below hbb)
      have HR6 := Lib.hid (HRo.out.below hbb hro_.out)
      have HB6 : Hid (Below w.heap.size w (wi.alloc (.cells #[.slice AK ys.length CK] 35))) := HBw.out.trans (hbb.mono HBw.out.size)
      have hpo : Hid (∀ m, (Value.slice AK ys.length CK).ownBlock = some m → wr.heap.size ≤ m) := fun m hm => (World.ownsRow.lt HRK.out m hm).1
      clear hbb
      obtain ⟨vs, hv6⟩ := HR6.out
      have HV6 := Lib.hid hv6
      clear hv6
      have sz5 := HBw.out.size
      have HLN := Lib.hid hlen
      clear hlen
      have hown : Hid ((wi.alloc (.cells #[.slice AK ys.length CK] 35)).ownsRow w.heap.size 35 1 (.slice AO k CO) k vs) := by
        have := HV6.out.own
        rw [HLN.out] at this
        exact this
      go_wp2_with (at_builtin; refine wpList_append_own _ rfl _ _ 22 rfl w.heap.size 35 j0 (.slice none 0 0) 1 24 Try.underlying22 HJ.out hy0 hy1 hy2 rfl (by decide) _ _ _ rfl hown.out ⟨wi.heap.size, 0, none⟩ 1 1 [.slice AK ys.length CK] rfl rfl ?e1 ?e2 ?e3 ?e4 ?e5 ?_)
      case e1 =>
        intro q u hq
        match q, hq with
        | 0, hq => simp at hq; subst hq; simp [Addr.add]
      case e2 => intro u hu; simp at hu; subst hu; rfl
      case e3 => unfold maxLen; omega
      case e4 => omega
      case e5 => simp; omega
      intro v' w7 hown' hgrow _
      have N1 : Hid (Rows w7 w.heap.size w7.heap.size v' _) := ⟨_, by
        have := HV6.out.push HP6.out (fun m hm => hpo.out m hm) (by rw [HLN.out]; exact hown') hgrow
        rw [ON.out] at this
        exact this⟩
      have N2 : Hid (Below w.heap.size w w7) := HB6.out.grown hgrow (by simp; omega) (fun g hg => (World.ownsRow.lt hown.out g hg).1)
      clear hown' hgrow
      go_wp2
      go_roundw
      case rel => exact ⟨k + 1, A', c', by omega, by go_num, by rw [HBFk.out], by rw [HBFk.out]; exact HSE.out, N1.out, N2.out⟩
      case measure => simp [RowKit.intOf]; omega
    · obtain rfl : k = n := by omega
      go_wp2
      go_ret
      exact ⟨_, rfl, HR.out, HB.out⟩

set_option maxHeartbeats 1000000 in
theorem c_phBoth (xss pss : List (List Int)) (v u : Value) (w : World) (hs : ShortL xss) (hs2 : ShortL pss) (h : SeenL w v xss) (hu : SeenL w u pss) :
    Calls Try.prog 49 #[v, u] w fun e w' => e = .returned (.bool (pitsB xss pss)) ∧ Below w.heap.size w w' := by
  have C1 := Lib.hid (c_clArcs xss v w hs h)
  have C2 := Lib.hid (c_phPits xss pss v u w hs hs2 h hu)
  have HA : Hid (arcB xss = false → pitsB xss pss = false) := fun h => by
    show _ = _
    rw [Bool.eq_false_iff]
    intro hp
    rw [pits_arc hp] at h
    cases h
  obtain ⟨A, c, rfl, _⟩ := h.shape
  obtain ⟨A2, c2, rfl, _⟩ := hu.shape
  have hls := hs.1
  have hls2 := hs2.1
  clear h hu hs hs2
  generalize pitsB xss pss = R at *
  cases ha : arcB xss
  · rw [ha] at C1
    have HR := Lib.hid (HA.out ha)
    go_enter Try.func49, Try.ntmps49
    go_wp2_with fail
    refine C1.out.mono ?_
    rintro e w1 ⟨rfl, rfl⟩
    go_wp2
    go_ret
    exact ⟨ret_bool HR.out.symm, Below.refl _ _⟩
  · rw [ha] at C1
    go_enter Try.func49, Try.ntmps49
    go_wp2_with fail
    refine C1.out.mono ?_
    rintro e w1 ⟨rfl, rfl⟩
    go_wp2_with fail
    refine C2.out.mono ?_
    rintro e w1 ⟨rfl, hb⟩
    have HB := Lib.hid hb
    clear hb
    go_wp2
    go_ret
    exact ⟨rfl, HB.out⟩

set_option maxHeartbeats 1000000 in
theorem c_AreNestedS (xss pss : List (List Int)) (v u : Value) (w : World) (hs : ShortL xss) (hs2 : ShortL pss) (h : SeenL w v xss) (hu : SeenL w u pss) :
    Calls Try.prog 13 #[v, u] w (Two (arcB xss && pitsB xss pss) (arcB xss) w) := by
  have C1 := Lib.hid (c_clArcs xss v w hs h)
  have C2 := Lib.hid (c_phPits xss pss v u w hs hs2 h hu)
  obtain ⟨A, c, rfl, _⟩ := h.shape
  obtain ⟨A2, c2, rfl, _⟩ := hu.shape
  have hls := hs.1
  have hls2 := hs2.1
  clear h hu hs hs2
  generalize pitsB xss pss = R at *
  cases ha : arcB xss
  · rw [ha] at C1
    rw [Bool.false_and]
    go_enter Try.func13, Try.ntmps13
    go_wp2_with fail
    refine C1.out.mono ?_
    rintro e w1 ⟨rfl, rfl⟩
    go_wp2
    go_ret2
    exact ⟨rfl, Below.refl _ _⟩
  · rw [ha] at C1
    rw [Bool.true_and]
    go_enter Try.func13, Try.ntmps13
    go_wp2_with fail
    refine C1.out.mono ?_
    rintro e w1 ⟨rfl, rfl⟩
    go_wp2_with fail
    refine C2.out.mono ?_
    rintro e w1 ⟨rfl, hb⟩
    have HB := Lib.hid hb
    clear hb
    go_wp2
    go_ret2
    exact ⟨rfl, HB.out⟩

set_option maxHeartbeats 2000000 in
theorem c_PhasesOfS (xss pss : List (List Int)) (v u : Value) (w : World) (hs : ShortL xss) (hs2 : ShortL pss) (h : SeenL w v xss) (hu : SeenL w u pss) :
    Calls Try.prog 17 #[v, u] w (GivesRows2 w (phA xss pss) (pitsB xss pss)) := by
  have C1 := Lib.hid (c_phBoth xss pss v u w hs hs2 h hu)
  have C2 : Hid (∀ w1, pitsB xss pss = true → Below w.heap.size w w1 → Calls Try.prog 50 #[u] w1 fun e w' => ∃ v, e = .returned v ∧ Rows w' w1.heap.size w'.heap.size v (phsL pss pss.length) ∧ Below w1.heap.size w1 w') := fun w1 hp hb => c_phPhases pss u w1 (pits_len hp).2 (fun k hk => by have := hs2.2 k hk; omega) (hu.below hb)
  obtain ⟨A, c, rfl, _⟩ := h.shape
  obtain ⟨A2, c2, rfl, _⟩ := hu.shape
  have hls := hs.1
  have hls2 := hs2.1
  clear h hu hs hs2
  cases hp : pitsB xss pss
  · have HL : Hid (phA xss pss = []) := by show _ = _; unfold phA; rw [hp]; rfl
    rw [hp] at C1
    rw [HL.out]
    go_enter Try.func17, Try.ntmps17
    go_wp2_with fail
    refine C1.out.mono ?_
    rintro e w1 ⟨rfl, hb⟩
    have HB := Lib.hid hb
    clear hb
    go_wp2
    go_ret2
    exact ⟨_, rfl, Rows.nil _ _ _, HB.out⟩
  · have HL : Hid (phA xss pss = phsL pss pss.length) := by show _ = _; unfold phA; rw [hp]; rfl
    have HP := Lib.hid hp
    rw [hp] at C1
    rw [HL.out]
    clear hp
    go_enter Try.func17, Try.ntmps17
    go_wp2_with fail
    refine C1.out.mono ?_
    rintro e w1 ⟨rfl, hb⟩
    have HB := Lib.hid hb
    clear hb
    go_wp2_with fail
    refine (C2.out w1 HP.out HB.out).mono ?_
    rintro e w2 ⟨v2, rfl, hr, hb⟩
    have HB2 := Lib.hid (HB.out.trans (hb.mono HB.out.size))
    have HR := Lib.hid (hr.mono HB.out.size)
    obtain ⟨A3, c3, rfl⟩ := hr.shape
    clear hr hb
    go_wp2
    go_ret2
    exact ⟨_, rfl, HR.out, HB2.out⟩

set_option maxHeartbeats 4000000 in
theorem c_PhaseOfBlockS (xss pss : List (List Int)) (x : Int) (v u : Value) (w : World) (hs : ShortL xss) (hs2 : ShortL pss) (h : SeenL w v xss) (hu : SeenL w u pss) :
    Calls Try.prog 21 #[v, u, .int .i64 x] w fun e w' => e = .returned (.tuple #[.int .i64 (poV xss pss x), .bool (poB xss pss x)]) ∧ Below w.heap.size w w' := by
  have C1 := Lib.hid (c_phBoth xss pss v u w hs hs2 h hu)
  have CH : Hid (∀ (k : Nat) (q : Value) (w1 : World), k < pss.length → Seen w1 q (pss.getD k []) → Calls Try.prog 52 #[q, .int .i64 x] w1 fun e w' => e = .returned (.bool (poP pss x k)) ∧ w1 = w') := fun k q w1 hk hq => c_hasL _ x q w1 (by have := hs2.2 k hk; omega) hq
  have HPs := Lib.hid hu
  have HN : Hid (pitsB xss pss = false → poV xss pss x = 0 ∧ poB xss pss x = false) := fun hp => by
    have hb : poB xss pss x = false := by unfold poB; rw [hp]; rfl
    exact ⟨by unfold poV; rw [hb]; rfl, hb⟩
  have HE : Hid ((∀ q, q < pss.length → poP pss x q = false) → poV xss pss x = 0 ∧ poB xss pss x = false) := fun hq => by
    have hb : poB xss pss x = false := by unfold poB; rw [fst_none hq, decide_eq_false (by omega), Bool.and_false]
    exact ⟨by unfold poV; rw [hb]; rfl, hb⟩
  have HY : Hid (pitsB xss pss = true → ∀ k : Nat, k < pss.length → poP pss x k = true → (∀ q, q < k → poP pss x q = false) → poV xss pss x = k ∧ poB xss pss x = true) := fun hp k hk hx hq => by
    have hf := fst_hit hq hx hk
    have hb : poB xss pss x = true := by unfold poB; rw [hp, hf, decide_eq_true hk]; rfl
    exact ⟨by unfold poV; rw [hb, hf]; rfl, hb⟩
  obtain ⟨A, c, rfl, _⟩ := h.shape
  obtain ⟨A2, c2, rfl, _⟩ := hu.shape
  have hls := hs.1
  have hls2 := hs2.1
  clear h hu hs hs2
  generalize poV xss pss x = R at *
  generalize poB xss pss x = Z at *
  generalize poP pss x = P at *
  cases hp : pitsB xss pss
  · obtain ⟨e1, e2⟩ := HN.out hp
    have E1 := Lib.hid e1
    have E2 := Lib.hid e2
    rw [hp] at C1
    clear e1 e2 hp
    go_enter Try.func21, Try.ntmps21
    go_wp2_with fail
    refine C1.out.mono ?_
    rintro e w1 ⟨rfl, hb⟩
    have HB := Lib.hid hb
    clear hb
    go_wp2
    go_ret2
    exact ⟨by rw [E1.out, E2.out]; rfl, HB.out⟩
  · have HYp := Lib.hid (HY.out hp)
    rw [hp] at C1
    clear hp
    obtain ⟨n, hnn⟩ : ∃ n, pss.length = n := ⟨_, rfl⟩
    have HNN := Lib.hid hnn
    rw [hnn] at HE HYp hls2 C1 CH ⊢
    clear hnn
    go_enter Try.func21, Try.ntmps21
    go_wp2_with fail
    refine C1.out.mono ?_
    rintro e w1 ⟨rfl, hb⟩
    have HB := Lib.hid hb
    clear hb
    go_wp2_with fail
    go_loopw [16] (fun i wr => ∃ k : Nat, k ≤ n ∧ i = .int .i64 k ∧ (∀ q, q < k → P q = false) ∧ w1 = wr) (fun i _ => n - (RowKit.intOf i).toNat)
    case atStart => exact ⟨0, Nat.zero_le _, rfl, fun q hq => by omega, rfl⟩
    case round =>
      obtain ⟨k, hk, rfl, hv, rfl⟩ := hrel
      have HV := Lib.hid hv
      clear hv
      by_cases hlt : k < n
      · obtain ⟨b, off, A', c', rfl, hbl, q0', hse⟩ := HPs.out.at_ (k := k) (by rw [HNN.out]; exact hlt)
        have q0 : w1.cell? ⟨b, off + k, none⟩ = some (.slice A' (pss.getD k []).length c') := (HB.out.cell (p := ⟨b, off + k, none⟩) hbl).trans q0'
        have HCx := Lib.hid (CH.out k _ w1 hlt (hse.below HB.out))
        have b1 : (0 : Int) ≤ (k : Int) := by omega
        have b2 : (k : Int) < (n : Int) := by omega
        have HYk := Lib.hid (HYp.out k hlt)
        have HS : Hid (P k = false → ∀ q, q < k + 1 → P q = false) := fun hx q hq => by
          by_cases e : q = k
          · rw [e]; exact hx
          · exact HV.out q (by omega)
        clear hse q0'
        generalize (pss.getD k []).length = mm at *
        cases hx : P k
        · have G := Lib.hid (HS.out hx)
          rw [hx] at HCx
          clear hx
          go_wp2_with fail
          refine HCx.out.mono ?_
          rintro e w2 ⟨rfl, rfl⟩
          go_wp2
          go_roundw
          case rel => exact ⟨k + 1, by omega, by go_num, G.out, trivial⟩
          case measure => simp [RowKit.intOf]; omega
        · obtain ⟨e1, e2⟩ := HYk.out hx HV.out
          have E1 := Lib.hid e1
          have E2 := Lib.hid e2
          rw [hx] at HCx
          clear hx e1 e2
          go_wp2_with fail
          refine HCx.out.mono ?_
          rintro e w2 ⟨rfl, rfl⟩
          go_wp2
          go_ret2
          exact ⟨by rw [E1.out, E2.out]; rfl, HB.out⟩
      · obtain rfl : k = n := by omega
        obtain ⟨e1, e2⟩ := HE.out HV.out
        have E1 := Lib.hid e1
        have E2 := Lib.hid e2
        clear e1 e2
        go_wp2
        go_ret2
        exact ⟨by rw [E1.out, E2.out]; rfl, HB.out⟩

/-! ### what the law's own helpers ask of the answers -/
theorem totN_le {yss : List (List Int)} {M : Nat} (h : ∀ k, k < yss.length → (yss.getD k []).length ≤ M) : ∀ n, n ≤ yss.length → totN yss n ≤ n * M
  | 0, _ => by simp [totN]
  | n + 1, hn => by
    have h1 := totN_le h n (by omega)
    have h2 := h n (by omega)
    show totN yss n + (yss.getD n []).length ≤ _
    rw [Nat.succ_mul]
    omega
theorem rows_facts {yss : List (List Int)} (hn : yss.length ≤ 8) (h : ∀ k, k < yss.length → (yss.getD k []).length ≤ 120) : yss.length ≤ 1048576 ∧ Hid (Short yss) ∧ totN yss yss.length ≤ 1048576 := by
  have ht := totN_le h yss.length (Nat.le_refl _)
  have hm := Nat.mul_le_mul_right 120 hn
  exact ⟨by omega, fun k hk => by have := h k hk; omega, by omega⟩
theorem ph_facts (xss pss : List (List Int)) : (phA xss pss).length ≤ 1048576 ∧ Hid (Short (phA xss pss)) ∧ totN (phA xss pss) (phA xss pss).length ≤ 1048576 := by
  refine rows_facts ?_ fun k hk => (phA_short hk).2
  rcases Nat.eq_zero_or_pos (phA xss pss).length with e | e
  · omega
  · exact (phA_short e).1
end Go.Proofs.Ytlgbhemjckahhaa

namespace Go.Proofs.Ytlgbhemjckahhaa
open Go.RowKit
set_option linter.unusedVariables false

theorem Rows.upR {w : World} {B U U' : Nat} {v : Value} {xss : List (List Int)} (h : Rows w B U v xss) (hU : U ≤ U') : Rows w B U' v xss := by
  obtain ⟨vs, h⟩ := h
  exact ⟨vs, h.len, h.own, fun k e => Nat.lt_of_lt_of_le (h.top k e) hU, h.row, fun i k hi e => Nat.lt_of_lt_of_le (h.rtop i k hi e) hU, h.apart⟩

set_option maxHeartbeats 1000000 in
theorem c_fnFl (l : List Int) (xss : List (List Int)) (b : Nat) (A0 : Option Addr) (c0 : Nat) (v : Value) (w : World) (hl : l.length ≤ 4000000) (hx0 : xss.length ≤ 1048576) (hs : Seen w v l) (hc : w.cell? ⟨b, 0, none⟩ = some (.slice A0 xss.length c0)) :
    Calls Try.prog 105 #[v, .pointer (some ⟨b, 0, none⟩)] w fun e w' => e = .returned (.bool (!risB xss.length l)) ∧ w = w' := by
  have C := Lib.hid (c_areBlocksBelow xss.length l v w hl hs)
  obtain ⟨A, c, rfl⟩ := hs.shape
  clear hs
  generalize risB xss.length l = t at *
  go_enter Try.func105, Try.ntmps105
  go_wp2_with fail
  refine C.out.mono ?_
  rintro e w1 ⟨rfl, rfl⟩
  go_wp2
  go_ret
  exact ⟨rfl, rfl⟩

set_option maxHeartbeats 4000000 in
theorem c_indexFl (yss : List (List Int)) (xss : List (List Int)) (b : Nat) (A0 : Option Addr) (c0 : Nat) (v : Value) (w : World) (hl : ∀ k, k < yss.length → (yss.getD k []).length ≤ 4000000) (hn : yss.length ≤ 1000) (hs : SeenL w v yss) (hc : w.cell? ⟨b, 0, none⟩ = some (.slice A0 xss.length c0)) (hx0 : xss.length ≤ 1048576) :
    Calls Try.prog 53 #[v, .func (.func 105) #[] #[.pointer (some ⟨b, 0, none⟩)]] w fun e w' => ((e = .returned (.int .i64 (-1)) ∧ ∀ q, q < yss.length → (!risB xss.length (yss.getD q [])) = false) ∨ ∃ k : Nat, k < yss.length ∧ e = .returned (.int .i64 k) ∧ (!risB xss.length (yss.getD k [])) = true ∧ ∀ q, q < k → (!risB xss.length (yss.getD q [])) = false) ∧ w = w' := by
  obtain ⟨A, c, rfl, _⟩ := hs.shape
  have EC : Hid (∀ k : Nat, k < yss.length → ∃ bb off A' c'', A = some ⟨bb, off, none⟩ ∧ w.cell? ⟨bb, off + k, none⟩ = some (.slice A' (yss.getD k []).length c'') ∧ Calls Try.prog 105 #[.slice A' (yss.getD k []).length c'', .pointer (some ⟨b, 0, none⟩)] w fun e w' => e = .returned (.bool ((!risB xss.length (yss.getD k [])))) ∧ w = w') := fun k hk => by
    obtain ⟨bb, off, A', c'', rfl, _, h1, h2⟩ := hs.at_ hk
    exact ⟨bb, off, A', c'', rfl, h1, c_fnFl _ xss b A0 c0 _ w (hl k hk) hx0 h2 hc⟩
  clear hs hl hc
  generalize hN : yss.length = N at *
  clear hN
  go_enter Try.func53, Try.ntmps53
  go_wp2_with fail
  go_loopw [8] (fun i wr => ∃ k : Nat, k ≤ N ∧ i = .int .i64 k ∧ (∀ q, q < k → (!risB xss.length (yss.getD q [])) = false) ∧ w = wr) (fun i _ => N - (RowKit.intOf i).toNat)
  case atStart => exact ⟨0, Nat.zero_le _, rfl, fun q hq => by omega, rfl⟩
  case round =>
    obtain ⟨k, hk, rfl, hv, rfl⟩ := hrel
    have HV := Lib.hid hv
    clear hv
    by_cases hlt : k < N
    · obtain ⟨bb, off, A', c2, rfl, q1, hcl⟩ := EC.out k hlt
      have HC := Lib.hid hcl
      have b1 : (0 : Int) ≤ (k : Int) := by omega
      have b2 : (k : Int) < (N : Int) := by omega
      clear hcl
      cases hx : (!risB xss.length (yss.getD k []))
      · have G : Hid (∀ q, q < k + 1 → (!risB xss.length (yss.getD q [])) = false) := fun q hq => by
          by_cases e : q = k
          · rw [e]; exact hx
          · exact HV.out q (by omega)
        rw [hx] at HC
        clear hx
        generalize (yss.getD k []).length = m at *
        go_wp2_with fail
        refine HC.out.mono ?_
        rintro e w2 ⟨rfl, rfl⟩
        go_wp2
        go_roundw
        case rel => exact ⟨k + 1, by omega, by go_num, G.out, trivial⟩
        case measure => simp [RowKit.intOf]; omega
      · have G := Lib.hid hx
        rw [hx] at HC
        clear hx
        generalize (yss.getD k []).length = m at *
        go_wp2_with fail
        refine HC.out.mono ?_
        rintro e w2 ⟨rfl, rfl⟩
        go_wp2
        go_ret
        exact ⟨.inr ⟨k, hlt, rfl, G.out, HV.out⟩, rfl⟩
    · obtain rfl : k = N := by omega
      go_wp2
      go_ret
      exact ⟨.inl ⟨rfl, HV.out⟩, rfl⟩

set_option maxHeartbeats 1000000 in
theorem c_containsFl (yss xss : List (List Int)) (b : Nat) (A0 : Option Addr) (c0 : Nat) (v : Value) (w : World) (hl : ∀ k, k < yss.length → (yss.getD k []).length ≤ 4000000) (hn : yss.length ≤ 1000) (hs : SeenL w v yss) (hc : w.cell? ⟨b, 0, none⟩ = some (.slice A0 xss.length c0)) (hx0 : xss.length ≤ 1048576) :
    Calls Try.prog 104 #[v, .func (.func 105) #[] #[.pointer (some ⟨b, 0, none⟩)]] w fun e w' => e = .returned (.bool (!(List.range yss.length).all fun i => risB xss.length (yss.getD i []))) ∧ w = w' := by
  have C := Lib.hid (c_indexFl yss xss b A0 c0 v w hl hn hs hc hx0)
  obtain ⟨A, c, rfl, _⟩ := hs.shape
  have F0 : Hid ((∀ q, q < yss.length → (!risB xss.length (yss.getD q [])) = false) → (!(List.range yss.length).all fun i => risB xss.length (yss.getD i [])) = false) := fun h => by
    show _ = _
    rw [Bool.not_eq_false', List.all_eq_true]
    intro i hi
    have := h i (List.mem_range.1 hi)
    rwa [Bool.not_eq_false'] at this
  have F1 : Hid (∀ k, k < yss.length → (!risB xss.length (yss.getD k [])) = true → (!(List.range yss.length).all fun i => risB xss.length (yss.getD i [])) = true) := fun k hk h => by
    show _ = _
    rw [Bool.not_eq_true'] at h ⊢
    rw [List.all_eq_false]
    exact ⟨k, List.mem_range.2 hk, by rw [h]; simp⟩
  clear hs hc hl
  generalize (!(List.range yss.length).all fun i => risB xss.length (yss.getD i [])) = t at *
  go_enter Try.func104, Try.ntmps104
  go_wp2_with fail
  refine C.out.mono ?_
  rintro e w1 ⟨⟨rfl, hq⟩ | ⟨k, hk, rfl, hx, hq⟩, rfl⟩
  · have G := Lib.hid (F0.out hq)
    clear hq
    go_wp2
    go_ret
    exact ⟨ret_bool G.out.symm, rfl⟩
  · have G := Lib.hid (F1.out k hk hx)
    have b1 : (k : Int) ≥ 0 := by omega
    clear hq hx
    go_wp2
    go_ret
    exact ⟨ret_bool G.out.symm, rfl⟩

set_option maxHeartbeats 2000000 in
theorem c_areListsToFill (xss lss : List (List Int)) (v u : Value) (w : World) (hs : ShortL xss) (hs2 : ShortL lss) (h : SeenL w v xss) (hu : SeenL w u lss) :
    Calls Try.prog 77 #[v, u] w fun e w' => e = .returned (.bool (fillB xss lss)) ∧ Below w.heap.size w w' := by
  have HU := Lib.hid hu
  have HLs : Hid (∀ k, k < lss.length → (lss.getD k []).length ≤ 4000000) := fun k hk => by have := hs2.2 k hk; omega
  have HV := Lib.hid h
  obtain ⟨A, c, rfl, _⟩ := h.shape
  obtain ⟨A2, c2, rfl, _⟩ := hu.shape
  have HB0 : Hid (Below w.heap.size w (w.alloc (.cells #[.slice A xss.length c] 22))) := (Below.refl _ _).alloc (Nat.le_refl _) _
  have C1 := Lib.hid (c_AreArcs xss (.slice A xss.length c) (w.alloc (.cells #[.slice A xss.length c] 22)) hs (HV.out.below HB0.out))
  have hls := hs.1
  have hls2 := hs2.1
  clear h hu hs hs2
  cases ha : arcB xss
  · have HR : Hid (fillB xss lss = false) := by show _ = _; unfold fillB; rw [ha, Bool.false_and]
    rw [ha] at C1
    rw [HR.out]
    go_enter Try.func77, Try.ntmps77
    go_wp2_with fail
    refine C1.out.mono ?_
    rintro e w1 ⟨rfl, rfl⟩
    go_wp2
    go_ret
    exact ⟨rfl, HB0.out⟩
  · rw [ha] at C1
    by_cases hn : 1 ≤ lss.length ∧ lss.length ≤ 8
    · have HR : Hid (fillB xss lss = (List.range lss.length).all fun i => risB xss.length (lss.getD i [])) := by show _ = _; unfold fillB; rw [ha, decide_eq_true hn, Bool.true_and, Bool.true_and]
      have d1 : ¬ ((lss.length : Int) < 1) := by omega
      have d2 : ¬ ((lss.length : Int) > 8) := by omega
      have C2 := Lib.hid (c_containsFl lss xss w.heap.size A c (.slice A2 lss.length c2) (w.alloc (.cells #[.slice A xss.length c] 22)) HLs.out (by omega) (HU.out.below HB0.out) (by simp) hls)
      rw [HR.out]
      clear hn ha
      generalize ((List.range lss.length).all fun i => risB xss.length (lss.getD i [])) = t at *
      go_enter Try.func77, Try.ntmps77
      go_wp2_with fail
      refine C1.out.mono ?_
      rintro e w1 ⟨rfl, rfl⟩
      go_wp2_with fail
      refine C2.out.mono ?_
      rintro e w1 ⟨rfl, rfl⟩
      go_wp2
      go_ret
      exact ⟨by simp, HB0.out⟩
    · have HR : Hid (fillB xss lss = false) := by show _ = _; unfold fillB; rw [decide_eq_false hn, Bool.false_and, Bool.and_false]
      rw [HR.out]
      rcases Nat.lt_or_ge lss.length 1 with h1 | h1
      · have d1 : (lss.length : Int) < 1 := by omega
        go_enter Try.func77, Try.ntmps77
        go_wp2_with fail
        refine C1.out.mono ?_
        rintro e w1 ⟨rfl, rfl⟩
        go_wp2
        go_ret
        exact ⟨rfl, HB0.out⟩
      · have d1 : ¬ (lss.length : Int) < 1 := by omega
        have d2 : (lss.length : Int) > 8 := by omega
        go_enter Try.func77, Try.ntmps77
        go_wp2_with fail
        refine C1.out.mono ?_
        rintro e w1 ⟨rfl, rfl⟩
        go_wp2
        go_ret
        exact ⟨rfl, HB0.out⟩

theorem fi_ok {xss lss : List (List Int)} (h : fillB xss lss = true) {k : Nat} (hk : k ≤ lss.length) : gB xss (fiS xss lss k).2 = true ∧ (fiS xss lss k).2.length ≤ 120 := by
  obtain ⟨ha, _, hr⟩ := fill_iff.1 h
  have hg := fi_good ha k fun i hi => hr i (by omega)
  have h1 := ris_len (gB_iff.1 hg).1.2 (by omega)
  have h2 := arc_len ha
  exact ⟨hg, by omega⟩
theorem un_short {xss lss : List (List Int)} (h : fillB xss lss = true) (now l : List Int) : (unC xss now l).length ≤ 120 := by
  have h1 := sel_len (dnS xss (addL l (inL now)) xss.length) xss.length
  have h2 := arc_len (fill_iff.1 h).1
  unfold unC
  omega

set_option maxHeartbeats 8000000 in
set_option maxRecDepth 100000 in
theorem c_FillPits (xss lss : List (List Int)) (v u : Value) (w : World) (hs : ShortL xss) (hs2 : ShortL lss) (h : SeenL w v xss) (hu : SeenL w u lss) :
    Calls Try.prog 43 #[v, u] w (GivesRows2 w (fiA xss lss) (fiB xss lss)) := by
  obtain ⟨j0, hj0, hy0, hy1, hy2⟩ := info_parts list_info
  have HJ := Lib.hid hj0
  clear hj0
  have C0 := Lib.hid (c_areListsToFill xss lss v u w hs hs2 h hu)
  have HPs := Lib.hid hu
  have HVs := Lib.hid h
  cases hf : fillB xss lss
  · have HL : Hid (fiA xss lss = [] ∧ fiB xss lss = false) := ⟨by unfold fiA; rw [hf]; rfl, by unfold fiB; rw [hf]; rfl⟩
    rw [hf] at C0
    rw [HL.out.1, HL.out.2]
    obtain ⟨A, c, rfl, _⟩ := h.shape
    obtain ⟨A2, c2, rfl, _⟩ := hu.shape
    have hls := hs.1
    have hls2 := hs2.1
    clear h hu hs hs2 hf
    go_enter Try.func43, Try.ntmps43
    go_wp2_with fail
    refine C0.out.mono ?_
    rintro e w1 ⟨rfl, hb⟩
    have HB := Lib.hid hb
    clear hb
    go_wp2
    go_ret2
    exact ⟨_, rfl, Rows.nil _ _ _, HB.out⟩
  · obtain ⟨ha, ⟨n1, n2⟩, hr⟩ := fill_iff.1 hf
    have HL : Hid (fiA xss lss = (fiS xss lss lss.length).1 ∧ fiB xss lss = decide (0 < (fiS xss lss lss.length).1.length)) := ⟨by unfold fiA; rw [hf]; rfl, by unfold fiB; rw [hf]; rfl⟩
    rw [hf] at C0
    obtain ⟨n, hnn⟩ : ∃ n, lss.length = n := ⟨_, rfl⟩
    have HNN := Lib.hid hnn
    have hN := arc_len ha
    have C1 : Hid (∀ (k : Nat) (q : Value) (w1 : World), k < n → Below w.heap.size w w1 → Seen w1 q (lss.getD k []) → Calls Try.prog 79 #[v, q] w1 (GivesRow w1 (clL xss (lss.getD k [])))) := fun k q w1 hk hb hq => by
      have hrk := hr k (by omega)
      have := ris_len hrk (by omega)
      exact c_closeList xss _ v q w1 ha (InN.ris hrk) (by omega) (h.below hb) hq
    have C2 : Hid (∀ (k : Nat) (q q2 : Value) (w1 : World), k < n → Below w.heap.size w w1 → Seen w1 q (fiS xss lss k).2 → Seen w1 q2 (clL xss (lss.getD k [])) → Calls Try.prog 78 #[v, q, q2] w1 (GivesRow2 w1 (unC xss (fiS xss lss k).2 (lss.getD k [])) true)) := fun k q q2 w1 hk hb hq hq2 => by
      obtain ⟨hg, hgl⟩ := fi_ok hf (k := k) (by omega)
      have hrk := hr k (by omega)
      have hcl : gB xss (clL xss (lss.getD k [])) = true := by
        have e : clL xss (lss.getD k []) = unC xss [] (lss.getD k []) := un_cl (by funext x; simp [addL, inL])
        rw [e]
        exact un_good ha (fun x hx => by cases hx) (fun x hx => ris_mem hrk hx)
      have := c_JoinClosures xss (fiS xss lss k).2 (clL xss (lss.getD k [])) v q q2 w1 hs (by omega) (by have := clL_len xss (lss.getD k []); omega) (h.below hb) hq hq2
      unfold joA at this
      rw [hg, hcl, Bool.true_and, if_pos rfl, un_eq hg (fun x hx => ris_mem hrk hx)] at this
      exact this
    have HS : Hid (∀ k, k < n → (fiS xss lss k).2.length ≤ 120 ∧ (unC xss (fiS xss lss k).2 (lss.getD k [])).length ≤ 120) := fun k hk => ⟨(fi_ok hf (k := k) (by omega)).2, un_short hf _ _⟩
    have HT : Hid (∀ k, (fiS xss lss k).2.length < (unC xss (fiS xss lss k).2 (lss.getD k [])).length → (fiS xss lss k).1 ++ [unC xss (fiS xss lss k).2 (lss.getD k [])] = (fiS xss lss (k + 1)).1 ∧ (fiS xss lss (k + 1)).2 = unC xss (fiS xss lss k).2 (lss.getD k [])) := fun k hk => by
      rw [fi_take hk]
      exact ⟨rfl, rfl⟩
    have HK : Hid (∀ k, ¬ (fiS xss lss k).2.length < (unC xss (fiS xss lss k).2 (lss.getD k [])).length → fiS xss lss (k + 1) = fiS xss lss k) := fun k hk => fi_skip hk
    have HLn : Hid (∀ k, (fiS xss lss k).1.length ≤ k) := fun k => fi_len xss lss k
    have H0 : Hid (fiS xss lss 0 = ([], [])) := rfl
    have HN8 : Hid (n ≤ 8) := by show _ ≤ _; omega
    obtain ⟨A, c, rfl, _⟩ := h.shape
    obtain ⟨A2, c2, rfl, _⟩ := hu.shape
    have hls := hs.1
    rw [HL.out.1, HL.out.2]
    rw [hnn] at C0 ⊢
    clear h hu hs hs2 hf HL hnn ha hr n1 n2 hN
    generalize fiS xss lss = F at *
    go_enter Try.func43, Try.ntmps43
    go_wp2_with fail
    refine C0.out.mono ?_
    rintro e w1 ⟨rfl, hb⟩
    have HB1 := Lib.hid hb
    clear hb
    go_wp2_with fail
    go_loopw [6, 7, 18] (fun o p i wr => ∃ (k : Nat) (Ap : Option Addr) (cp : Nat), k ≤ n ∧ i = .int .i64 k ∧ p = .slice Ap (F k).2.length cp ∧ Seen wr p (F k).2 ∧ Rows wr w.heap.size wr.heap.size o (F k).1 ∧ Below w.heap.size w wr) (fun _ _ i _ => n - (RowKit.intOf i).toNat)
    case atStart => exact ⟨0, none, 0, Nat.zero_le _, rfl, by rw [H0.out]; rfl, by rw [H0.out]; exact Row.seen (Row.nil _ 0), by rw [H0.out]; exact Rows.nil _ _ _, HB1.out⟩
    case round =>
      obtain ⟨k, Ap, cp, hk, rfl, rfl, hsp, hr, hb⟩ := hrel
      have HSP := Lib.hid hsp
      have HB := Lib.hid hb
      obtain ⟨AO, CO, hso⟩ := hr.shape
      subst hso
      have HR := Lib.hid hr
      clear hsp hr hb
      by_cases hlt : k < n
      · obtain ⟨b, off, A', c', rfl, hbl, q0', hse⟩ := HPs.out.at_ (k := k) (by rw [HNN.out]; exact hlt)
        have q0 : wr.cell? ⟨b, off + k, none⟩ = some (.slice A' (lss.getD k []).length c') := (HB.out.cell (p := ⟨b, off + k, none⟩) hbl).trans q0'
        have HC1 := Lib.hid (C1.out k _ wr hlt HB.out (hse.below HB.out))
        have HC2 := Lib.hid (fun q q2 w1 => C2.out k q q2 w1 hlt)
        have hk8 : k < 8 := by have := HN8.out; omega
        obtain ⟨hs1, hs2⟩ := HS.out k hlt
        have HTk := Lib.hid (HT.out k)
        have HKk := Lib.hid (HK.out k)
        obtain ⟨nq, hlen⟩ : ∃ nq, (F k).1.length = nq := ⟨_, rfl⟩
        have hnq : nq ≤ 8 := by have := HLn.out k; omega
        have b1 : (0 : Int) ≤ (k : Int) := by omega
        have b2 : (k : Int) < (n : Int) := by omega
        rw [hlen] at HR ⊢
        clear hse q0'
        generalize unC xss (F k).2 (lss.getD k []) = ys at *
        generalize clL xss (lss.getD k []) = cs at *
        generalize (lss.getD k []).length = mm at *
        have HLE := Lib.hid hlen
        clear hlen
        go_wp2_with fail
        refine HC1.out.mono ?_
        rintro e w3 ⟨q3, rfl, h3, hb3⟩
        have HB3 := Lib.hid (HB.out.trans (hb3.mono HB.out.size))
        have HSP3 := Lib.hid (HSP.out.below hb3)
        have HR3 := Lib.hid (HR.out.below hb3 (Nat.le_refl _))
        have hs3z := hb3.size
        have HC3 := Lib.hid (HC2.out _ _ w3 HB3.out HSP3.out h3.seen)
        obtain ⟨A3, c3, rfl⟩ := h3.shape
        clear h3 hb3
        go_wp2_with fail
        refine HC3.out.mono ?_
        rintro e wi ⟨p, rfl, hpr, hb3⟩
        obtain ⟨AK, CK, hps⟩ := hpr.shape
        subst hps
        have HRK := Lib.hid hpr
        have HBw : Hid (Below w.heap.size w wi) := HB3.out.trans (hb3.mono HB3.out.size)
        have hbr_ := Lib.hid HB3.out.size
        have hro_ := Lib.hid (Nat.le_trans hs3z hb3.size)
        have HRo := Lib.hid (HR3.out.below hb3 hs3z)
        have HSPi := Lib.hid (HSP3.out.below hb3)
        clear hpr hb3
        by_cases hlx : (F k).2.length < ys.length
        · have hlx' : (ys.length : Int) > ((F k).2.length : Int) := by omega
          obtain ⟨e1, e2⟩ := HTk.out hlx
          have ON := Lib.hid e1
          have E2 := Lib.hid e2
          clear e1 e2 hlx
          have hlen : (F k).1.length = nq := HLE.out
          have hbb : Below wi.heap.size wi (wi.alloc (.cells #[.slice AK ys.length CK] 35)) := (Below.refl _ _).alloc (Nat.le_refl _) _
          have HP6 := Lib.hid ((HRK.out.mono (Nat.le_trans hbr_.out (Nat.le_refl _))).below hbb)
          have HR6 := Lib.hid (HRo.out.below hbb hro_.out)
          have HB6 : Hid (Below w.heap.size w (wi.alloc (.cells #[.slice AK ys.length CK] 35))) := HBw.out.trans (hbb.mono HBw.out.size)
          have hpo : Hid (∀ m, (Value.slice AK ys.length CK).ownBlock = some m → wr.heap.size ≤ m) := fun m hm => Nat.le_trans hs3z (World.ownsRow.lt HRK.out m hm).1
          clear hbb
          obtain ⟨vs, hv6⟩ := HR6.out
          have HV6 := Lib.hid hv6
          clear hv6
          have sz5 := HBw.out.size
          have HLN := Lib.hid hlen
          clear hlen
          have hown : Hid ((wi.alloc (.cells #[.slice AK ys.length CK] 35)).ownsRow w.heap.size 35 1 (.slice AO nq CO) nq vs) := by
            have := HV6.out.own
            rw [HLN.out] at this
            exact this
          go_wp2_with (at_builtin; refine wpList_append_own _ rfl _ _ 22 rfl w.heap.size 35 j0 (.slice none 0 0) 1 24 Try.underlying22 HJ.out hy0 hy1 hy2 rfl (by decide) _ _ _ rfl hown.out ⟨wi.heap.size, 0, none⟩ 1 1 [.slice AK ys.length CK] rfl rfl ?e1 ?e2 ?e3 ?e4 ?e5 ?_)
          case e1 =>
            intro q u hq
            match q, hq with
            | 0, hq => simp at hq; subst hq; simp [Addr.add]
          case e2 => intro u hu; simp at hu; subst hu; rfl
          case e3 => unfold maxLen; omega
          case e4 => omega
          case e5 => simp; omega
          intro v' w7 hown' hgrow _
          have N1 : Hid (Rows w7 w.heap.size w7.heap.size v' _) := ⟨_, by
            have := HV6.out.push HP6.out (fun m hm => hpo.out m hm) (by rw [HLN.out]; exact hown') hgrow
            rw [ON.out] at this
            exact this⟩
          have NR := Lib.hid (World.ownsRow.kept HP6.out hgrow (HV6.out.apart_row HP6.out))
          have N2 : Hid (Below w.heap.size w w7) := HB6.out.grown hgrow (by simp; omega) (fun g hg => (World.ownsRow.lt hown.out g hg).1)
          clear hown' hgrow
          go_wp2
          go_roundw
          case rel => exact ⟨k + 1, AK, CK, by omega, by go_num, by rw [E2.out], by rw [E2.out]; exact Row.seen NR.out, N1.out, N2.out⟩
          case measure => simp [RowKit.intOf]; omega
        · have hlx' : ¬ (ys.length : Int) > ((F k).2.length : Int) := by omega
          have E2 := Lib.hid (HKk.out hlx)
          clear hlx
          have HRu := Lib.hid (HRo.out.upR hro_.out)
          rw [← HLE.out] at HRu ⊢
          go_wp2
          go_roundw
          case rel => exact ⟨k + 1, Ap, cp, by omega, by go_num, by rw [E2.out], by rw [E2.out]; exact HSPi.out, by rw [E2.out]; exact HRu.out, HBw.out⟩
          case measure => simp [RowKit.intOf]; omega
      · obtain rfl : k = n := by omega
        have hdd : decide (((F k).1.length : Int) > 0) = decide (0 < (F k).1.length) := decide_eq_decide.2 (by omega)
        have HDD := Lib.hid hdd
        have hlk := HLn.out k
        have hk8 := HN8.out
        clear hdd
        go_wp2
        go_ret2
        exact ⟨_, by rw [← HDD.out]; rfl, HR.out, HB.out⟩
end Go.Proofs.Ytlgbhemjckahhaa

namespace Go.Proofs.Ytlgbhemjckahhaa
open Go.RowKit
set_option linter.unusedVariables false

/-- The numbers of the first t of l put into a list. -/
def putT (now l : List Int) : Nat → List Int
  | 0 => now
  | t + 1 => putI (putT now l t) (l.getD t 0)
theorem putI_len (ys : List Int) (x : Int) : (putI ys x).length ≤ ys.length + 1 := by
  unfold putI
  split
  · omega
  · rw [List.length_append, List.length_append, List.length_take, List.length_drop]
    simp
    omega
theorem putT_len (now l : List Int) : ∀ t, (putT now l t).length ≤ now.length + t
  | 0 => Nat.le_refl _
  | t + 1 => by
    have h1 := putT_len now l t
    have h2 := putI_len (putT now l t) (l.getD t 0)
    show (putI _ _).length ≤ _
    omega
theorem putT_mem (now l : List Int) (x : Int) : ∀ t, t ≤ l.length → (x ∈ putT now l t ↔ x ∈ l.take t ∨ x ∈ now)
  | 0, _ => by simp [putT]
  | t + 1, h => by
    have ih := putT_mem now l x t (by omega)
    show x ∈ putI _ _ ↔ _
    rw [putI_mem, ih, List.take_succ_eq_append_getElem (by omega), show l.getD t 0 = l[t] by simp [show t < l.length by omega], List.mem_append, List.mem_singleton]
    constructor
    · rintro (h | h | h)
      · exact .inl (.inr h)
      · exact .inl (.inl h)
      · exact .inr h
    · rintro ((h | h) | h)
      · exact .inr (.inl h)
      · exact .inl h
      · exact .inr (.inr h)
theorem putT_add (now l : List Int) : inL (putT now l l.length) = addL l (inL now) := by
  funext x
  rw [Bool.eq_iff_iff, inL_iff, putT_mem now l x _ (Nat.le_refl _), List.take_length]
  unfold addL
  rw [Bool.or_eq_true, inL_iff]
  simp
theorem putT_in {N : Nat} {now l : List Int} (h1 : InN N now) (h2 : InN N l) : InN N (putT now l l.length) := fun x hx => by
  rw [putT_mem now l x _ (Nat.le_refl _), List.take_length] at hx
  rcases hx with h | h
  · exact h2 x h
  · exact h1 x h

set_option maxHeartbeats 8000000 in
set_option maxRecDepth 100000 in
theorem c_FillPitsS (xss lss : List (List Int)) (v u : Value) (w : World) (hs : ShortL xss) (hs2 : ShortL lss) (h : SeenL w v xss) (hu : SeenL w u lss) :
    Calls Try.prog 42 #[v, u] w (GivesRows2 w (fiA xss lss) (fiB xss lss)) := by
  obtain ⟨j0, hj0, hy0, hy1, hy2⟩ := info_parts list_info
  have HJ := Lib.hid hj0
  clear hj0
  have C0 := Lib.hid (c_clArcs xss v w hs h)
  have CI : Hid (∀ w1, Calls Try.prog 71 #[.int .i64 lss.length, .int .i64 1, .int .i64 8] w1 fun e w' => e = .returned (.bool (decide (1 ≤ (lss.length : Int) ∧ (lss.length : Int) ≤ 8))) ∧ w1 = w') := fun w1 => c_l1In _ 1 8 w1
  have HPs := Lib.hid hu
  have HLs : Hid (∀ k, k < lss.length → (lss.getD k []).length ≤ 1048576) := fun k hk => hs2.2 k hk
  have HL0 : Hid (fillB xss lss = false → fiA xss lss = [] ∧ fiB xss lss = false) := fun hf => ⟨by unfold fiA; rw [hf]; rfl, by unfold fiB; rw [hf]; rfl⟩
  cases ha : arcB xss
  · obtain ⟨e1, e2⟩ := HL0.out (by unfold fillB; rw [ha, Bool.false_and])
    rw [ha] at C0
    rw [e1, e2]
    obtain ⟨A, c, rfl, _⟩ := h.shape
    obtain ⟨A2, c2, rfl, _⟩ := hu.shape
    have hls := hs.1
    have hls2 := hs2.1
    clear h hu hs hs2 ha e1 e2
    go_enter Try.func42, Try.ntmps42
    go_wp2_with fail
    refine C0.out.mono ?_
    rintro e w1 ⟨rfl, rfl⟩
    go_wp2
    go_ret2
    exact ⟨_, rfl, Rows.nil _ _ _, Below.refl _ _⟩
  · rw [ha] at C0
    by_cases hn : ¬ (1 ≤ lss.length ∧ lss.length ≤ 8)
    · obtain ⟨e1, e2⟩ := HL0.out (by unfold fillB; rw [decide_eq_false hn, Bool.false_and, Bool.and_false])
      rw [e1, e2]
      have hd : decide (1 ≤ (lss.length : Int) ∧ (lss.length : Int) ≤ 8) = false := decide_eq_false (by omega)
      rw [hd] at CI
      obtain ⟨A, c, rfl, _⟩ := h.shape
      obtain ⟨A2, c2, rfl, _⟩ := hu.shape
      have hls := hs.1
      have hls2 := hs2.1
      clear h hu hs hs2 ha e1 e2 hd hn
      go_enter Try.func42, Try.ntmps42
      go_wp2_with fail
      refine C0.out.mono ?_
      rintro e w1 ⟨rfl, rfl⟩
      go_wp2_with fail
      refine (CI.out _).mono ?_
      rintro e w1 ⟨rfl, rfl⟩
      go_wp2
      go_ret2
      exact ⟨_, rfl, Rows.nil _ _ _, Below.refl _ _⟩
    · have hn' : 1 ≤ lss.length ∧ lss.length ≤ 8 := Decidable.not_not.1 hn
      have hd : decide (1 ≤ (lss.length : Int) ∧ (lss.length : Int) ≤ 8) = true := decide_eq_true (by omega)
      rw [hd] at CI
      obtain ⟨n, hnn⟩ : ∃ n, lss.length = n := ⟨_, rfl⟩
      have HNN := Lib.hid hnn
      have hN := arc_len ha
      have HF : Hid ((∀ i, i < n → risB xss.length (lss.getD i []) = true) → fillB xss lss = true) := fun hr => fill_iff.2 ⟨ha, hn', fun i hi => hr i (by omega)⟩
      have HFN : Hid (∀ k, k < n → risB xss.length (lss.getD k []) = false → fiA xss lss = [] ∧ fiB xss lss = false) := fun k hk hr => HL0.out (by
        rw [Bool.eq_false_iff]
        intro hf
        have := (fill_iff.1 hf).2.2 k (by omega)
        rw [hr] at this
        cases this)
      have HFE : Hid ((∀ i, i < n → risB xss.length (lss.getD i []) = true) → fiA xss lss = (fiS xss lss n).1 ∧ fiB xss lss = decide (0 < (fiS xss lss n).1.length)) := fun hr => by
        have hf := HF.out hr
        rw [← HNN.out]
        exact ⟨by unfold fiA; rw [hf]; rfl, by unfold fiB; rw [hf]; rfl⟩
      have CR : Hid (∀ (k : Nat) (q : Value) (w1 : World), k < n → Seen w1 q (lss.getD k []) → Calls Try.prog 74 #[q, .int .i64 0, .int .i64 ((xss.length : Int) - 1)] w1 fun e w' => e = .returned (.bool (risB xss.length (lss.getD k []))) ∧ w1 = w') := fun k q w1 hk hq => c_l1Rising xss.length _ q w1 (by omega) (by omega) (by have := HLs.out k (by omega); omega) hq
      have HG : Hid (∀ k, k < n → (∀ i, i < k → risB xss.length (lss.getD i []) = true) → gB xss (fiS xss lss k).2 = true ∧ (fiS xss lss k).2.length ≤ 120) := fun k hk hr => by
        have hg := fi_good (xss := xss) (lss := lss) ha k hr
        have h1 := ris_len (gB_iff.1 hg).1.2 (by omega)
        exact ⟨hg, by omega⟩
      have CO : Hid (∀ (l : List Int) (Aq : Option Addr) (cq B : Nat) (w1 : World), l.length ≤ 4000000 → Row w1 B (.slice Aq l.length cq) l → Calls Try.prog 62 #[.slice Aq l.length cq] w1 (GivesRow w1 l)) := fun l Aq cq B w1 hl hq => c_l1OwnA Aq l.length cq l w1 hl rfl (row_srcA hq)
      have CP : Hid (∀ (ys : List Int) (x : Int) (q : Value) (B : Nat) (w1 : World), Row w1 B q ys → B ≤ w1.heap.size → ys.length ≤ 4000 → Calls Try.prog 75 #[q, .int .i64 x] w1 (PutGives w1 B (putI ys x))) := fun ys x q B w1 h1 h2 h3 => c_l1Put ys x q B w1 h1 h2 h3
      have CL : Hid (∀ (k : Nat) (q : Value) (w1 : World), k < n → (∀ i, i < k + 1 → risB xss.length (lss.getD i []) = true) → Below w.heap.size w w1 → Seen w1 q (putT (fiS xss lss k).2 (lss.getD k []) (lss.getD k []).length) → Calls Try.prog 76 #[v, q] w1 (GivesRow w1 (unC xss (fiS xss lss k).2 (lss.getD k [])))) := fun k q w1 hk hr hb hq => by
        have hrk := hr k (by omega)
        obtain ⟨hg, hgl⟩ := HG.out k hk (fun i hi => hr i (by omega))
        have h2 := ris_len hrk (by omega)
        have h3 := putT_len (fiS xss lss k).2 (lss.getD k []) (lss.getD k []).length
        rw [← un_cl (putT_add (fiS xss lss k).2 (lss.getD k []))]
        exact c_clLeast xss _ v q w1 ha (putT_in (InN.ris (gB_iff.1 hg).1.2) (InN.ris hrk)) (by omega) (h.below hb) hq
      have HS : Hid (∀ k, (unC xss (fiS xss lss k).2 (lss.getD k [])).length ≤ 120) := fun k => by
        show (unC _ _ _).length ≤ 120
        have h1 := sel_len (dnS xss (addL (lss.getD k []) (inL (fiS xss lss k).2)) xss.length) xss.length
        unfold unC
        omega
      have HT : Hid (∀ k, (fiS xss lss k).2.length < (unC xss (fiS xss lss k).2 (lss.getD k [])).length → (fiS xss lss k).1 ++ [unC xss (fiS xss lss k).2 (lss.getD k [])] = (fiS xss lss (k + 1)).1 ∧ (fiS xss lss (k + 1)).2 = unC xss (fiS xss lss k).2 (lss.getD k [])) := fun k hk => by
        rw [fi_take hk]
        exact ⟨rfl, rfl⟩
      have HK : Hid (∀ k, ¬ (fiS xss lss k).2.length < (unC xss (fiS xss lss k).2 (lss.getD k [])).length → fiS xss lss (k + 1) = fiS xss lss k) := fun k hk => fi_skip hk
      have HLn : Hid (∀ k, (fiS xss lss k).1.length ≤ k) := fun k => fi_len xss lss k
      have H0 : Hid (fiS xss lss 0 = ([], [])) := rfl
      have HN8 : Hid (n ≤ 8) := by show _ ≤ _; omega
      have e1 : IntKind.i64.wrap ((xss.length : Int) - 1) = (xss.length : Int) - 1 := IntWalk.i64_in _ (by omega)
      have HR120 : Hid (∀ k, k < n → risB xss.length (lss.getD k []) = true → (lss.getD k []).length ≤ 120) := fun k hk hr => by show _ ≤ _; have := ris_len hr (by omega); omega
      obtain ⟨A, c, rfl, _⟩ := h.shape
      obtain ⟨A2, c2, rfl, _⟩ := hu.shape
      have hls := hs.1
      rw [hnn] at CI ⊢
      clear h hu hs hs2 hnn ha hN hn hn' hd HL0 HF
      generalize fiA xss lss = RA at *
      generalize fiB xss lss = RB at *
      generalize fiS xss lss = F at *
      go_enter Try.func42, Try.ntmps42
      go_wp2_with fail
      refine C0.out.mono ?_
      rintro e w1 ⟨rfl, rfl⟩
      go_wp2_with fail
      refine (CI.out _).mono ?_
      rintro e w1 ⟨rfl, rfl⟩
      go_wp2_with fail
      go_loopw [6, 7, 24] (fun o p i wr => ∃ (k : Nat) (Ap : Option Addr) (cp : Nat), k ≤ n ∧ i = .int .i64 k ∧ p = .slice Ap (F k).2.length cp ∧ Row wr w.heap.size p (F k).2 ∧ Rows wr w.heap.size wr.heap.size o (F k).1 ∧ Below w.heap.size w wr ∧ (∀ i, i < k → risB xss.length (lss.getD i []) = true)) (fun _ _ i _ => n - (RowKit.intOf i).toNat)
      case atStart => exact ⟨0, none, 0, Nat.zero_le _, rfl, by rw [H0.out]; rfl, by rw [H0.out]; exact Row.nil _ _, by rw [H0.out]; exact Rows.nil _ _ _, Below.refl _ _, fun i hi => by omega⟩
      case round =>
        obtain ⟨k, Ap, cp, hk, rfl, rfl, hsp, hr, hb, hgd⟩ := hrel
        have HSP := Lib.hid hsp
        have HB := Lib.hid hb
        have HGD := Lib.hid hgd
        obtain ⟨AO, CO', hso⟩ := hr.shape
        subst hso
        have HR := Lib.hid hr
        clear hsp hr hb hgd
        by_cases hlt : k < n
        · obtain ⟨b, off, A', c', rfl, hbl, q0', hse⟩ := HPs.out.at_ (k := k) (by rw [HNN.out]; exact hlt)
          have q0 : wr.cell? ⟨b, off + k, none⟩ = some (.slice A' (lss.getD k []).length c') := (HB.out.cell (p := ⟨b, off + k, none⟩) hbl).trans q0'
          have HSE := Lib.hid hse
          have HCR := Lib.hid (CR.out k _ wr hlt (hse.below HB.out))
          have hk8 : k < 8 := by have := HN8.out; omega
          have b1 : (0 : Int) ≤ (k : Int) := by omega
          have b2 : (k : Int) < (n : Int) := by omega
          obtain ⟨nq, hlen⟩ : ∃ nq, (F k).1.length = nq := ⟨_, rfl⟩
          have hnq : nq ≤ 8 := by have := HLn.out k; omega
          rw [hlen] at HR ⊢
          have HLE := Lib.hid hlen
          clear hse q0' hlen
          cases hrk : risB xss.length (lss.getD k [])
          · obtain ⟨g1, g2⟩ := HFN.out k hlt hrk
            have G1 := Lib.hid g1
            have G2 := Lib.hid g2
            rw [hrk] at HCR
            clear g1 g2 hrk
            generalize (lss.getD k []).length = mm at *
            go_wp2_with fail
            refine HCR.out.mono ?_
            rintro e w2 ⟨rfl, rfl⟩
            go_wp2
            go_ret2
            exact ⟨_, by rw [G2.out]; rfl, by rw [G1.out]; exact Rows.nil _ _ _, HB.out⟩
          · have HGD2 : Hid (∀ i, i < k + 1 → risB xss.length (lss.getD i []) = true) := fun i hi => by
              by_cases e : i = k
              · rw [e]; exact hrk
              · exact HGD.out i (by omega)
            have hl120 := HR120.out k hlt hrk
            obtain ⟨_, hf120⟩ := HG.out k hlt HGD.out
            have HCL := Lib.hid (fun q w1 => CL.out k q w1 hlt HGD2.out)
            have hs1 := HS.out k
            have HTk := Lib.hid (HT.out k)
            have HKk := Lib.hid (HK.out k)
            have hPL : Hid (∀ t, (putT (F k).2 (lss.getD k []) t).length ≤ (F k).2.length + t) := putT_len _ _
            have HP0 : Hid (putT (F k).2 (lss.getD k []) 0 = (F k).2) := rfl
            have HP1 : Hid (∀ t, putI (putT (F k).2 (lss.getD k []) t) ((lss.getD k []).getD t 0) = putT (F k).2 (lss.getD k []) (t + 1)) := fun t => rfl
            rw [hrk] at HCR
            clear hrk
            generalize unC xss (F k).2 (lss.getD k []) = ys at *
            generalize putT (F k).2 (lss.getD k []) = PT at *
            generalize lss.getD k [] = m at *
            go_wp2_with fail
            refine HCR.out.mono ?_
            rintro e w2 ⟨rfl, rfl⟩
            have HCO := Lib.hid (CO.out (F k).2 Ap cp _ wr (by omega) HSP.out)
            go_wp2_with fail
            refine HCO.out.mono ?_
            rintro e w3 ⟨q3, rfl, h3, hb3⟩
            have hs3z := hb3.size
            have HB3 := Lib.hid (HB.out.trans (hb3.mono HB.out.size))
            have HSP3 := Lib.hid (HSP.out.below hb3)
            have HR3 := Lib.hid (HR.out.below hb3 (Nat.le_refl _))
            have H3 : Hid (Row w3 wr.heap.size q3 (PT 0)) := by rw [HP0.out]; exact h3
            obtain ⟨A3, c3, e3⟩ := h3.shape
            rw [← HP0.out] at e3
            subst e3
            obtain ⟨wo, hwo⟩ : ∃ wo, wr = wo := ⟨_, rfl⟩
            rw [hwo] at hs3z HR3 H3
            clear h3 hb3
            go_wp2_with fail
            go_loopw [10, 38] (fun q i wi => ∃ (t : Nat) (Aq : Option Addr) (cq : Nat), t ≤ m.length ∧ i = .int .i64 t ∧ q = .slice Aq (PT t).length cq ∧ Row wi wo.heap.size q (PT t) ∧ Below w3.heap.size w3 wi) (fun _ i _ => m.length - (RowKit.intOf i).toNat)
            case atStart => exact ⟨0, A3, c3, Nat.zero_le _, rfl, rfl, H3.out, Below.refl _ _⟩
            case round =>
              obtain ⟨t, Aq, cq, ht, rfl, rfl, hq, hbi⟩ := hrel
              have HQ := Lib.hid hq
              have HBi := Lib.hid hbi
              have HBw : Hid (Below w.heap.size w wr) := HB3.out.trans (hbi.mono HB3.out.size)
              have hPt := hPL.out t
              clear hq hbi
              by_cases htl : t < m.length
              · obtain ⟨bb, oo, rfl, _, q1⟩ := (HSE.out.below HBw.out).at2 htl
                have hwz : wo.heap.size ≤ wr.heap.size := Nat.le_trans hs3z HBi.out.size
                have HCP := Lib.hid (CP.out (PT t) (m.getD t 0) _ wo.heap.size wr HQ.out hwz (by omega))
                rw [HP1.out] at HCP
                have b3 : (0 : Int) ≤ (t : Int) := by omega
                have b4 : (t : Int) < (m.length : Int) := by omega
                generalize m.getD t 0 = x at *
                go_wp2_with fail
                refine HCP.out.mono ?_
                rintro e w5 ⟨q5, rfl, h5, hb5⟩
                have HB5 := Lib.hid (HBi.out.trans (hb5.mono HBi.out.size))
                have H5 := Lib.hid h5
                obtain ⟨A5, c5, rfl⟩ := h5.shape
                clear h5 hb5
                go_wp2
                go_roundw
                case rel => exact ⟨t + 1, A5, c5, by omega, by go_num, rfl, H5.out, HB5.out⟩
                case measure => simp [RowKit.intOf]; omega
              · obtain rfl : t = m.length := by omega
                have HCLx := Lib.hid (HCL.out _ wr HBw.out HQ.out.seen)
                have HSPi := Lib.hid (HSP3.out.below HBi.out)
                have HRi := Lib.hid (HR3.out.below HBi.out hs3z)
                have hwz : wo.heap.size ≤ wr.heap.size := Nat.le_trans hs3z HBi.out.size
                obtain ⟨wy, hwy⟩ : ∃ wy, wr = wy := ⟨_, rfl⟩
                rw [hwy] at HCLx HSPi HRi hwz HBw ⊢
                clear hwy
                go_wp2_with fail
                refine HCLx.out.mono ?_
                rintro e wi ⟨p, rfl, hpr, hb3⟩
                obtain ⟨AK, CK, hps⟩ := hpr.shape
                subst hps
                have HRK := Lib.hid hpr
                have HBv : Hid (Below w.heap.size w wi) := HBw.out.trans (hb3.mono HBw.out.size)
                have hbr_ := Lib.hid HBw.out.size
                have hro_ := Lib.hid (Nat.le_trans hwz hb3.size)
                have HRo := Lib.hid (HRi.out.below hb3 hwz)
                have HSPj := Lib.hid (HSPi.out.below hb3)
                clear hpr hb3
                by_cases hlx : (F k).2.length < ys.length
                · have hlx' : (ys.length : Int) > ((F k).2.length : Int) := by omega
                  obtain ⟨e1', e2'⟩ := HTk.out hlx
                  have ON := Lib.hid e1'
                  have E2 := Lib.hid e2'
                  clear e1' e2' hlx
                  have hlen : (F k).1.length = nq := HLE.out
                  have hbb : Below wi.heap.size wi (wi.alloc (.cells #[.slice AK ys.length CK] 35)) := (Below.refl _ _).alloc (Nat.le_refl _) _
                  have HP6 := Lib.hid ((HRK.out.mono (Nat.le_trans hbr_.out (Nat.le_refl _))).below hbb)
                  have HR6 := Lib.hid (HRo.out.below hbb hro_.out)
                  have HB6 : Hid (Below w.heap.size w (wi.alloc (.cells #[.slice AK ys.length CK] 35))) := HBv.out.trans (hbb.mono HBv.out.size)
                  have hpo : Hid (∀ m, (Value.slice AK ys.length CK).ownBlock = some m → wo.heap.size ≤ m) := fun m hm => Nat.le_trans (hwz) (World.ownsRow.lt HRK.out m hm).1
                  clear hbb
                  obtain ⟨vs, hv6⟩ := HR6.out
                  have HV6 := Lib.hid hv6
                  clear hv6
                  have sz5 := HBv.out.size
                  have HLN := Lib.hid hlen
                  clear hlen
                  have hown : Hid ((wi.alloc (.cells #[.slice AK ys.length CK] 35)).ownsRow w.heap.size 35 1 (.slice AO nq CO') nq vs) := by
                    have := HV6.out.own
                    rw [HLN.out] at this
                    exact this
                  go_wp2_with (at_builtin; refine wpList_append_own _ rfl _ _ 22 rfl w.heap.size 35 j0 (.slice none 0 0) 1 24 Try.underlying22 HJ.out hy0 hy1 hy2 rfl (by decide) _ _ _ rfl hown.out ⟨wi.heap.size, 0, none⟩ 1 1 [.slice AK ys.length CK] rfl rfl ?e1 ?e2 ?e3 ?e4 ?e5 ?_)
                  case e1 =>
                    intro q u hq
                    match q, hq with
                    | 0, hq => simp at hq; subst hq; simp [Addr.add]
                  case e2 => intro u hu; simp at hu; subst hu; rfl
                  case e3 => unfold maxLen; omega
                  case e4 => omega
                  case e5 => simp; omega
                  intro v' w7 hown' hgrow _
                  have N1 : Hid (Rows w7 w.heap.size w7.heap.size v' _) := ⟨_, by
                    have := HV6.out.push HP6.out (fun m hm => hpo.out m hm) (by rw [HLN.out]; exact hown') hgrow
                    rw [ON.out] at this
                    exact this⟩
                  have NR := Lib.hid (World.ownsRow.kept HP6.out hgrow (HV6.out.apart_row HP6.out))
                  have N2 : Hid (Below w.heap.size w w7) := HB6.out.grown hgrow (by simp; omega) (fun g hg => (World.ownsRow.lt hown.out g hg).1)
                  clear hown' hgrow
                  go_wp2
                  go_roundw
                  case rel => exact ⟨k + 1, AK, CK, by omega, by go_num, by rw [E2.out], by rw [E2.out]; exact NR.out, N1.out, N2.out, HGD2.out⟩
                  case measure => simp [RowKit.intOf]; omega
                · have hlx' : ¬ (ys.length : Int) > ((F k).2.length : Int) := by omega
                  have E2 := Lib.hid (HKk.out hlx)
                  clear hlx
                  have HRu := Lib.hid (HRo.out.upR hro_.out)
                  rw [← HLE.out] at HRu ⊢
                  go_wp2
                  go_roundw
                  case rel => exact ⟨k + 1, Ap, cp, by omega, by go_num, by rw [E2.out], by rw [E2.out]; exact HSPj.out, by rw [E2.out]; exact HRu.out, HBv.out, HGD2.out⟩
                  case measure => simp [RowKit.intOf]; omega
        · obtain rfl : k = n := by omega
          obtain ⟨g1, g2⟩ := HFE.out HGD.out
          have G1 := Lib.hid g1
          have hdd : decide (((F k).1.length : Int) > 0) = decide (0 < (F k).1.length) := decide_eq_decide.2 (by omega)
          have G2 := Lib.hid g2
          have hlk := HLn.out k
          have hk8 := HN8.out
          clear hdd g1 g2
          go_wp2
          go_ret2
          exact ⟨_, by rw [G2.out]; rfl, by rw [G1.out]; exact HR.out, HB.out⟩
theorem fi_facts (xss lss : List (List Int)) : (fiA xss lss).length ≤ 1048576 ∧ Hid (Short (fiA xss lss)) ∧ totN (fiA xss lss) (fiA xss lss).length ≤ 1048576 := by
  unfold fiA
  split
  · rename_i hf
    have key : ∀ k, k ≤ lss.length → ∀ i, i < (fiS xss lss k).1.length → ((fiS xss lss k).1.getD i []).length ≤ 120 := by
      intro k
      induction k with
      | zero => intro _ i hi; simp [fiS] at hi
      | succ k ih =>
        intro hk i hi
        by_cases hlx : (fiS xss lss k).2.length < (unC xss (fiS xss lss k).2 (lss.getD k [])).length
        · rw [fi_take hlx] at hi ⊢
          simp only at hi ⊢
          rw [List.length_append, List.length_singleton] at hi
          by_cases e : i < (fiS xss lss k).1.length
          · rw [getL_app e]; exact ih (by omega) i e
          · obtain rfl : i = (fiS xss lss k).1.length := by omega
            rw [getL_end]; exact un_short hf _ _
        · rw [fi_skip hlx] at hi ⊢
          exact ih (by omega) i hi
    have h8 := fi_len xss lss lss.length
    have := (fill_iff.1 hf).2.1.2
    exact rows_facts (by omega) (key _ (Nat.le_refl _))
  · exact ⟨by simp, fun k hk => by simp at hk, by simp [totN]⟩
end Go.Proofs.Ytlgbhemjckahhaa
