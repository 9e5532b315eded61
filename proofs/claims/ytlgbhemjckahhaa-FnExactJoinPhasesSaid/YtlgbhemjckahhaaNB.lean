/-
  Contracts: greatest closures inside, meets, what can come next, and blocks below, in the program.
-/
import Derived.Test.YtlgbhemjckahhaaNA
import Derived.Test.YtlgbhemjckahhaaNR
namespace Go.Proofs.Ytlgbhemjckahhaa
open Go.RowKit
set_option linter.unusedVariables false

theorem InN.mapped {N : Nat} {l : List Int} {k : Nat} (h : InN N l) (hk : k < l.length) : 0 ≤ l.getD k 0 ∧ l.getD k 0 < (N : Int) := h _ (getD_memN hk)

set_option maxHeartbeats 4000000 in
set_option maxRecDepth 100000 in
theorem c_GreatestInside (xss : List (List Int)) (l : List Int) (v u : Value) (w : World) (hs : ShortL xss) (hl : l.length ≤ 4000000) (h : SeenL w v xss) (hu : Seen w u l) :
    Calls Try.prog 65 #[v, u] w (GivesRow2 w (inA xss l) (vB xss l)) := by
  have HS := Lib.hid h
  have HC := Lib.hid hu
  have C0 := Lib.hid (c_areArcsAndList xss l v u w hs hl h hu)
  have HV : Hid (vB xss l = (arcB xss && risB xss.length l)) := rfl
  rw [← HV.out] at C0
  cases hv : vB xss l
  · have HL : Hid (inA xss l = []) := by show _ = _; unfold inA; rw [hv]; rfl
    rw [hv] at C0
    obtain ⟨A, c, rfl, _⟩ := h.shape
    obtain ⟨A2, c2, rfl⟩ := hu.shape
    clear h hu hs hv HV
    go_enter Try.func65, Try.ntmps65
    go_wp2_with fail
    refine C0.out.mono ?_
    rintro e w1 ⟨rfl, rfl⟩
    go_wp2
    go_ret2
    exact ⟨_, rfl, by rw [HL.out]; exact Row.nil _ _, Below.refl _ _⟩
  · rw [hv] at C0
    obtain ⟨ha, hr⟩ := vB_iff.1 hv
    have HL : Hid (inA xss l = sel (insK xss l xss.length l.length) xss.length) := by show _ = _; unfold inA; rw [hv, insK_end]; rfl
    have hN := arc_len ha
    have C1 := Lib.hid (c_marksOf xss.length l u w hl (by omega) hu (InN.ris hr))
    obtain ⟨A, c, rfl, _⟩ := h.shape
    obtain ⟨A2, c2, rfl⟩ := hu.shape
    have EI : Hid (∀ i, i < xss.length → InN xss.length (xss.getD i [])) := fun i hi => arc_in ha hi
    have EL : Hid (∀ i, i < xss.length → (xss.getD i []).length ≤ 4000000) := fun i hi => by have := arc_slen ha hi; omega
    have EC : Hid (∀ k, k < l.length → 0 ≤ l.getD k 0 ∧ l.getD k 0 < (xss.length : Int)) := fun k hk => (InN.ris hr).mapped hk
    have E0 : Hid (insK xss l xss.length 0 = inL l) := insK_zero hr
    have EY : Hid (∀ k i, k < l.length → l.getD k 0 = ((i : Nat) : Int) → (xss.getD i []).all (insK xss l xss.length k) = true → insK xss l xss.length (k + 1) = insK xss l xss.length k) := fun k i hk hi h => by
      rw [insK_step hr hk hi, if_pos h]
    have EN : Hid (∀ k i, k < l.length → l.getD k 0 = ((i : Nat) : Int) → (xss.getD i []).all (insK xss l xss.length k) = false → (fun y => !(y == (i : Int)) && insK xss l xss.length k y) = insK xss l xss.length (k + 1)) := fun k i hk hi h => by
      rw [insK_step hr hk hi, if_neg (by rw [h]; simp)]
    clear h hu hs ha hr hv HV
    generalize insK xss l xss.length = P at *
    generalize hn : xss.length = N at *
    have HNn := Lib.hid hn
    clear hn
    go_enter Try.func65, Try.ntmps65
    go_wp2_with fail
    refine C0.out.mono ?_
    rintro e w' ⟨rfl, rfl⟩
    go_wp2_with fail
    refine C1.out.mono ?_
    rintro e w1 ⟨rfl, hm, hb⟩
    rw [← E0.out] at hm
    have HM := Lib.hid hm
    have HB := Lib.hid hb
    have hw1 : w.heap.size < w1.heap.size := hm.lt
    clear hm hb
    go_wp2_with fail
    go_loopw [17] (fun i wr => ∃ k : Nat, k ≤ l.length ∧ i = .int .i64 k ∧ SetM wr w.heap.size N (P k) ∧ Below w.heap.size w wr) (fun i _ => l.length - (RowKit.intOf i).toNat)
    case atStart => exact ⟨0, Nat.zero_le _, rfl, HM.out, HB.out⟩
    case round =>
      obtain ⟨k, hk, rfl, hm, hb⟩ := hrel
      have HM := Lib.hid hm
      have HB := Lib.hid hb
      clear hm hb
      by_cases hlt : k < l.length
      · have HCr := Lib.hid (HC.out.below HB.out)
        have HSr := Lib.hid (HS.out.below HB.out)
        obtain ⟨bC, oC, rfl, _, q0⟩ := HCr.out.at2 hlt
        obtain ⟨r0, r1⟩ := EC.out k hlt
        obtain ⟨i, hi⟩ := Int.eq_ofNat_of_zero_le r0
        have EYk := Lib.hid (EY.out k i hlt hi)
        have ENk := Lib.hid (EN.out k i hlt hi)
        rw [hi] at q0 r1
        have hiN : i < N := by omega
        obtain ⟨b, off, A', c', rfl, _, q1, hse⟩ := HSr.out.row (k := i) (by rw [HNn.out]; omega)
        have C2 := Lib.hid (c_areMarked w.heap.size N (P k) _ _ wr (EL.out i hiN) (by omega) HM.out hse (EI.out i hiN))
        have b1 : (0 : Int) ≤ (k : Int) := by omega
        have b2 : (k : Int) < (l.length : Int) := by omega
        have b3 : (0 : Int) ≤ (i : Int) := by omega
        clear hse hi r0
        generalize (xss.getD i []).length = mm at *
        cases ht : (xss.getD i []).all (P k)
        · have G := Lib.hid (ENk.out ht)
          rw [ht] at C2
          clear ht EYk ENk
          go_wp2_with fail
          refine C2.out.mono ?_
          rintro e w2 ⟨rfl, hb2⟩
          have HB2 : Hid (Below w.heap.size w w2) := HB.out.trans (hb2.mono HB.out.size)
          have HM2 := Lib.hid (HM.out.below hb2 HM.out.lt)
          clear hb2
          obtain ⟨w5, hrun, hm5, hg5⟩ := HM2.out.del (i : Int) b3 r1 (by omega) 0
          rw [G.out] at hm5
          have HM5 := Lib.hid hm5
          have HB5 : Hid (Below w.heap.size w w5) := HB2.out.grown hg5 HB2.out.size (fun k hk => by cases hk; exact Nat.le_refl _)
          clear hm5 hg5
          go_wp2
          go_roundw
          case rel => exact ⟨k + 1, by omega, by go_num, HM5.out, HB5.out⟩
          case measure => simp [RowKit.intOf]; omega
        · have G := Lib.hid (EYk.out ht)
          rw [ht] at C2
          clear ht EYk ENk
          go_wp2_with fail
          refine C2.out.mono ?_
          rintro e w2 ⟨rfl, hb2⟩
          have HB2 : Hid (Below w.heap.size w w2) := HB.out.trans (hb2.mono HB.out.size)
          have HM2 := Lib.hid (HM.out.below hb2 HM.out.lt)
          clear hb2
          go_wp2
          go_roundw
          case rel => exact ⟨k + 1, by omega, by go_num, by rw [G.out]; exact HM2.out, HB2.out⟩
          case measure => simp [RowKit.intOf]; omega
      · obtain rfl : k = l.length := by omega
        go_wp2_with fail
        refine (c_markedBlocks w.heap.size N (P l.length) wr (by omega) HM.out).mono ?_
        rintro e w2 ⟨q, rfl, hq, hb2⟩
        have HQ := Lib.hid (hq.mono HB.out.size)
        have HB2 : Hid (Below w.heap.size w w2) := HB.out.trans (hb2.mono HB.out.size)
        clear hq hb2
        go_wp2
        go_ret2
        exact ⟨_, rfl, by rw [HL.out]; exact HQ.out, HB2.out⟩

end Go.Proofs.Ytlgbhemjckahhaa
