/-
  Contracts: closures told, closed and joined, in the program.
-/
import Derived.Test.YtfpjodoimfbadaaN8
import Derived.Test.YtfpjodoimfbadaaN9
namespace Go.Proofs.Ytfpjodoimfbadaa
open Go.RowKit
set_option linter.unusedVariables false

def Two (a b : Bool) (w : World) (e : Ending) (w' : World) : Prop := e = .returned (.tuple #[.bool a, .bool b]) ∧ Below w.heap.size w w'

set_option maxHeartbeats 4000000 in
set_option maxRecDepth 100000 in
theorem c_IsClosure (xss : List (List Int)) (l : List Int) (v u : Value) (w : World) (hs : ShortL xss) (hl : l.length ≤ 4000000) (h : SeenL w v xss) (hu : Seen w u l) :
    Calls Try.prog 54 #[v, u] w (Two (gB xss l) (vB xss l) w) := by
  have HS := Lib.hid h
  have HC := Lib.hid hu
  have C0 := Lib.hid (c_areArcsAndList xss l v u w hs hl h hu)
  obtain ⟨A, c, rfl, _⟩ := h.shape
  obtain ⟨A2, c2, rfl⟩ := hu.shape
  have hls := hs.1
  have HG : Hid (gB xss l = (vB xss l && closB xss l)) := rfl
  have HV : Hid (vB xss l = (arcB xss && risB xss.length l)) := rfl
  cases hv : vB xss l
  · rw [hv] at HG
    rw [← HV.out, hv] at C0
    clear h hu hs hv HV
    generalize gB xss l = g at *
    go_enter Try.func54, Try.ntmps54
    go_wp2_with fail
    refine C0.out.mono ?_
    rintro e w1 ⟨rfl, rfl⟩
    go_wp2
    go_ret2
    exact ⟨by rw [HG.out]; rfl, Below.refl _ _⟩
  · rw [hv] at HG
    rw [← HV.out, hv] at C0
    obtain ⟨ha, hr⟩ := vB_iff.1 hv
    have hN := arc_len ha
    have C1 := Lib.hid (c_marksOf xss.length l (.slice A2 l.length c2) w hl (by omega) hu (InN.ris hr))
    have EI : Hid (∀ i, i < xss.length → InN xss.length (xss.getD i [])) := fun i hi => arc_in ha hi
    have EL : Hid (∀ i, i < xss.length → (xss.getD i []).length ≤ 4000000) := fun i hi => by have := arc_slen ha hi; omega
    have EC : Hid (∀ k, k < l.length → 0 ≤ l.getD k 0 ∧ l.getD k 0 < (xss.length : Int)) := fun k hk => InN.ris hr _ (getD_memN hk)
    obtain ⟨f, hf⟩ : ∃ f : Int → Bool, f = fun i => (xss.getD i.toNat []).all (inL l) := ⟨_, rfl⟩
    have EF : Hid (∀ i : Nat, (xss.getD i []).all (inL l) = f i) := fun i => by rw [hf]; simp
    have EA : Hid ((∀ q, q < l.length → f (l.getD q 0) = true) → gB xss l = true) := fun h => by
      rw [HG.out, Bool.true_and]; unfold closB; rw [← hf]; exact all_yes h
    have EB : Hid (∀ k, k < l.length → f (l.getD k 0) = false → gB xss l = false) := fun k hk h => by
      rw [HG.out, Bool.true_and]; unfold closB; rw [← hf]; exact all_no hk h
    clear h hu hs ha hr hf hv HG HV
    generalize gB xss l = g at *
    generalize hn : xss.length = N at *
    have HNn := Lib.hid hn
    clear hn
    generalize inL l = p at *
    go_enter Try.func54, Try.ntmps54
    go_wp2_with fail
    refine C0.out.mono ?_
    rintro e w' ⟨rfl, rfl⟩
    go_wp2_with fail
    refine C1.out.mono ?_
    rintro e w1 ⟨rfl, hm, hb⟩
    have HM := Lib.hid hm
    have HB := Lib.hid hb
    have hw1 : w.heap.size < w1.heap.size := hm.lt
    clear hm hb
    go_wp2_with fail
    go_loopw [17] (fun i wr => ∃ k : Nat, k ≤ l.length ∧ i = .int .i64 k ∧ (∀ q, q < k → f (l.getD q 0) = true) ∧ SetM wr w.heap.size N p ∧ Below w.heap.size w wr) (fun i _ => l.length - (RowKit.intOf i).toNat)
    case atStart => exact ⟨0, Nat.zero_le _, rfl, fun q hq => by omega, HM.out, HB.out⟩
    case round =>
      obtain ⟨k, hk, rfl, hq, hm, hb⟩ := hrel
      have HQ := Lib.hid hq
      have HM := Lib.hid hm
      have HB := Lib.hid hb
      clear hq hm hb
      by_cases hlt : k < l.length
      · have HCr := Lib.hid (HC.out.below HB.out)
        have HSr := Lib.hid (HS.out.below HB.out)
        obtain ⟨bC, oC, rfl, _, q0⟩ := HCr.out.at2 hlt
        obtain ⟨r0, r1⟩ := EC.out k hlt
        have EBk := Lib.hid (EB.out k hlt)
        have EQk : Hid (f (l.getD k 0) = true → ∀ q, q < k + 1 → f (l.getD q 0) = true) := fun h q hq => by
          by_cases e : q = k
          · rw [e]; exact h
          · exact HQ.out q (by omega)
        generalize hx : l.getD k 0 = x at *
        obtain ⟨i, rfl⟩ := Int.eq_ofNat_of_zero_le r0
        have hiN : i < N := by omega
        obtain ⟨b, off, A', c', rfl, _, q1, hse⟩ := HSr.out.row (k := i) (by rw [HNn.out]; omega)
        have C2 := Lib.hid (c_areMarked w.heap.size N p _ _ wr (EL.out i hiN) (by omega) HM.out hse (EI.out i hiN))
        rw [EF.out i] at C2
        have b1 : (0 : Int) ≤ (k : Int) := by omega
        have b2 : (k : Int) < (l.length : Int) := by omega
        clear hse hx
        generalize (xss.getD i []).length = mm at *
        cases hfi : f (i : Int)
        · have G := Lib.hid (EBk.out hfi)
          rw [hfi] at C2
          clear hfi
          go_wp2_with fail
          refine C2.out.mono ?_
          rintro e w2 ⟨rfl, hb2⟩
          have HB2 : Hid (Below w.heap.size w w2) := HB.out.trans (hb2.mono HB.out.size)
          clear hb2
          go_wp2
          go_ret2
          exact ⟨by rw [G.out]; rfl, HB2.out⟩
        · have G := Lib.hid (EQk.out hfi)
          rw [hfi] at C2
          clear hfi
          go_wp2_with fail
          refine C2.out.mono ?_
          rintro e w2 ⟨rfl, hb2⟩
          have HB2 : Hid (Below w.heap.size w w2) := HB.out.trans (hb2.mono HB.out.size)
          have HM2 := Lib.hid (HM.out.below hb2 HM.out.lt)
          clear hb2
          go_wp2
          go_roundw
          case rel => exact ⟨k + 1, by omega, by go_num, G.out, HM2.out, HB2.out⟩
          case measure => simp [RowKit.intOf]; omega
      · obtain rfl : k = l.length := by omega
        have G := Lib.hid (EA.out HQ.out)
        go_wp2
        go_ret2
        exact ⟨by rw [G.out]; rfl, HB.out⟩

set_option maxHeartbeats 1000000 in
theorem c_isClosed (xss : List (List Int)) (l : List Int) (v u : Value) (w : World) (hs : ShortL xss) (hl : l.length ≤ 4000000) (h : SeenL w v xss) (hu : Seen w u l) :
    Calls Try.prog 41 #[v, u] w fun e w' => e = .returned (.bool (gB xss l)) ∧ Below w.heap.size w w' := by
  have C0 := Lib.hid (c_IsClosure xss l v u w hs hl h hu)
  obtain ⟨A, c, rfl, _⟩ := h.shape
  obtain ⟨A2, c2, rfl⟩ := hu.shape
  clear h hu hs
  generalize gB xss l = g at *
  generalize vB xss l = g2 at *
  go_enter Try.func41, Try.ntmps41
  go_wp2_with fail
  refine C0.out.mono ?_
  rintro e w1 ⟨rfl, hb⟩
  go_wp2
  go_ret
  exact ⟨rfl, hb⟩

theorem one_seen (i : Int) (w : World) (T : TypeId) : Seen (w.alloc (.cells #[.int .i64 i] T)) (.slice (some ⟨w.heap.size, 0, none⟩) 1 1) [i] :=
  ⟨_, 1, rfl, by unfold maxLen; simp, fun _ => ⟨w.heap.size, 0, rfl, by simp, fun k hk => by
    obtain rfl : k = 0 := by simp at hk; omega
    simp⟩⟩

set_option maxHeartbeats 1000000 in
theorem c_JoinClosures (xss : List (List Int)) (a b : List Int) (v ua ub : Value) (w : World) (hs : ShortL xss) (l1 : a.length ≤ 4000000) (l2 : b.length ≤ 4000000) (h : SeenL w v xss) (h1 : Seen w ua a) (h2 : Seen w ub b) :
    Calls Try.prog 29 #[v, ua, ub] w (GivesRow2 w (joA xss a b) (gB xss a && gB xss b)) := by
  have C0 := Lib.hid (c_isClosed xss a v ua w hs l1 h h1)
  have C1 : Hid (∀ w1, Below w.heap.size w w1 → Calls Try.prog 41 #[v, ub] w1 fun e w' => e = .returned (.bool (gB xss b)) ∧ Below w1.heap.size w1 w') := fun w1 hb => c_isClosed xss b v ub w1 hs l2 (h.below hb) (h2.below hb)
  cases hv : gB xss a
  · have HL : Hid (joA xss a b = []) := by show _ = _; unfold joA; rw [hv]; rfl
    rw [hv] at C0
    obtain ⟨A, c, rfl, _⟩ := h.shape
    obtain ⟨A1, c1, rfl⟩ := h1.shape
    obtain ⟨A2, c2, rfl⟩ := h2.shape
    clear h h1 h2 hs hv C1
    go_enter Try.func29, Try.ntmps29
    go_wp2_with fail
    refine C0.out.mono ?_
    rintro e w1 ⟨rfl, hb⟩
    have HB := Lib.hid hb
    clear hb
    go_wp2
    go_ret2
    exact ⟨_, rfl, by rw [HL.out]; exact Row.nil _ _, HB.out⟩
  · rw [hv] at C0
    cases hv2 : gB xss b
    · have HL : Hid (joA xss a b = []) := by show _ = _; unfold joA; rw [hv2, Bool.and_false]; rfl
      rw [hv2] at C1
      obtain ⟨A, c, rfl, _⟩ := h.shape
      obtain ⟨A1, c1, rfl⟩ := h1.shape
      obtain ⟨A2, c2, rfl⟩ := h2.shape
      clear h h1 h2 hs hv hv2
      go_enter Try.func29, Try.ntmps29
      go_wp2_with fail
      refine C0.out.mono ?_
      rintro e w1 ⟨rfl, hb⟩
      have HB := Lib.hid hb
      clear hb
      go_wp2_with fail
      refine (C1.out w1 HB.out).mono ?_
      rintro e w2 ⟨rfl, hb⟩
      have HB2 : Hid (Below w.heap.size w w2) := HB.out.trans (hb.mono HB.out.size)
      clear hb
      go_wp2
      go_ret2
      exact ⟨_, rfl, by rw [HL.out]; exact Row.nil _ _, HB2.out⟩
    · have HL : Hid (joA xss a b = sel (addL b (inL a)) xss.length) := by show _ = _; unfold joA; rw [hv, hv2]; rfl
      rw [hv2] at C1
      obtain ⟨⟨ha, hr⟩, _⟩ := gB_iff.1 hv
      obtain ⟨⟨_, hr2⟩, _⟩ := gB_iff.1 hv2
      have hN := arc_len ha
      have C2 : Hid (∀ w1, Below w.heap.size w w1 → Calls Try.prog 42 #[ua] w1 fun e w' => e = .returned (.map (some w1.heap.size)) ∧ SetM w' w1.heap.size xss.length (inL a) ∧ Below w1.heap.size w1 w') := fun w1 hb => c_marksOf xss.length a ua w1 l1 (by omega) (h1.below hb) (InN.ris hr)
      have C3 : Hid (∀ w1 m, Below w.heap.size w w1 → SetM w1 m xss.length (inL a) → Calls Try.prog 46 #[.map (some m), ub] w1 fun e w' => e = .returned (.tuple #[]) ∧ SetM w' m xss.length (addL b (inL a)) ∧ w1.grownBy w' (some m)) := fun w1 m hb hm => c_markAll m xss.length (inL a) b ub w1 l2 (by omega) hm (h2.below hb) (InN.ris hr2)
      obtain ⟨A, c, rfl, _⟩ := h.shape
      obtain ⟨A1, c1, rfl⟩ := h1.shape
      obtain ⟨A2, c2, rfl⟩ := h2.shape
      clear h h1 h2 hs hv hv2 ha hr hr2
      generalize hn : xss.length = N at *
      clear hn
      go_enter Try.func29, Try.ntmps29
      go_wp2_with fail
      refine C0.out.mono ?_
      rintro e w1 ⟨rfl, hb⟩
      have HB := Lib.hid hb
      clear hb
      go_wp2_with fail
      refine (C1.out w1 HB.out).mono ?_
      rintro e w2 ⟨rfl, hb⟩
      have HB2 : Hid (Below w.heap.size w w2) := HB.out.trans (hb.mono HB.out.size)
      clear hb
      go_wp2_with fail
      refine (C2.out w2 HB2.out).mono ?_
      rintro e w3 ⟨rfl, hm, hb⟩
      have HB3 : Hid (Below w.heap.size w w3) := HB2.out.trans (hb.mono HB2.out.size)
      have HM := Lib.hid hm
      clear hm hb
      go_wp2_with fail
      refine (C3.out w3 _ HB3.out HM.out).mono ?_
      rintro e w4 ⟨rfl, hm, hg⟩
      have HB4 : Hid (Below w.heap.size w w4) := HB3.out.grown hg HB3.out.size (fun k hk => by cases hk; exact HB2.out.size)
      have HM4 := Lib.hid hm
      clear hm hg
      go_wp2_with fail
      refine (c_markedBlocks w2.heap.size N _ w4 (by omega) HM4.out).mono ?_
      rintro e w5 ⟨q, rfl, hq, hb⟩
      have HQ := Lib.hid (hq.mono HB4.out.size)
      have HB5 : Hid (Below w.heap.size w w5) := HB4.out.trans (hb.mono HB4.out.size)
      clear hq hb
      go_wp2
      go_ret2
      exact ⟨_, rfl, by rw [HL.out]; exact HQ.out, HB5.out⟩
end Go.Proofs.Ytfpjodoimfbadaa
