/-
  Contracts: valid arcs and values, and cuts of pits, in the program and in the model.
-/
import Derived.Test.YtgboedfnkkckkaaTW
import Derived.Test.YtgboedfnkkckkaaTN
namespace Go.Proofs.Ytgboedfnkkckkaa
open Go.RowKit
set_option linter.unusedVariables false

theorem getD_left (xs : List Int) (a : Int) {k : Nat} (h : k < xs.length) : (xs ++ [a]).getD k 0 = xs.getD k 0 := by
  simp [List.getD_eq_getElem?_getD, List.getElem?_append_left h]
theorem getD_last (xs : List Int) (a : Int) : (xs ++ [a]).getD xs.length 0 = a := by
  simp [List.getD_eq_getElem?_getD]
theorem prev_left (xs : List Int) (a : Int) : ∀ {k : Nat}, k ≤ xs.length → prevOf (xs ++ [a]) k = prevOf xs k
  | 0, _ => rfl
  | k + 1, h => by simp only [prevOf]; exact getD_left xs a (by omega)
theorem sel_ris (p : Int → Bool) : ∀ n : Nat, RisTo n (sel p n) (sel p n).length
  | 0 => fun j hj => by simp [sel] at hj
  | n + 1 => by
    have ih := sel_ris p n
    cases hp : p n
    · rw [sel_miss hp]
      intro j hj
      have := ih j hj
      omega
    · rw [sel_hit hp]
      intro j hj
      rw [List.length_append, List.length_singleton] at hj
      by_cases h : j < (sel p n).length
      · rw [prev_left _ _ (by omega), getD_left _ _ h]
        have := ih j h
        omega
      · obtain rfl : j = (sel p n).length := by omega
        rw [prev_left _ _ (Nat.le_refl _), getD_last]
        refine ⟨?_, by omega⟩
        cases hl : (sel p n).length with
        | zero => simp only [prevOf]; omega
        | succ m => simp only [prevOf]; exact (ih m (by omega)).2
theorem sel_risB (p : Int → Bool) {n : Nat} {N : Int} (h : N = n) : risB N (sel p n) = true := by subst h; exact ris_true (sel_ris p n)
/-- Arcs and as many values. -/
def pgB (xss : List (List Int)) (vs : List Int) : Bool := arcB xss && valB xss.length vs
theorem pg_true {xss : List (List Int)} {vs : List Int} (h : pgB xss vs = true) : arcB xss = true ∧ valB xss.length vs = true := by
  unfold pgB at h
  rwa [Bool.and_eq_true] at h
def ptB (xss : List (List Int)) (vs bs : List Int) : Bool := pgB xss vs && (risB xss.length bs && closB xss bs)

theorem c_paGood (xss : List (List Int)) (vs : List Int) (v u : Value) (w : World) (hs : ShortL xss) (hl : vs.length ≤ 4000000) (h : SeenL w v xss) (hu : Seen w u vs) :
    Calls Try.prog 80 #[v, u] w fun e w' => e = .returned (.bool (pgB xss vs)) ∧ w = w' := by
  have C0 := Lib.hid (c_clArcs xss v w hs h)
  have C1 := Lib.hid (c_vaGood vs u xss.length w hl hu)
  obtain ⟨A, c, rfl, hm⟩ := h.shape
  obtain ⟨A2, c2, rfl⟩ := hu.shape
  unfold pgB
  clear h hu hs hl
  generalize valB xss.length vs = b at *
  cases ha : arcB xss
  · rw [ha] at C0
    clear ha C1
    go_enter Try.func80, Try.ntmps80
    go_wp2_with fail
    refine C0.out.mono ?_
    rintro e w1 ⟨rfl, rfl⟩
    go_wp2
    go_ret
    exact ⟨rfl, rfl⟩
  · rw [ha] at C0
    clear ha
    go_enter Try.func80, Try.ntmps80
    go_wp2_with fail
    refine C0.out.mono ?_
    rintro e w1 ⟨rfl, rfl⟩
    go_wp2_with fail
    refine C1.out.mono ?_
    rintro e w1 ⟨rfl, rfl⟩
    go_wp2
    go_ret
    exact ⟨by simp, rfl⟩

theorem c_areArcsAndValues (xss : List (List Int)) (vs : List Int) (v u : Value) (w : World) (hs : ShortL xss) (hl : vs.length ≤ 4000000) (h : SeenL w v xss) (hu : Seen w u vs) :
    Calls Try.prog 89 #[v, u] w fun e w' => e = .returned (.bool (pgB xss vs)) ∧ w = w' := by
  have C0 := Lib.hid (c_AreArcs xss v w hs h)
  have C1 := Lib.hid (c_AreValues vs u xss.length w hl hu)
  obtain ⟨A, c, rfl, hm⟩ := h.shape
  obtain ⟨A2, c2, rfl⟩ := hu.shape
  unfold pgB
  clear h hu hs hl
  generalize valB xss.length vs = b at *
  cases ha : arcB xss
  · rw [ha] at C0
    clear ha C1
    go_enter Try.func89, Try.ntmps89
    go_wp2_with fail
    refine C0.out.mono ?_
    rintro e w1 ⟨rfl, rfl⟩
    go_wp2
    go_ret
    exact ⟨rfl, rfl⟩
  · rw [ha] at C0
    clear ha
    go_enter Try.func89, Try.ntmps89
    go_wp2_with fail
    refine C0.out.mono ?_
    rintro e w1 ⟨rfl, rfl⟩
    go_wp2_with fail
    refine C1.out.mono ?_
    rintro e w1 ⟨rfl, rfl⟩
    go_wp2
    go_ret
    exact ⟨by simp, rfl⟩

set_option maxHeartbeats 1000000 in
theorem c_paPit (xss : List (List Int)) (vs bs : List Int) (v u t : Value) (w : World) (hs : ShortL xss) (hl : vs.length ≤ 4000000) (hl2 : bs.length ≤ 4000000) (h : SeenL w v xss) (hu : Seen w u vs) (ht : Seen w t bs) :
    Calls Try.prog 92 #[v, u, t] w fun e w' => e = .returned (.bool (ptB xss vs bs)) ∧ Below w.heap.size w w' := by
  have C0 := Lib.hid (c_paGood xss vs v u w hs hl h hu)
  unfold ptB
  cases hg : pgB xss vs
  · rw [hg] at C0
    obtain ⟨A, c, rfl, hm⟩ := h.shape
    obtain ⟨A2, c2, rfl⟩ := hu.shape
    obtain ⟨A3, c3, rfl⟩ := ht.shape
    clear h hu ht hs hl hl2 hg
    go_enter Try.func92, Try.ntmps92
    go_wp2_with fail
    refine C0.out.mono ?_
    rintro e w1 ⟨rfl, rfl⟩
    go_wp2
    go_ret
    exact ⟨rfl, Below.refl _ _⟩
  · rw [hg] at C0
    obtain ⟨ha, _⟩ := pg_true hg
    have hN := arc_len ha
    have C1 := Lib.hid (c_l1Rising (xss.length : Int) bs t w (by omega) (by omega) hl2 ht)
    cases hr : risB xss.length bs
    · rw [hr] at C1
      obtain ⟨A, c, rfl, hm⟩ := h.shape
      obtain ⟨A2, c2, rfl⟩ := hu.shape
      obtain ⟨A3, c3, rfl⟩ := ht.shape
      clear h hu ht hs hl hl2 hg ha hr
      go_enter Try.func92, Try.ntmps92
      go_wp2_with fail
      refine C0.out.mono ?_
      rintro e w1 ⟨rfl, rfl⟩
      go_wp2_with fail
      refine C1.out.mono ?_
      rintro e w1 ⟨rfl, rfl⟩
      go_wp2
      go_ret
      exact ⟨rfl, Below.refl _ _⟩
    · have C2 := Lib.hid (c_clIs xss bs v t w ha (InN.ris hr) hl2 h ht)
      rw [hr] at C1
      obtain ⟨A, c, rfl, hm⟩ := h.shape
      obtain ⟨A2, c2, rfl⟩ := hu.shape
      obtain ⟨A3, c3, rfl⟩ := ht.shape
      clear h hu ht hs hl hl2 hg ha hr
      generalize closB xss bs = b at *
      go_enter Try.func92, Try.ntmps92
      go_wp2_with fail
      refine C0.out.mono ?_
      rintro e w1 ⟨rfl, rfl⟩
      go_wp2_with fail
      refine C1.out.mono ?_
      rintro e w1 ⟨rfl, rfl⟩
      go_wp2_with fail
      refine C2.out.mono ?_
      rintro e w1 ⟨rfl, hb⟩
      have HB := Lib.hid hb
      clear hb
      go_wp2
      go_ret
      exact ⟨by simp, HB.out⟩

set_option maxHeartbeats 400000 in
theorem c_fnCut (b0 k : Nat) (v : Value) (xs : List Int) (w : World) (hc : w.cell? ⟨b0, 0, none⟩ = some v) (h : Seen w v xs) (k1 : k < xs.length) (l1 : xs.length ≤ 4000000) :
    Calls Try.prog 97 #[.int .i64 k, .pointer (some ⟨b0, 0, none⟩)] w fun e w' => e = .returned (.int .i64 (xs.getD k 0)) ∧ w = w' := by
  obtain ⟨b1, o1, c1, rfl, hb1, hc1⟩ := h.at_ k1
  clear h
  generalize xs.getD k 0 = t at *
  generalize xs.length = n1 at *
  have a0 : (0 : Int) ≤ (k : Int) := by omega
  have a1 : (k : Int) < (n1 : Int) := by omega
  go_enter Try.func97, Try.ntmps97
  go_wp2
  go_ret
  exact ⟨rfl, rfl⟩

set_option maxHeartbeats 1000000 in
theorem c_sumOverCut (bs : List Int) (v : Value) (b0 : Nat) (f : Nat → Int) (w : World) (hl : bs.length ≤ 4000000) (h : Seen w v bs) (hf : ∀ k : Nat, k < bs.length → -1000000 ≤ f k ∧ f k ≤ 1000000)
    (H : Hid (∀ (k : Nat) (w' : World), k < bs.length → Below w.heap.size w w' → Calls Try.prog 97 #[.int .i64 (bs.getD k 0), .pointer (some ⟨b0, 0, none⟩)] w' fun e w'' => e = .returned (.int .i64 (f k)) ∧ Below w'.heap.size w' w'')) :
    Calls Try.prog 95 #[v, .func (.func 97) #[] #[.pointer (some ⟨b0, 0, none⟩)]] w fun e w' => e = .returned (.int .i64 (sumN f bs.length)) ∧ Below w.heap.size w w' := by
  have HS := Lib.hid h
  obtain ⟨A, c, rfl, hm, hA⟩ := h
  clear hm
  have E1 : Hid (∀ k : Nat, k < bs.length → ∃ b off, A = some ⟨b, off, none⟩ ∧ b < w.heap.size ∧ w.cell? ⟨b, off + k, none⟩ = some (.int .i64 (bs.getD k 0))) := fun k hk => by
    obtain ⟨b, off, rfl, hb, hc⟩ := hA (by omega)
    exact ⟨b, off, rfl, hb, hc k hk⟩
  have F1 : Hid (∀ k : Nat, k ≤ bs.length → -(1000000 * (k : Int)) ≤ sumN f k ∧ sumN f k ≤ 1000000 * k) := sumN_abs hf
  have F2 : Hid (∀ k : Nat, k < bs.length → -1000000 ≤ f k ∧ f k ≤ 1000000) := hf
  have F3 : Hid (∀ k : Nat, sumN f k + f k = sumN f (k + 1)) := fun k => rfl
  have F0 : Hid (sumN f 0 = 0) := rfl
  clear hA hf HS
  generalize sumN f = S at *
  generalize hn : bs.length = n at *
  clear hn
  go_enter Try.func95, Try.ntmps95
  go_wp2_with fail
  go_loopw [5, 10] (fun q i wr => ∃ k : Nat, k ≤ n ∧ i = .int .i64 k ∧ q = .int .i64 (S k) ∧ Below w.heap.size w wr) (fun _ i _ => n - (intOf i).toNat)
  case atStart => exact ⟨0, Nat.zero_le _, rfl, by rw [F0.out], Below.refl _ _⟩
  case round =>
    obtain ⟨k, hk, rfl, rfl, hbw⟩ := hrel
    have HB := Lib.hid hbw
    clear hbw
    by_cases hlt : k < n
    · obtain ⟨b, off, rfl, hbl, hcc⟩ := E1.out k hlt
      have q1 : wr.cell? ⟨b, off + k, none⟩ = some (.int .i64 (bs.getD k 0)) := by rw [HB.out.cell (p := ⟨b, off + k, none⟩) hbl]; exact hcc
      have HC := Lib.hid (H.out k wr hlt HB.out)
      obtain ⟨s0, s1⟩ := F1.out k hk
      obtain ⟨t0, t1⟩ := F2.out k hlt
      have f3 : Hid (S k + f k = S (k + 1)) := F3.out k
      clear hcc hbl
      generalize bs.getD k 0 = i at *
      generalize f k = t at *
      generalize S k = s at *
      have b1 : (0 : Int) ≤ (k : Int) := by omega
      have b2 : (k : Int) < (n : Int) := by omega
      have b3 : s ≤ 4000000000000 := by omega
      have b4 : -4000000000000 ≤ s := by omega
      clear s0 s1
      go_wp2_with fail
      refine HC.out.mono ?_
      rintro e w2 ⟨rfl, hb2⟩
      have HB2 : Hid (Below w.heap.size w w2) := HB.out.trans (hb2.mono HB.out.size)
      clear hb2
      go_wp2
      go_roundw
      case rel => exact ⟨k + 1, by omega, by go_num, by rw [← f3.out], HB2.out⟩
      case measure => simp [intOf]; omega
    · obtain rfl : k = n := by omega
      go_wp2
      go_ret
      exact ⟨rfl, HB.out⟩

set_option maxHeartbeats 1000000 in
theorem c_sumOverMax (bs : List Int) (v : Value) (f : Nat → Int) (w : World) (hl : bs.length ≤ 4000000) (h : Seen w v bs) (hf : ∀ k : Nat, k < bs.length → -1000000 ≤ f k ∧ f k ≤ 1000000)
    (H : Hid (∀ (k : Nat) (w' : World), k < bs.length → Below w.heap.size w w' → Calls Try.prog 96 #[.int .i64 (bs.getD k 0)] w' fun e w'' => e = .returned (.int .i64 (f k)) ∧ Below w'.heap.size w' w'')) :
    Calls Try.prog 95 #[v, .func (.func 96) #[] #[]] w fun e w' => e = .returned (.int .i64 (sumN f bs.length)) ∧ Below w.heap.size w w' := by
  have HS := Lib.hid h
  obtain ⟨A, c, rfl, hm, hA⟩ := h
  clear hm
  have E1 : Hid (∀ k : Nat, k < bs.length → ∃ b off, A = some ⟨b, off, none⟩ ∧ b < w.heap.size ∧ w.cell? ⟨b, off + k, none⟩ = some (.int .i64 (bs.getD k 0))) := fun k hk => by
    obtain ⟨b, off, rfl, hb, hc⟩ := hA (by omega)
    exact ⟨b, off, rfl, hb, hc k hk⟩
  have F1 : Hid (∀ k : Nat, k ≤ bs.length → -(1000000 * (k : Int)) ≤ sumN f k ∧ sumN f k ≤ 1000000 * k) := sumN_abs hf
  have F2 : Hid (∀ k : Nat, k < bs.length → -1000000 ≤ f k ∧ f k ≤ 1000000) := hf
  have F3 : Hid (∀ k : Nat, sumN f k + f k = sumN f (k + 1)) := fun k => rfl
  have F0 : Hid (sumN f 0 = 0) := rfl
  clear hA hf HS
  generalize sumN f = S at *
  generalize hn : bs.length = n at *
  clear hn
  go_enter Try.func95, Try.ntmps95
  go_wp2_with fail
  go_loopw [5, 10] (fun q i wr => ∃ k : Nat, k ≤ n ∧ i = .int .i64 k ∧ q = .int .i64 (S k) ∧ Below w.heap.size w wr) (fun _ i _ => n - (intOf i).toNat)
  case atStart => exact ⟨0, Nat.zero_le _, rfl, by rw [F0.out], Below.refl _ _⟩
  case round =>
    obtain ⟨k, hk, rfl, rfl, hbw⟩ := hrel
    have HB := Lib.hid hbw
    clear hbw
    by_cases hlt : k < n
    · obtain ⟨b, off, rfl, hbl, hcc⟩ := E1.out k hlt
      have q1 : wr.cell? ⟨b, off + k, none⟩ = some (.int .i64 (bs.getD k 0)) := by rw [HB.out.cell (p := ⟨b, off + k, none⟩) hbl]; exact hcc
      have HC := Lib.hid (H.out k wr hlt HB.out)
      obtain ⟨s0, s1⟩ := F1.out k hk
      obtain ⟨t0, t1⟩ := F2.out k hlt
      have f3 : Hid (S k + f k = S (k + 1)) := F3.out k
      clear hcc hbl
      generalize bs.getD k 0 = i at *
      generalize f k = t at *
      generalize S k = s at *
      have b1 : (0 : Int) ≤ (k : Int) := by omega
      have b2 : (k : Int) < (n : Int) := by omega
      have b3 : s ≤ 4000000000000 := by omega
      have b4 : -4000000000000 ≤ s := by omega
      clear s0 s1
      go_wp2_with fail
      refine HC.out.mono ?_
      rintro e w2 ⟨rfl, hb2⟩
      have HB2 : Hid (Below w.heap.size w w2) := HB.out.trans (hb2.mono HB.out.size)
      clear hb2
      go_wp2
      go_roundw
      case rel => exact ⟨k + 1, by omega, by go_num, by rw [← f3.out], HB2.out⟩
      case measure => simp [intOf]; omega
    · obtain rfl : k = n := by omega
      go_wp2
      go_ret
      exact ⟨rfl, HB.out⟩


theorem sum_sel (xs : List Int) (p : Int → Bool) : ∀ k : Nat, sumN (valF xs (sel p k)) (sel p k).length = sumN (fun j => if p (j : Int) then xs.getD j 0 else 0) k
  | 0 => rfl
  | k + 1 => by
    have ih := sum_sel xs p k
    rw [sumN_succ]
    cases hp : p k
    · rw [sel_miss hp, ih]
      simp
    · rw [sel_hit hp, List.length_append, List.length_singleton, sumN_succ, sumN_congr (g := valF xs (sel p k)) fun j hj => ?_, ih]
      · have : valF xs (sel p k ++ [(k : Int)]) (sel p k).length = xs.getD k 0 := by
          unfold valF
          rw [getD_last, Int.toNat_natCast]
        rw [this]
        simp
      · unfold valF
        rw [getD_left _ _ hj]
/-- What positive values there are. -/
def posS (vs : List Int) : Int := sumN (fun k => max (vs.getD k 0) 0) vs.length
theorem pos_ore (vs : List Int) : sumN (valF vs (sel (pAt oreQ vs) vs.length)) (sel (pAt oreQ vs) vs.length).length = posS vs := by
  rw [sum_sel]
  unfold posS
  refine sumN_congr fun k hk => ?_
  unfold pAt oreQ
  rw [Int.toNat_natCast]
  by_cases c : 0 < vs.getD k 0
  · rw [decide_eq_true c, if_pos rfl]; omega
  · rw [decide_eq_false c, if_neg (by simp)]; omega
def cpV (xss : List (List Int)) (vs bs : List Int) : Int := if ptB xss vs bs then posS vs - sumN (valF vs bs) bs.length else 0
theorem pt_true {xss : List (List Int)} {vs bs : List Int} (h : ptB xss vs bs = true) : pgB xss vs = true ∧ arcB xss = true ∧ valB xss.length vs = true ∧ risB xss.length bs = true ∧ closB xss bs = true := by
  unfold ptB at h
  rw [Bool.and_eq_true, Bool.and_eq_true] at h
  obtain ⟨h1, h2, h3⟩ := h
  exact ⟨h1, (pg_true h1).1, (pg_true h1).2, h2, h3⟩
theorem pos_box {n : Int} {vs : List Int} (h : valB n vs = true) : -120000000 ≤ posS vs ∧ posS vs ≤ 120000000 := by
  obtain ⟨e, a, b, hw⟩ := val_yes h
  have := sumN_abs (f := fun k => max (vs.getD k 0) 0) (n := vs.length) (fun k hk => by
    have := wall_at hw hk
    show -1000000 ≤ max _ _ ∧ max _ _ ≤ (1000000 : Int)
    omega) vs.length (Nat.le_refl _)
  unfold posS
  omega
theorem val_box {n : Int} {vs bs : List Int} (h : valB n vs = true) (hr : risB n bs = true) : -120000000 ≤ sumN (valF vs bs) bs.length ∧ sumN (valF vs bs) bs.length ≤ 120000000 := by
  have h1 := vlen h hr
  have := sumN_abs (f := valF vs bs) (n := bs.length) (fun k hk => valF_box h hr hk) bs.length (Nat.le_refl _)
  omega

set_option maxHeartbeats 1000000 in
theorem c_CutOfPitS (xss : List (List Int)) (vs bs : List Int) (v u t : Value) (w : World) (hs : ShortL xss) (hl : vs.length ≤ 4000000) (hl2 : bs.length ≤ 4000000) (h : SeenL w v xss) (hu : Seen w u vs) (ht : Seen w t bs) :
    Calls Try.prog 52 #[v, u, t] w fun e w' => e = .returned (.tuple #[.int .i64 (cpV xss vs bs), .bool (ptB xss vs bs)]) ∧ Below w.heap.size w w' := by
  have C0 := Lib.hid (c_paPit xss vs bs v u t w hs hl hl2 h hu ht)
  unfold cpV
  cases hp : ptB xss vs bs
  · rw [hp] at C0
    obtain ⟨A, c, rfl, hm⟩ := h.shape
    obtain ⟨A2, c2, rfl⟩ := hu.shape
    obtain ⟨A3, c3, rfl⟩ := ht.shape
    clear h hu ht hs hl hl2 hp
    go_enter Try.func52, Try.ntmps52
    go_wp2_with fail
    refine C0.out.mono ?_
    rintro e w1 ⟨rfl, hb⟩
    have HB := Lib.hid hb
    clear hb
    go_wp2
    go_ret2
    exact ⟨rfl, HB.out⟩
  · rw [hp] at C0
    obtain ⟨_, ha, hv, hr, _⟩ := pt_true hp
    obtain ⟨ev, _, _, _⟩ := val_yes hv
    have HO := Lib.hid (sel_risB (pAt oreQ vs) (n := vs.length) (N := (xss.length : Int)) ev.symm)
    have HU := Lib.hid hu
    have HT := Lib.hid ht
    have HV := Lib.hid hv
    have HR := Lib.hid hr
    have HPO := Lib.hid (pos_ore vs)
    have hol := sel_len (pAt oreQ vs) vs.length
    obtain ⟨z1, z2⟩ := pos_box hv
    obtain ⟨z3, z4⟩ := val_box hv hr
    obtain ⟨A, c, rfl, hm⟩ := h.shape
    obtain ⟨A2, c2, rfl⟩ := hu.shape
    obtain ⟨A3, c3, rfl⟩ := ht.shape
    clear h hu ht hs hp ha hv hr
    rw [if_pos rfl]
    obtain ⟨x, hx⟩ : ∃ x, x = posS vs := ⟨_, rfl⟩
    obtain ⟨y, hy⟩ : ∃ y, y = sumN (valF vs bs) bs.length := ⟨_, rfl⟩
    rw [← hx, ← hy]
    rw [← hx] at HPO z1 z2
    rw [← hy] at z3 z4
    have HY := Lib.hid hy
    clear hx hy
    go_enter Try.func52, Try.ntmps52
    go_wp2_with fail
    refine C0.out.mono ?_
    rintro e w1 ⟨rfl, hb⟩
    have HB := Lib.hid hb
    have HU1 := Lib.hid (HU.out.below hb)
    clear hb
    go_wp2_with fail
    refine (c_vaOre vs _ w1 hl HU1.out).mono ?_
    rintro e w2 ⟨v2, rfl, hr2, hb2⟩
    have HB2 : Hid (Below w.heap.size w w2) := HB.out.trans (hb2.mono HB.out.size)
    have CA := Lib.hid (c_vaSum vs _ (sel (pAt oreQ vs) vs.length) v2 (xss.length : Int) w2 hl (by omega) (HU.out.below HB2.out) hr2.seen HV.out HO.out)
    rw [HPO.out] at CA
    have CB := Lib.hid (c_vaSum vs _ bs _ (xss.length : Int) w2 hl hl2 (HU.out.below HB2.out) (HT.out.below HB2.out) HV.out HR.out)
    rw [← HY.out] at CB
    obtain ⟨A4, c4, rfl⟩ := hr2.shape
    clear hr2 hb2 HPO HO
    go_wp2_with fail
    refine CA.out.mono ?_
    rintro e w3 ⟨rfl, rfl⟩
    go_wp2_with fail
    refine CB.out.mono ?_
    rintro e w3 ⟨rfl, rfl⟩
    go_wp2
    go_ret2
    exact ⟨by go_num, HB2.out⟩

set_option maxHeartbeats 400000 in
theorem c_fnMax (x : Int) (w : World) : Calls Try.prog 96 #[.int .i64 x] w fun e w' => e = .returned (.int .i64 (max x 0)) ∧ Below w.heap.size w w' := by
  by_cases h : x < 0
  · rw [show max x 0 = 0 by omega]
    go_enter Try.func96, Try.ntmps96
    go_wp2
    go_ret
    exact ⟨by go_num, Below.refl _ _⟩
  · rw [show max x 0 = x by omega]
    go_enter Try.func96, Try.ntmps96
    go_wp2
    go_ret
    exact ⟨by go_num, Below.refl _ _⟩

set_option maxHeartbeats 1000000 in
set_option maxRecDepth 100000 in
theorem c_CutOfPit (xss : List (List Int)) (vs bs : List Int) (v u t : Value) (w : World) (hs : ShortL xss) (hl : vs.length ≤ 4000000) (hl2 : bs.length ≤ 4000000) (h : SeenL w v xss) (hu : Seen w u vs) (ht : Seen w t bs) :
    Calls Try.prog 53 #[v, u, t] w fun e w' => e = .returned (.tuple #[.int .i64 (cpV xss vs bs), .bool (ptB xss vs bs)]) ∧ Below w.heap.size w w' := by
  have HS := Lib.hid h
  have HU := Lib.hid hu
  have HT := Lib.hid ht
  obtain ⟨A, c, rfl, hm⟩ := h.shape
  obtain ⟨A2, c2, rfl⟩ := hu.shape
  obtain ⟨A3, c3, rfl⟩ := ht.shape
  have HB0 : Hid (Below w.heap.size w (w.alloc (.cells #[.slice A2 vs.length c2] 30))) := (Below.refl _ _).alloc (Nat.le_refl _) _
  have HC0 : Hid ((w.alloc (.cells #[.slice A2 vs.length c2] 30)).cell? ⟨w.heap.size, 0, none⟩ = some (.slice A2 vs.length c2)) := by simp [Hid]
  have HZ0 : Hid (w.heap.size < (w.alloc (.cells #[.slice A2 vs.length c2] 30)).heap.size) := by simp [Hid]
  have C0 := Lib.hid (c_areArcsAndValues xss vs _ _ _ hs hl (HS.out.below HB0.out) (HU.out.below HB0.out))
  have C1 := Lib.hid (c_isClosed xss bs _ _ _ hs hl2 (HS.out.below HB0.out) (HT.out.below HB0.out))
  clear h hu ht
  have q0 := HC0.out
  unfold cpV
  cases hg : pgB xss vs
  · have hp : ptB xss vs bs = false := by unfold ptB; rw [hg]; rfl
    rw [hp, if_neg (by simp)]
    rw [hg] at C0
    clear hp hg C1
    go_enter Try.func53, Try.ntmps53
    go_wp2_with fail
    refine C0.out.mono ?_
    rintro e w1 ⟨rfl, rfl⟩
    go_wp2
    go_ret2
    exact ⟨rfl, HB0.out⟩
  · have hp : ptB xss vs bs = gB xss bs := by unfold ptB gB vB; rw [hg, (pg_true hg).1]; simp
    rw [hg] at C0
    rw [hp]
    cases hq : gB xss bs
    · rw [hq] at C1
      rw [if_neg (by simp)]
      clear hp hg hq
      go_enter Try.func53, Try.ntmps53
      go_wp2_with fail
      refine C0.out.mono ?_
      rintro e w1 ⟨rfl, rfl⟩
      go_wp2_with fail
      refine C1.out.mono ?_
      rintro e w1 ⟨rfl, hb⟩
      have HB1 : Hid (Below w.heap.size w w1) := HB0.out.trans (hb.mono HB0.out.size)
      clear hb
      go_wp2
      go_ret2
      exact ⟨rfl, HB1.out⟩
    · obtain ⟨_, ha, hv, hr, _⟩ := pt_true (hp.trans hq)
      have HV := Lib.hid hv
      have HR := Lib.hid hr
      obtain ⟨z1, z2⟩ := pos_box hv
      obtain ⟨z3, z4⟩ := val_box hv hr
      rw [hq] at C1
      rw [if_pos rfl]
      have CM : Hid (∀ u, Below w.heap.size w u → Calls Try.prog 95 #[.slice A2 vs.length c2, .func (.func 96) #[] #[]] u fun e w' => e = .returned (.int .i64 (posS vs)) ∧ Below u.heap.size u w') := fun u hu =>
        c_sumOverMax vs _ _ u hl (HU.out.below hu) (fun k hk => by
          have := wall_at (val_yes HV.out).2.2.2 hk
          show -1000000 ≤ max _ _ ∧ max _ _ ≤ (1000000 : Int)
          omega) (fun k u' hk hu' => c_fnMax _ u')
      have CV : Hid (∀ u, Below w.heap.size w u → Hid (w.heap.size < u.heap.size) → Hid (u.cell? ⟨w.heap.size, 0, none⟩ = some (.slice A2 vs.length c2)) → Calls Try.prog 95 #[.slice A3 bs.length c3, .func (.func 97) #[] #[.pointer (some ⟨w.heap.size, 0, none⟩)]] u fun e w' => e = .returned (.int .i64 (sumN (valF vs bs) bs.length)) ∧ Below u.heap.size u w') := fun u hu hz hc =>
        c_sumOverCut bs _ _ _ u hl2 (HT.out.below hu) (fun k hk => valF_box HV.out HR.out hk) (fun k u' hk hu' => by
          obtain ⟨i, e, hi, ev⟩ := sumv_at HV.out HR.out hk
          rw [e, ev]
          exact (c_fnCut _ i _ vs u' (by rw [hu'.cell (p := ⟨w.heap.size, 0, none⟩) hz.out]; exact hc.out) (HU.out.below (hu.trans (hu'.mono hu.size))) hi hl).mono (fun e w' h => ⟨h.1, h.2 ▸ Below.refl _ _⟩))
      generalize posS vs = x at *
      generalize sumN (valF vs bs) bs.length = y at *
      clear hp hg hq ha hv hr
      go_enter Try.func53, Try.ntmps53
      go_wp2_with fail
      refine C0.out.mono ?_
      rintro e w1 ⟨rfl, rfl⟩
      go_wp2_with fail
      refine C1.out.mono ?_
      rintro e w1 ⟨rfl, hb⟩
      have HB1 : Hid (Below w.heap.size w w1) := HB0.out.trans (hb.mono HB0.out.size)
      have q1 : w1.cell? ⟨w.heap.size, 0, none⟩ = some (.slice A2 vs.length c2) := by rw [hb.cell (p := ⟨w.heap.size, 0, none⟩) HZ0.out]; exact HC0.out
      have HZ1 : Hid (w.heap.size < w1.heap.size) := Nat.lt_of_lt_of_le HZ0.out hb.size
      have HC1 := Lib.hid q1
      clear hb q0
      go_wp2_with fail
      refine (CM.out _ HB1.out).mono ?_
      rintro e w2 ⟨rfl, hb⟩
      have HB2 : Hid (Below w.heap.size w w2) := HB1.out.trans (hb.mono HB1.out.size)
      have HC2 : Hid (w2.cell? ⟨w.heap.size, 0, none⟩ = some (.slice A2 vs.length c2)) := by show _ = _; rw [hb.cell (p := ⟨w.heap.size, 0, none⟩) HZ1.out]; exact HC1.out
      have HZ2 : Hid (w.heap.size < w2.heap.size) := Nat.lt_of_lt_of_le HZ1.out hb.size
      clear hb q1
      go_wp2_with fail
      refine (CV.out _ HB2.out HZ2 HC2).mono ?_
      rintro e w3 ⟨rfl, hb⟩
      have HB3 : Hid (Below w.heap.size w w3) := HB2.out.trans (hb.mono HB2.out.size)
      clear hb
      go_wp2
      go_ret2
      exact ⟨by go_num, HB3.out⟩
end Go.Proofs.Ytgboedfnkkckkaa
