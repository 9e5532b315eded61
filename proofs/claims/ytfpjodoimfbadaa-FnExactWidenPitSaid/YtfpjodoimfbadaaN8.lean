/-
  Contracts: a list closed, and what none of a closure needs, in the program.
-/
import Derived.Test.YtfpjodoimfbadaaN6
import Derived.Test.YtfpjodoimfbadaaN7
namespace Go.Proofs.Ytfpjodoimfbadaa
open Go.RowKit
set_option linter.unusedVariables false

theorem SeenL.row {w : World} {A : Option Addr} {n c : Nat} {xss : List (List Int)} (h : SeenL w (.slice A n c) xss) {k : Nat} (hk : k < xss.length) : ∃ b off A' c', A = some ⟨b, off, none⟩ ∧ b < w.heap.size ∧ w.cell? ⟨b, off + k, none⟩ = some (.slice A' (xss.getD k []).length c') ∧ Seen w (.slice A' (xss.getD k []).length c') (xss.getD k []) := h.at_ hk
theorem Seen.at2 {w : World} {A : Option Addr} {n c : Nat} {xs : List Int} (h : Seen w (.slice A n c) xs) {k : Nat} (hk : k < xs.length) : ∃ b off, A = some ⟨b, off, none⟩ ∧ b < w.heap.size ∧ w.cell? ⟨b, off + k, none⟩ = some (.int .i64 (xs.getD k 0)) := by
  obtain ⟨b, off, c', e, hb, hc⟩ := h.at_ hk
  simp at e
  obtain ⟨rfl, _, _⟩ := e
  exact ⟨b, off, rfl, hb, hc⟩
theorem arc_in {xss : List (List Int)} (h : arcB xss = true) {i : Nat} (hi : i < xss.length) : InN xss.length (xss.getD i []) := fun x hx => by
  have := arc_mem h hi hx
  omega

set_option maxHeartbeats 4000000 in
set_option maxRecDepth 100000 in
theorem c_closeList (xss : List (List Int)) (l : List Int) (v u : Value) (w : World) (ha : arcB xss = true) (hr : InN xss.length l) (hl : l.length ≤ 4000000) (h : SeenL w v xss) (hs : Seen w u l) :
    Calls Try.prog 30 #[v, u] w (GivesRow w (clL xss l)) := by
  have HS := Lib.hid h
  have hN := arc_len ha
  have C1 := Lib.hid (c_marksOf xss.length l u w hl (by omega) hs hr)
  obtain ⟨A, c, rfl, _⟩ := h.shape
  obtain ⟨A2, c2, rfl⟩ := hs.shape
  have EI : Hid (∀ i, i < xss.length → InN xss.length (xss.getD i [])) := fun i hi => arc_in ha hi
  have EL : Hid (∀ i, i < xss.length → (xss.getD i []).length ≤ 4000000) := fun i hi => by have := arc_slen ha hi; omega
  obtain ⟨S, hS⟩ : ∃ S, S = dnS xss (inL l) := ⟨_, rfl⟩
  have E0 : Hid (S 0 = inL l) := by rw [hS]; rfl
  have EY : Hid (∀ t, S t ((xss.length - 1 - t : Nat) : Int) = true → S (t + 1) = addL (xss.getD (xss.length - 1 - t) []) (S t)) := fun t ht => by
    rw [hS] at ht ⊢
    show (if _ then _ else _) = _
    rw [if_pos ht]
  have EN : Hid (∀ t, S t ((xss.length - 1 - t : Nat) : Int) = false → S (t + 1) = S t) := fun t ht => by
    rw [hS] at ht ⊢
    show (if _ then _ else _) = _
    rw [if_neg (by rw [ht]; simp)]
  have EE : Hid (clL xss l = sel (S xss.length) xss.length) := by rw [hS]; rfl
  clear h hs hr ha hS
  generalize hn : xss.length = N at *
  have HNn := Lib.hid hn
  clear hn
  go_enter Try.func30, Try.ntmps30
  go_wp2_with fail
  refine C1.out.mono ?_
  rintro e w1 ⟨rfl, hm, hb⟩
  rw [← E0.out] at hm
  have HM := Lib.hid hm
  have HB := Lib.hid hb
  have hw1 : w.heap.size < w1.heap.size := hm.lt
  clear hm hb
  go_wp2_with fail
  go_loopw [6] (fun i wr => ∃ (t : Nat) (m : Int), t ≤ N ∧ m = (N : Int) - 1 - t ∧ i = .int .i64 m ∧ SetM wr w.heap.size N (S t) ∧ Below w.heap.size w wr) (fun i _ => (RowKit.intOf i + 1).toNat)
  case atStart => exact ⟨0, (N : Int) - 1, Nat.zero_le _, by simp, by go_num, HM.out, HB.out⟩
  case round =>
    obtain ⟨t, m, ht, hmt, rfl, hm, hb⟩ := hrel
    have HM := Lib.hid hm
    have HB := Lib.hid hb
    clear hm hb
    by_cases hlt : t < N
    · obtain ⟨j, hj⟩ : ∃ j : Nat, N - 1 - t = j := ⟨_, rfl⟩
      obtain rfl : m = (j : Int) := by omega
      have hjN : j < N := by omega
      have EYt := Lib.hid (EY.out t)
      have ENt := Lib.hid (EN.out t)
      rw [hj] at EYt ENt
      have b1 : (0 : Int) ≤ (j : Int) := by omega
      have b2 : (j : Int) < (N : Int) := by omega
      have hrun := HM.out.look (j : Int) b1 b2 (by omega)
      have HJ := Lib.hid hmt
      clear hmt hj
      cases hp : S t (j : Int)
      · have G := Lib.hid (ENt.out hp)
        rw [hp] at hrun
        clear hp
        go_wp2
        go_roundw
        case rel => exact ⟨t + 1, (j : Int) - 1, by omega, by have := HJ.out; omega, by go_num, by rw [G.out]; exact HM.out, HB.out⟩
        case measure => simp [RowKit.intOf]
      · have G := Lib.hid (EYt.out hp)
        rw [hp] at hrun
        clear hp
        have HSr := Lib.hid (HS.out.below HB.out)
        obtain ⟨b, off, A', c', rfl, _, q1, hse⟩ := HSr.out.row (k := j) (by rw [HNn.out]; omega)
        have C2 := Lib.hid (c_markAll w.heap.size N (S t) _ _ wr (EL.out j hjN) (by omega) HM.out hse (EI.out j hjN))
        clear hse
        generalize (xss.getD j []).length = mm at *
        go_wp2_with fail
        refine C2.out.mono ?_
        rintro e w2 ⟨rfl, hm2, hg2⟩
        rw [← G.out] at hm2
        have HM2 := Lib.hid hm2
        have HB2 : Hid (Below w.heap.size w w2) := HB.out.grown hg2 HB.out.size (fun k hk => by cases hk; exact Nat.le_refl _)
        clear hm2 hg2
        go_wp2
        go_roundw
        case rel => exact ⟨t + 1, (j : Int) - 1, by omega, by have := HJ.out; omega, by go_num, HM2.out, HB2.out⟩
        case measure => simp [RowKit.intOf]
    · obtain rfl : t = N := by omega
      obtain rfl : m = -1 := by omega
      go_wp2_with fail
      refine (c_markedBlocks w.heap.size t (S t) wr (by omega) HM.out).mono ?_
      rintro e w2 ⟨q, rfl, hq, hb2⟩
      have HQ := Lib.hid (hq.mono HB.out.size)
      have HB2 : Hid (Below w.heap.size w w2) := HB.out.trans (hb2.mono HB.out.size)
      clear hq hb2
      go_wp2
      go_ret
      exact ⟨_, rfl, by rw [EE.out]; exact HQ.out, HB2.out⟩

end Go.Proofs.Ytfpjodoimfbadaa
