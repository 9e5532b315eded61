/-
  Contract: what the top blocks of each column are worth, in the program.
-/
import Derived.Test.YtmkbjkmpincogaaST
namespace Go.Proofs.Ytmkbjkmpincogaa
open Go.RowKit
set_option linter.unusedVariables false

/-- The columns before k are filled, and column k up to depth j. -/
def WorTo (xss : List (List Int)) (p : List Int) (n k j : Nat) (ys : List Int) : Prop := ∀ c d, c < n → d < Lp p c → ys.getD (offT p c + d) 0 = if c < k ∨ (c = k ∧ d ≤ j) then preS (xss.getD c []) d else 0
theorem wor_zero (xss : List (List Int)) (p : List Int) (n : Nat) : WorTo xss p n 0 0 (List.replicate (offT p n) 0) := fun c d hc hd => by
  have h := place_lt hc hd
  rw [show (List.replicate (offT p n) (0 : Int)).getD (offT p c + d) 0 = 0 by simp [List.getD_eq_getElem?_getD, h]]
  split
  · rename_i e
    obtain rfl : d = 0 := by omega
    rfl
  · rfl
theorem wor_put {xss : List (List Int)} {p : List Int} {n k j : Nat} {ys : List Int} (hl : ys.length = offT p n) (hk : k < n) (hj : j + 1 < Lp p k) (h : WorTo xss p n k j ys) : WorTo xss p n k (j + 1) (ys.set (offT p k + (j + 1)) (preS (xss.getD k []) (j + 1))) := fun c d hc hd => by
  have hp := place_lt hk hj
  rw [set_getD (by omega)]
  by_cases e : offT p c + d = offT p k + (j + 1)
  · obtain ⟨rfl, rfl⟩ := offT_inj p hd hj e
    rw [if_pos e, if_pos (.inr ⟨rfl, Nat.le_refl _⟩)]
  · rw [if_neg e, h c d hc hd]
    by_cases e2 : c < k ∨ (c = k ∧ d ≤ j)
    · rw [if_pos e2, if_pos (by omega)]
    · rw [if_neg e2, if_neg (fun e3 => ?_)]
      rcases e3 with e3 | ⟨rfl, e3⟩
      · exact e2 (.inl e3)
      · have : d = j + 1 := by omega
        subst this
        exact e rfl
theorem wor_next {xss : List (List Int)} {p : List Int} {n k : Nat} {ys : List Int} (h : WorTo xss p n k (Lp p k - 1) ys) : WorTo xss p n (k + 1) 0 ys := fun c d hc hd => by
  rw [h c d hc hd]
  by_cases e : c = k
  · subst e
    rw [if_pos (.inr ⟨rfl, by omega⟩), if_pos (.inl (by omega))]
  · by_cases e2 : c < k
    · rw [if_pos (.inl e2), if_pos (.inl (by omega))]
    · rw [if_neg (by omega)]
      split
      · rename_i e3
        obtain rfl : d = 0 := by omega
        rfl
      · rfl

set_option maxHeartbeats 4000000 in
set_option maxRecDepth 20000 in
theorem c_worthTable (xss : List (List Int)) (p : List Int) (n D : Nat) (v u : Value) (w : World) (S : Sec xss n D) (hq : Pro p n D) (h : SeenC w v xss) (hp : Seen w u p) :
    Calls Try.prog 86 #[v, u] w fun e w' => ∃ b g ys, e = .returned (.slice (some ⟨b, 0, none⟩) n n) ∧ Tab w' w.heap.size b g p n n ys ∧ WorTo xss p n n 0 ys ∧ Below w.heap.size w w' := by
  have H1 := Lib.hid (c_depthTable p n D u w hq S.n1 S.n2 S.d2 hp)
  obtain ⟨A, c, rfl, hm⟩ := h.seen.shape
  have ECol : Hid (∀ k : Nat, k < n → ∃ b off b' off' c', A = some ⟨b, off, none⟩ ∧ b < w.heap.size ∧ b' < w.heap.size ∧ w.cell? ⟨b, off + k, none⟩ = some (.slice (some ⟨b', off', none⟩) D c') ∧ ∀ d, d < D → w.cell? ⟨b', off' + d, none⟩ = some (.int .i64 ((xss.getD k []).getD d 0))) := fun k hk => by
    obtain ⟨b, off, b', off', c', e, h1, _, h2, _⟩ := h.col (k := k) (by rw [S.len]; exact hk) (by rw [S.col k hk]; exact S.d1)
    rw [S.col k hk] at h1 h2
    exact ⟨b, off, b', off', c', e, lt_of_cell h1, lt_of_cell (h2 0 S.d1), h1, h2⟩
  have EB : Hid (∀ k d, k < n → d ≤ D → -6000000 ≤ preS (xss.getD k []) d ∧ preS (xss.getD k []) d ≤ 6000000) := fun k d hk hd => by
    have := pre_box (fun d hd => S.box k d hk hd) d hd
    have := S.d2
    omega
  have EX : Hid (∀ k d, preS (xss.getD k []) (d + 1) = preS (xss.getD k []) d + (xss.getD k []).getD d 0) := fun k d => rfl
  obtain ⟨A2, c2, rfl, _, hA⟩ := hp
  rw [hq.len] at hA H1 ⊢
  rw [S.len]
  have E1 : Hid (∀ k : Nat, k < n → ∃ b off, A2 = some ⟨b, off, none⟩ ∧ b < w.heap.size ∧ w.cell? ⟨b, off + k, none⟩ = some (.int .i64 (p.getD k 0))) := fun k hk => by
    obtain ⟨b, off, rfl, hl, hc⟩ := hA (by omega)
    exact ⟨b, off, rfl, hl, hc k hk⟩
  have HL : Hid (∀ c, c < n → 1 ≤ Lp p c ∧ Lp p c ≤ D + 1 ∧ p.getD c 0 = ((Lp p c - 1 : Nat) : Int)) := fun c hc => by
    have a := Lp_box hq S.d2 hc
    have b := hq.box c hc
    omega
  have n2 := S.n2
  have m2 := S.d2
  clear hA h S hm hq
  go_enter Try.func86, Try.ntmps86
  go_wp2_with fail
  refine H1.out.mono ?_
  rintro e w1 ⟨b, g, rfl, ht, hb⟩
  have HT1 := Lib.hid ht
  have HB1 := Lib.hid hb
  clear ht hb H1
  go_wp2_with fail
  go_loopw [13] (fun i wr => ∃ k : Nat, k ≤ n ∧ i = .int .i64 k ∧ (∃ ys, Tab wr w.heap.size b g p n n ys ∧ WorTo xss p n k 0 ys) ∧ Below w.heap.size w wr) (fun i _ => n - (intOf i).toNat)
  case atStart => exact ⟨0, Nat.zero_le _, rfl, ⟨_, HT1.out, wor_zero _ _ _⟩, HB1.out⟩
  case round =>
    obtain ⟨k, hk, rfl, ⟨ys, ht, hw⟩, hb⟩ := hrel
    have HT := Lib.hid ht
    have HW := Lib.hid hw
    have HB := Lib.hid hb
    clear ht hw hb
    by_cases hlt : k < n
    · obtain ⟨bb, off, rfl, hbl, q0⟩ := E1.out k hlt
      rw [← HB.out.cell (p := ⟨bb, off + k, none⟩) hbl] at q0
      obtain ⟨l1, l2, l3⟩ := HL.out k hlt
      rw [l3] at q0
      have b1 : (0 : Int) ≤ (k : Int) := by omega
      have b2 : (k : Int) < (n : Int) := by omega
      have q1 := HT.out.cell hlt hlt
      unfold rowV at q1
      obtain ⟨M, hM⟩ : ∃ M : Nat, Lp p k - 1 = M := ⟨_, rfl⟩
      have hLM : Lp p k = M + 1 := by omega
      have HLM := Lib.hid hLM
      have HM := Lib.hid hM
      rw [hM] at q0
      rw [hLM] at q1
      clear hM hLM l3 l1 l2
      go_wp2_with fail
      go_loopw [22] (fun i wr => ∃ j : Nat, j ≤ M ∧ i = .int .i64 j ∧ (∃ ys, Tab wr w.heap.size b g p n n ys ∧ WorTo xss p n k j ys) ∧ Below w.heap.size w wr) (fun i _ => M - (intOf i).toNat)
      case atStart => exact ⟨0, Nat.zero_le _, rfl, ⟨_, HT.out, HW.out⟩, HB.out⟩
      case round =>
        obtain ⟨j, hj, rfl, ⟨zs, ht, hw⟩, hb⟩ := hrel
        have KT := Lib.hid ht
        have KW := Lib.hid hw
        have KB := Lib.hid hb
        clear ht hw hb q0 q1
        by_cases hlj : j < M
        · have e0 := HLM.out
          have pl := place_lt (p := p) (n := n) (c := k) (d := j) hlt (by omega)
          have pl2 := place_lt (p := p) (n := n) (c := k) (d := j + 1) hlt (by omega)
          obtain ⟨x1, _, x3⟩ := KT.out.at_ pl
          obtain ⟨x4, x5, _⟩ := KT.out.at_ pl2
          rw [KW.out k j hlt (by omega), if_pos (.inr ⟨rfl, Nat.le_refl _⟩)] at x1
          obtain ⟨bc, oc, b', off', c', e1, h1, h2, h3, h4⟩ := ECol.out k hlt
          have h5 := h4 j (by have := HL.out k hlt; omega)
          rw [← KB.out.cell (p := ⟨bc, oc + k, none⟩) h1] at h3
          rw [← KB.out.cell (p := ⟨b', off' + j, none⟩) h2] at h5
          clear h4
          have d1 : (j : Int) < (D : Int) := by have := HL.out k hlt; omega
          have hst := KT.out.set_ (offT p k + (j + 1)) (preS (xss.getD k []) (j + 1))
          have hwn := wor_put KT.out.len hlt (by omega) KW.out
          have hbn : Below w.heap.size w (wr.setCell ⟨g, offT p k + (j + 1), none⟩ (.int .i64 (preS (xss.getD k []) (j + 1)))) := KB.out.setCell KT.out.lt.2.2.1 _
          have bx := EB.out k j hlt (by have := HL.out k hlt; omega)
          have by_ := EB.out k (j + 1) hlt (by have := HL.out k hlt; omega)
          have X := EX.out k j
          rw [X] at hst hbn by_
          have HS := Lib.hid hst
          have HW := Lib.hid hwn
          rw [X] at HW
          have HBN := Lib.hid hbn
          clear hst hwn hbn X pl pl2 e0
          have y1 : (0 : Int) ≤ (j : Int) := by omega
          have y2 : (j : Int) < (M : Int) := by omega
          have y3 : (j : Int) < (M : Int) + 1 := by omega
          have y4 : (j : Int) + 1 < (M : Int) + 1 := by omega
          have y5 : ((j : Int) + 1).toNat = j + 1 := by omega
          generalize preS (xss.getD k []) j = t at *
          generalize (xss.getD k []).getD j 0 = s at *
          generalize offT p k = O at *
          obtain ⟨bx1, bx2⟩ := bx
          obtain ⟨by1, by2⟩ := by_
          go_wp2_with fail
          go_region
          go_wp2
          go_roundw
          case rel => exact ⟨j + 1, by omega, by go_num, ⟨_, HS.out.draws, HW.out⟩, HBN.out.drew⟩
          case measure => simp [intOf]; omega
        · obtain rfl : j = M := by omega
          have KN : Hid (WorTo xss p n (k + 1) 0 zs) := wor_next (by rw [HM.out]; exact KW.out)
          go_wp2
          go_roundw
          case rel => exact ⟨k + 1, by omega, by go_num, ⟨_, KT.out, KN.out⟩, KB.out⟩
          case measure => simp [intOf]; omega
    · obtain rfl : k = n := by omega
      go_wp2
      go_ret
      exact ⟨_, _, _, rfl, HT.out, HW.out, HB.out⟩
end Go.Proofs.Ytmkbjkmpincogaa
