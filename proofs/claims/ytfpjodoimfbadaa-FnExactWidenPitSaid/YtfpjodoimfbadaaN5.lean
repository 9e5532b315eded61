/-
  Contracts: marks set from a list, and asked for all of a list.
-/
import Derived.Test.YtfpjodoimfbadaaN3
import Derived.Test.YtfpjodoimfbadaaN2
import Derived.Test.YtfpjodoimfbadaaM2
import Derived.Carry
namespace Go.Proofs.Ytfpjodoimfbadaa
open Go.RowKit
set_option linter.unusedVariables false

theorem cell_kept {w w' : World} {a : Addr} {row : Option Nat} (hg : w.grownBy w' row) (hl : a.block < w.heap.size) (hne : some a.block ≠ row) : w'.cell? a = w.cell? a := by
  unfold World.cell?
  rw [hg.block _ hl hne]
theorem SetM.nocell {w : World} {b N : Nat} {p : Int → Bool} (h : SetM w b N p) (k : Nat) : w.cell? ⟨b, k, none⟩ = none := by
  obtain ⟨D, ⟨es, clock, hb, _⟩, _⟩ := h
  simp [World.cell?, hb]
theorem SetM.apart {w : World} {b N c k : Nat} {p : Int → Bool} {u : Value} (h : SetM w b N p) (hc : w.cell? ⟨c, k, none⟩ = some u) : some c ≠ some b := by
  intro e
  cases e
  rw [h.nocell] at hc
  cases hc
theorem Seen.kept {w w' : World} {b N : Nat} {p : Int → Bool} {v : Value} {xs : List Int} (h : Seen w v xs) (hm : SetM w b N p) (hg : w.grownBy w' (some b)) : Seen w' v xs := by
  obtain ⟨A, c, rfl, hl, h⟩ := h
  refine ⟨A, c, rfl, hl, fun h0 => ?_⟩
  obtain ⟨g, off, rfl, hlt, hc⟩ := h h0
  exact ⟨g, off, rfl, Nat.lt_of_lt_of_le hlt hg.size, fun k hk => by rw [cell_kept hg hlt (hm.apart (hc k hk))]; exact hc k hk⟩
theorem SeenL.kept {w w' : World} {b N : Nat} {p : Int → Bool} {v : Value} {xss : List (List Int)} (h : SeenL w v xss) (hm : SetM w b N p) (hg : w.grownBy w' (some b)) : SeenL w' v xss := by
  obtain ⟨A, c, rfl, hl, h⟩ := h
  refine ⟨A, c, rfl, hl, fun h0 => ?_⟩
  obtain ⟨g, off, rfl, hlt, hc⟩ := h h0
  refine ⟨g, off, rfl, Nat.lt_of_lt_of_le hlt hg.size, fun k hk => ?_⟩
  obtain ⟨u, hu, hs⟩ := hc k hk
  exact ⟨u, by rw [cell_kept hg hlt (hm.apart hu)]; exact hu, hs.kept hm hg⟩
def InN (N : Nat) (l : List Int) : Prop := ∀ x, x ∈ l → 0 ≤ x ∧ x < (N : Int)
theorem InN.ris {N : Nat} {l : List Int} (h : risB N l = true) : InN N l := fun x hx => ris_mem h hx

set_option maxHeartbeats 1000000 in
theorem c_markAll (b N : Nat) (p : Int → Bool) (l : List Int) (v : Value) (w : World) (hl : l.length ≤ 4000000) (hN : N ≤ 1000) (h : SetM w b N p) (hs : Seen w v l) (hr : InN N l) :
    Calls Try.prog 46 #[.map (some b), v] w fun e w' => e = .returned (.tuple #[]) ∧ SetM w' b N (addL l p) ∧ w.grownBy w' (some b) := by
  obtain ⟨A, c, rfl, hm, hA⟩ := hs
  clear hm
  by_cases h0 : l.length = 0
  · obtain rfl : l = [] := List.eq_nil_of_length_eq_zero h0
    have H : Hid (SetM w b N (addL [] p)) := by rw [addL_nil]; exact h
    clear hA h0 hl h hr
    simp only [List.length_nil]
    go_enter Try.func46, Try.ntmps46
    go_wp2
    go_rounds 1
    refine bodyPost_end (v := .tuple #[]) (by simp [results, Try.results46, go_sem]) rfl ?_
    exact ⟨rfl, H.out, World.grownBy.refl _ _⟩
  · obtain ⟨g, off, rfl, hg, hc⟩ := hA (by omega)
    have E1 : Hid (∀ k : Nat, k < l.length → ∀ u, w.grownBy u (some b) → u.cell? ⟨g, off + k, none⟩ = some (.int .i64 (l.getD k 0))) := fun k hk u hu => by
      rw [cell_kept hu hg (h.apart (hc k hk))]; exact hc k hk
    have ER : Hid (∀ k : Nat, k < l.length → 0 ≤ l.getD k 0 ∧ l.getD k 0 < (N : Int)) := fun k hk => hr _ (getD_memN hk)
    have EA : Hid (∀ k : Nat, k < l.length → (fun y => y == l.getD k 0 || addL (l.take k) p y) = addL (l.take (k + 1)) p) := fun k hk => addL_take hk
    have E0 : Hid (SetM w b N (addL (l.take 0) p)) := by rw [List.take_zero, addL_nil]; exact h
    have EL : Hid (addL (l.take l.length) p = addL l p) := by show _ = _; rw [List.take_length]
    clear hA hc h hr
    go_enter Try.func46, Try.ntmps46
    go_wp2_with fail
    go_loopw [8] (fun i wr => ∃ k : Nat, k ≤ l.length ∧ i = .int .i64 k ∧ SetM wr b N (addL (l.take k) p) ∧ w.grownBy wr (some b)) (fun i _ => l.length - (RowKit.intOf i).toNat)
    case atStart => exact ⟨0, Nat.zero_le _, rfl, E0.out, World.grownBy.refl _ _⟩
    case round =>
      obtain ⟨k, hk, rfl, hm, hgr⟩ := hrel
      have HM := Lib.hid hm
      have HG := Lib.hid hgr
      clear hm hgr
      by_cases hlt : k < l.length
      · have q1 := E1.out k hlt wr HG.out
        obtain ⟨r0, r1⟩ := ER.out k hlt
        have hA := Lib.hid (EA.out k hlt)
        have b1 : (0 : Int) ≤ (k : Int) := by omega
        have b2 : (k : Int) < (l.length : Int) := by omega
        generalize l.getD k 0 = t at *
        obtain ⟨w2, hrun, hm2, hg2⟩ := HM.out.put t r0 r1 hN
        rw [hA.out] at hm2
        have HM2 := Lib.hid hm2
        have HG2 : Hid (w.grownBy w2 (some b)) := HG.out.trans hg2
        clear hm2 hg2
        go_wp2
        go_roundw
        case rel => exact ⟨k + 1, by omega, by go_num, HM2.out, HG2.out⟩
        case measure => simp [RowKit.intOf]; omega
      · obtain rfl : k = l.length := by omega
        have H : Hid (SetM wr b N (addL l p)) := by rw [← EL.out]; exact HM.out
        go_wp2
        refine bodyPost_end (v := .tuple #[]) (by simp [results, Try.results46, go_sem]) rfl ?_
        exact ⟨rfl, H.out, HG.out⟩

/-! ### marks asked for all of a list -/
theorem any_no {l : List Int} {r : Int → Bool} (h : ∀ q, q < l.length → r (l.getD q 0) = false) : l.any r = false := by
  rw [List.any_eq_false]
  intro x hx
  obtain ⟨k, hk, rfl⟩ := mem_getD hx
  rw [h k hk]; simp
theorem any_yes {l : List Int} {r : Int → Bool} {k : Nat} (hk : k < l.length) (h : r (l.getD k 0) = true) : l.any r = true := List.any_eq_true.2 ⟨_, getD_memN hk, h⟩
theorem any_not (l : List Int) (p : Int → Bool) : (!l.any fun x => !p x) = l.all p := by
  rw [List.all_eq_not_any_not]

set_option maxHeartbeats 400000 in
theorem c_fnNot (g b N : Nat) (p : Int → Bool) (x : Int) (w : World) (hN : N ≤ 1000) (hc : w.cell? ⟨g, 0, none⟩ = some (.map (some b))) (h : SetM w b N p) (h0 : 0 ≤ x) (h1 : x < (N : Int)) :
    Calls Try.prog 61 #[.int .i64 x, .pointer (some ⟨g, 0, none⟩)] w fun e w' => e = .returned (.bool (!p x)) ∧ w = w' := by
  have hrun := h.look x h0 h1 hN
  clear h
  go_enter Try.func61, Try.ntmps61
  go_wp2
  go_ret
  exact ⟨rfl, rfl⟩

set_option maxHeartbeats 1000000 in
theorem c_indexNot (g b N : Nat) (p : Int → Bool) (l : List Int) (v : Value) (w : World) (hl : l.length ≤ 4000000) (hN : N ≤ 1000) (hc : w.cell? ⟨g, 0, none⟩ = some (.map (some b))) (h : SetM w b N p) (hs : Seen w v l) (hr : InN N l) :
    Calls Try.prog 68 #[v, .func (.func 61) #[] #[.pointer (some ⟨g, 0, none⟩)]] w fun e w' => (∃ i : Int, e = .returned (.int .i64 i) ∧ decide (0 ≤ i) = l.any (fun x => !p x)) ∧ w = w' := by
  obtain ⟨A, c, rfl, hm, hA⟩ := hs
  clear hm
  have E1 : Hid (∀ k : Nat, k < l.length → ∃ bb off, A = some ⟨bb, off, none⟩ ∧ w.cell? ⟨bb, off + k, none⟩ = some (.int .i64 (l.getD k 0))) := fun k hk => by
    obtain ⟨bb, off, rfl, hb, hc⟩ := hA (by omega)
    exact ⟨bb, off, rfl, hc k hk⟩
  obtain ⟨r, hrr⟩ : ∃ r : Int → Bool, r = (fun x => !p x) := ⟨_, rfl⟩
  have EC : Hid (∀ k : Nat, k < l.length → Calls Try.prog 61 #[.int .i64 (l.getD k 0), .pointer (some ⟨g, 0, none⟩)] w fun e w' => e = .returned (.bool (r (l.getD k 0))) ∧ w = w') := fun k hk => by
    have hx := hr _ (getD_memN hk)
    rw [hrr]
    exact c_fnNot g b N p _ w hN hc h hx.1 hx.2
  have EN : Hid ((∀ q, q < l.length → r (l.getD q 0) = false) → l.any r = false) := any_no
  have EY : Hid (∀ k, k < l.length → r (l.getD k 0) = true → l.any r = true) := fun k => any_yes
  rw [← hrr]
  clear hA hr h hc hrr
  go_enter Try.func68, Try.ntmps68
  go_wp2_with fail
  go_loop [8] (fun i => ∃ k : Nat, k ≤ l.length ∧ i = .int .i64 k ∧ ∀ q, q < k → r (l.getD q 0) = false) (fun i => l.length - (RowKit.intOf i).toNat)
  case atStart => exact ⟨0, Nat.zero_le _, rfl, fun q hq => by omega⟩
  case round =>
    obtain ⟨k, hk, rfl, hv⟩ := hrel
    have HV := Lib.hid hv
    clear hv
    by_cases hlt : k < l.length
    · obtain ⟨bb, off, rfl, q1⟩ := E1.out k hlt
      have HC := Lib.hid (EC.out k hlt)
      have b1 : (0 : Int) ≤ (k : Int) := by omega
      have b2 : (k : Int) < (l.length : Int) := by omega
      cases hx : r (l.getD k 0)
      · have G : Hid (∀ q, q < k + 1 → r (l.getD q 0) = false) := fun q hq => by
          by_cases e : q = k
          · rw [e]; exact hx
          · exact HV.out q (by omega)
        rw [hx] at HC
        clear hx
        generalize l.getD k 0 = t at *
        go_wp2_with fail
        refine HC.out.mono ?_
        rintro e w2 ⟨rfl, rfl⟩
        go_wp2
        go_round
        case rel => exact ⟨k + 1, by omega, by go_num, G.out⟩
        case measure => simp [RowKit.intOf]; omega
      · have G : Hid (decide (0 ≤ (k : Int)) = l.any r) := by show _ = _; rw [EY.out k hlt hx, decide_eq_true b1]
        rw [hx] at HC
        clear hx
        generalize l.getD k 0 = t at *
        go_wp2_with fail
        refine HC.out.mono ?_
        rintro e w2 ⟨rfl, rfl⟩
        go_wp2
        go_ret
        exact ⟨⟨k, rfl, G.out⟩, rfl⟩
    · obtain rfl : k = l.length := by omega
      have G : Hid (decide (0 ≤ (-1 : Int)) = l.any r) := by show _ = _; rw [EN.out HV.out]; rfl
      go_wp2
      go_ret
      exact ⟨⟨-1, rfl, G.out⟩, rfl⟩

set_option maxHeartbeats 1000000 in
theorem c_containsNot (g b N : Nat) (p : Int → Bool) (l : List Int) (v : Value) (w : World) (hl : l.length ≤ 4000000) (hN : N ≤ 1000) (hc : w.cell? ⟨g, 0, none⟩ = some (.map (some b))) (h : SetM w b N p) (hs : Seen w v l) (hr : InN N l) :
    Calls Try.prog 60 #[v, .func (.func 61) #[] #[.pointer (some ⟨g, 0, none⟩)]] w fun e w' => e = .returned (.bool (l.any (fun x => !p x))) ∧ w = w' := by
  have C := Lib.hid (c_indexNot g b N p l v w hl hN hc h hs hr)
  obtain ⟨A, c, rfl, _⟩ := hs
  clear hc h hr
  generalize l.any (fun x => !p x) = t at *
  go_enter Try.func60, Try.ntmps60
  go_wp2_with fail
  refine C.out.mono ?_
  rintro e w1 ⟨⟨i, rfl, hi⟩, rfl⟩
  have HI := Lib.hid hi
  clear hi
  go_wp2
  go_ret
  exact ⟨ret_bool HI.out, rfl⟩

set_option maxHeartbeats 1000000 in
theorem c_areMarked (b N : Nat) (p : Int → Bool) (l : List Int) (v : Value) (w : World) (hl : l.length ≤ 4000000) (hN : N ≤ 1000) (h : SetM w b N p) (hs : Seen w v l) (hr : InN N l) :
    Calls Try.prog 44 #[.map (some b), v] w fun e w' => e = .returned (.bool (l.all p)) ∧ Below w.heap.size w w' := by
  have HB0 : Hid (Below w.heap.size w (w.alloc (.cells #[.map (some b)] 58))) := (Below.refl _ _).alloc (Nat.le_refl _) _
  have C := Lib.hid (c_containsNot w.heap.size b N p l v (w.alloc (.cells #[.map (some b)] 58)) hl hN (by simp) (h.below HB0.out h.lt) (hs.below HB0.out) hr)
  have HA := Lib.hid (any_not l p)
  obtain ⟨A, c, rfl, _⟩ := hs
  clear h hr
  generalize (l.any fun x => !p x) = t at *
  generalize l.all p = q at *
  go_enter Try.func44, Try.ntmps44
  go_wp2_with fail
  refine C.out.mono ?_
  rintro e w1 ⟨rfl, rfl⟩
  go_wp2
  go_ret
  exact ⟨ret_bool HA.out, HB0.out⟩

set_option maxHeartbeats 1000000 in
theorem c_marksOf (N : Nat) (l : List Int) (v : Value) (w : World) (hl : l.length ≤ 4000000) (hN : N ≤ 1000) (hs : Seen w v l) (hr : InN N l) :
    Calls Try.prog 42 #[v] w fun e w' => e = .returned (.map (some w.heap.size)) ∧ SetM w' w.heap.size N (inL l) ∧ Below w.heap.size w w' := by
  have HB0 : Hid (Below w.heap.size w (w.alloc (.map #[] 0))) := (Below.refl _ _).alloc (Nat.le_refl _) _
  have C := Lib.hid (c_markAll w.heap.size N (fun _ => false) l v (w.alloc (.map #[] 0)) hl hN (SetM.new w N) (hs.below HB0.out) hr)
  rw [addL_false] at C
  obtain ⟨A, c, rfl, _⟩ := hs
  clear hr
  have hmm := @run_makeMap Try.prog
  go_enter Try.func42, Try.ntmps42
  go_wp2_with fail
  refine C.out.mono ?_
  rintro e w1 ⟨rfl, hm, hg⟩
  have HM := Lib.hid hm
  have HB : Hid (Below w.heap.size w w1) := HB0.out.grown hg (by simp) (fun k hk => by cases hk; exact Nat.le_refl _)
  clear hm hg
  go_wp2
  go_ret
  exact ⟨rfl, HM.out, HB.out⟩
end Go.Proofs.Ytfpjodoimfbadaa
