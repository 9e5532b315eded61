/-
  Lists of ints copied by the model; what a list of the call's own reads as, cut at a place.
-/
import Derived.Test.YtfpjodoimfbadaaAP
import Derived.Lib.Hide
namespace Go.Proofs.Ytfpjodoimfbadaa
open Go.RowKit
set_option linter.unusedVariables false

theorem row_noneA (w : World) : (w.alloc (.cells #[] 3)).ownsRow w.heap.size 3 1 (.slice (some ⟨w.heap.size, 0, none⟩) 0 0) 0 (ints []) := by
  have := World.ownsRow_lit (base := w.heap.size) (e := 3) (size := 1) w #[] 0 (Nat.le_refl _) (by unfold maxLen; omega) (by simp)
  simpa [ints] using this

/-- What a list reads as, kept by new blocks. -/
theorem Src.alloc {w : World} {size m c : Nat} {A : Option Addr} {xs : List Value} (h : Src w size A m c xs) (o : Obj) : Src (w.alloc o) size A m c xs := by
  refine ⟨h.1, h.2.1, fun h0 => ?_⟩
  obtain ⟨ad, e, hc⟩ := h.2.2 h0
  refine ⟨ad, e, fun j u hu => ?_⟩
  have := hc j u hu
  rw [World.cell?_alloc_lt w o _ (by
    rcases Nat.lt_or_ge (ad.add j).block w.heap.size with hl | hg
    · exact hl
    · exfalso
      have e : w.heap[(ad.add j).block]? = none := Array.getElem?_eq_none hg
      simp [World.cell?, e] at this)]
  exact this

set_option maxHeartbeats 1000000 in
theorem c_l1OwnA (A : Option Addr) (m c : Nat) (xs : List Int) (w : World) (hl : xs.length ≤ 4000000) (hx : xs.length = m) (h : Src w 1 A m c (ints xs)) :
    Calls Try.prog 17 #[.slice A m c] w (GivesRow w xs) := by
  obtain ⟨i0, hi0, hz0, hz1, hz2⟩ := info_parts int_info
  have HI := Lib.hid hi0
  clear hi0
  have HN := Lib.hid (row_noneA w)
  have HS := Lib.hid (h.alloc (.cells #[] 3))
  have HX := Lib.hid hx
  have hm : m ≤ 4000000 := by omega
  clear h hx
  go_enter Try.func17, Try.ntmps17
  go_wp2_with (at_builtin; refine wpList_append_src rfl _ _ 25 rfl (base := w.heap.size) Try.underlying25 HI.out hz0 hz1 hz2 rfl (by decide) rfl HN.out rfl HS.out ints_ones ?c3 ?c4 ?c5 ?_)
  case c3 => unfold maxLen; omega
  case c4 => omega
  case c5 => simp
  intro v' w4 hown' hgrow _
  have R1 := Lib.hid (row_app (xs := []) (ys := xs) (n := m) (by have := HX.out; simp; omega) hown')
  rw [List.nil_append] at R1
  have R2 : Hid (Below w.heap.size w w4) := ((Below.refl _ _).alloc (Nat.le_refl _) _).grown hgrow (by simp) (fun g hg => by simp [Value.ownBlock] at hg; omega)
  clear hown' hgrow
  go_wp2
  go_ret
  exact ⟨_, rfl, R1.out, R2.out⟩

theorem src_below {w w' : World} {size m c : Nat} {A : Option Addr} {xs : List Value} (h : Src w size A m c xs) (hb : Below w.heap.size w w') : Src w' size A m c xs := by
  refine ⟨h.1, h.2.1, fun h0 => ?_⟩
  obtain ⟨ad, e, hc⟩ := h.2.2 h0
  refine ⟨ad, e, fun j u hu => ?_⟩
  have := hc j u hu
  rw [hb.cell (by
    rcases Nat.lt_or_ge (ad.add j).block w.heap.size with hl | hg
    · exact hl
    · exfalso
      have e : w.heap[(ad.add j).block]? = none := Array.getElem?_eq_none hg
      simp [World.cell?, e] at this)]
  exact this
theorem row_of3 {w : World} {B n : Nat} {v : Value} {X Z Y : List Int} (h : w.ownsRow B 3 1 v n ((ints X ++ ints Z) ++ ints Y)) : Row w B v ((X ++ Z) ++ Y) := by
  have hl := h.1
  have e : ints ((X ++ Z) ++ Y) = (ints X ++ ints Z) ++ ints Y := by simp [ints]
  rw [← e, ints_len, Nat.mul_one] at hl
  unfold Row
  rw [e, hl]
  exact h
theorem row_src {w : World} {B : Nat} {A : Option Addr} {k c : Nat} {xs : List Int} (hx : xs.length = k) (h : Row w B (.slice A k c) xs) :
    (A = none ∨ ∃ g, A = some ⟨g, 0, none⟩) ∧ k ≤ c ∧ ∀ q, q ≤ k → Src w 1 A q c (ints (xs.take q)) ∧ Src w 1 (if c = q then A else A.map fun a => a.add (q * 1)) (k - q) (c - q) (ints (xs.drop q)) := by
  have hx' : (ints xs).length = k := by rw [ints_len, hx]
  rcases h.2 with ⟨e, h0⟩ | ⟨g, cap, cur, e, _, _, hn, _⟩
  · injection e with e1 e2 e3
    subst e1 e2 e3
    have : xs = [] := List.eq_nil_of_length_eq_zero hx
    subst this
    refine ⟨.inl rfl, Nat.le_refl _, fun q hq => ?_⟩
    obtain rfl : q = 0 := by omega
    exact ⟨⟨rfl, fun _ => rfl, fun h => by omega⟩, ⟨rfl, fun _ => rfl, fun h => by omega⟩⟩
  · injection e with e1 e2 e3
    subst e1 e3
    rw [hx] at hn
    refine ⟨.inr ⟨g, rfl⟩, by omega, fun q hq => ⟨?_, ?_⟩⟩
    · refine src_cells 1 (by simp; omega) (fun e => by cases e) (fun h0 => ⟨g, 0, rfl, fun j hj => ?_⟩)
      have hj' : j < q := by simp at hj; omega
      have hr : Row w B (.slice (some ⟨g, 0, none⟩) xs.length c) xs := by rw [hx]; exact h
      rw [Nat.zero_add, hr.cell j (by omega)]
      congr 2
      simp [List.getD_eq_getElem?_getD, hj']
    · refine src_cells 1 (by simp; omega) (fun e => ?_) (fun h0 => ?_)
      · split at e
        · cases e
        · cases e
      · rw [if_neg (by omega)]
        refine ⟨g, q, by simp [addr_add], fun j hj => ?_⟩
        have hj' : j < k - q := by simp at hj; omega
        have hr : Row w B (.slice (some ⟨g, 0, none⟩) xs.length c) xs := by rw [hx]; exact h
        rw [hr.cell (q + j) (by omega)]
        congr 2
        simp [List.getD_eq_getElem?_getD]
end Go.Proofs.Ytfpjodoimfbadaa
