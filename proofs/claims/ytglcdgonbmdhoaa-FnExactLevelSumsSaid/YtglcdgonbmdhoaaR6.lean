/-
  Contracts: LevelSums, in the program and in the model of it.
-/
import Derived.Test.YtglcdgonbmdhoaaR2
import Derived.Test.YtglcdgonbmdhoaaR3
import Derived.Test.YtglcdgonbmdhoaaR4
import Derived.Test.YtglcdgonbmdhoaaR5
import Derived.Test.YtglcdgonbmdhoaaS2
import Derived.Test.YtglcdgonbmdhoaaM8
import Derived.Deep.RegionHeld3
import Derived.Deep.DeepCutAuto
namespace Go.Proofs.Ytglcdgonbmdhoaa
open Go.RowKit
set_option linter.unusedVariables false

/-- A list of lists and a bool. -/
def GivesRows2 (w : World) (xss : List (List Int)) (b : Bool) (e : Ending) (w' : World) : Prop := ∃ v, e = .returned (.tuple #[v, .bool b]) ∧ Rows w' w.heap.size w'.heap.size v xss ∧ Below w.heap.size w w'
/-- The sums of level j. -/
def levS (x y z : Int) (ts gs : List Int) (j : Nat) : List Int := [sumT ts (lvL x y z j), sumM ts gs (lvL x y z j)]
def levN (x y z : Int) (ts gs : List Int) (n : Nat) : List (List Int) := (List.range n).map (levS x y z ts gs)
def lsL (x y z : Int) (ts gs rs : List Int) : List (List Int) := if moB x y z ts gs rs then levN x y z ts gs z.toNat else []
theorem levN_len (x y z : Int) (ts gs : List Int) (n : Nat) : (levN x y z ts gs n).length = n := by simp [levN]
theorem levN_succ (x y z : Int) (ts gs : List Int) (n : Nat) : levN x y z ts gs (n + 1) = levN x y z ts gs n ++ [levS x y z ts gs n] := by simp [levN, List.range_succ]
theorem lev_lvB {x y z : Int} {ts gs rs : List Int} (h : moB x y z ts gs rs = true) {j : Nat} (hj : (j : Int) < z) : lvB x y z j = true := by
  obtain ⟨hg, _⟩ := mo_true h
  obtain ⟨x1, _, y1, _, z1, _⟩ := good_box hg
  unfold lvB inB
  rw [hg, Bool.true_and]
  exact decide_eq_true ⟨⟨by omega, by omega⟩, ⟨by omega, by omega⟩, by omega, hj⟩
theorem lev_list {x y z : Int} {ts gs rs : List Int} (h : moB x y z ts gs rs = true) {j : Nat} (hj : (j : Int) < z) : listB x y z ts gs rs (lvL x y z j) = true := by
  unfold listB lvL
  rw [h, if_pos (lev_lvB h hj), Bool.true_and]
  exact sel_risB _ (nB_eq (mo_true h).1)
theorem lev_short {x y z : Int} {ts gs rs : List Int} (h : moB x y z ts gs rs = true) {j : Nat} (hj : (j : Int) < z) : (lvL x y z j).length ≤ 120 := list_len (lev_list h hj)

/-- A pair of numbers in a block of their own, behind others. -/
theorem row_pair (w : World) (a b : Int) : Row (w.alloc (.cells #[.int .i64 a, .int .i64 b] 3)) w.heap.size (.slice (some ⟨w.heap.size, 0, none⟩) 2 2) [a, b] := by
  have := World.ownsRow_lit (base := w.heap.size) (e := 3) (size := 1) w #[.int .i64 a, .int .i64 b] 2 (Nat.le_refl _) (by unfold maxLen; omega) (by simp)
  exact this

theorem RowsV.apart_row {w : World} {B U : Nat} {v : Value} {xss : List (List Int)} {vs : List Value} (h : RowsV w B U v xss vs) {B' : Nat} {p : Value} {ys : List Int} (hp : Row w B' p ys) : p.ownBlock = none ∨ p.ownBlock ≠ v.ownBlock := by
  cases e : p.ownBlock with
  | none => exact .inl rfl
  | some k => exact .inr fun e' => own_types h.own hp (by decide) e'.symm e
theorem getD_app {vs : List Value} {p d : Value} {i : Nat} (h : i < vs.length) : (vs ++ [p]).getD i d = vs.getD i d := by simp [List.getD_eq_getElem?_getD, List.getElem?_append_left h]
theorem getD_end {vs : List Value} {p d : Value} : (vs ++ [p]).getD vs.length d = p := by simp [List.getD_eq_getElem?_getD]
theorem getL_app {xss : List (List Int)} {p : List Int} {i : Nat} (h : i < xss.length) : (xss ++ [p]).getD i [] = xss.getD i [] := by simp [List.getD_eq_getElem?_getD, List.getElem?_append_left h]
theorem getL_end {xss : List (List Int)} {p : List Int} : (xss ++ [p]).getD xss.length [] = p := by simp [List.getD_eq_getElem?_getD]
/-- A list put behind the others. -/
theorem RowsV.push {w w4 : World} {B U : Nat} {v v' p : Value} {xss : List (List Int)} {vs : List Value} {ys : List Int} (h : RowsV w B U v xss vs) (hp : Row w B p ys) (hpo : ∀ k, p.ownBlock = some k → U ≤ k)
    (ho : w4.ownsRow B 24 1 v' (xss.length + 1) (vs ++ [p])) (hg : w.grownBy w4 v.ownBlock) : RowsV w4 B w4.heap.size v' (xss ++ [ys]) (vs ++ [p]) := by
  have hl := h.len
  have hrow : ∀ i, i < (xss ++ [ys]).length → Row w4 B ((vs ++ [p]).getD i (.slice none 0 0)) ((xss ++ [ys]).getD i []) := fun i hi => by
    rw [List.length_append, List.length_singleton] at hi
    by_cases e : i < xss.length
    · rw [getD_app (by omega), getL_app e]
      exact World.ownsRow.kept (h.row i e) hg (h.apart_row (h.row i e))
    · obtain rfl : i = xss.length := by omega
      rw [getL_end, ← hl, getD_end]
      exact World.ownsRow.kept hp hg (h.apart_row hp)
  refine ⟨by simp [hl], by rw [List.length_append, List.length_singleton]; exact ho, fun k hk => (World.ownsRow.lt ho k hk).2, hrow, fun i k hi hk => (World.ownsRow.lt (hrow i hi) k hk).2, fun i j hi hj hne => ?_⟩
  rw [List.length_append, List.length_singleton] at hi hj
  have new : ∀ a, a < xss.length → ∀ k, (vs.getD a (.slice none 0 0)).ownBlock = some k → p.ownBlock ≠ some k := fun a ha k hk e => by have := hpo k e; have := h.rtop a k ha hk; omega
  by_cases ei : i < xss.length
  · by_cases ej : j < xss.length
    · rw [getD_app (by omega), getD_app (by omega)]
      exact h.apart i j ei ej hne
    · obtain rfl : j = xss.length := by omega
      rw [getD_app (by omega), ← hl, getD_end]
      cases e : (vs.getD i (.slice none 0 0)).ownBlock with
      | none => exact .inl rfl
      | some k => exact .inr fun e' => new i ei k e e'.symm
  · obtain rfl : i = xss.length := by omega
    have ej : j < xss.length := by omega
    rw [getD_app (i := j) (by omega), ← hl, getD_end]
    cases e : p.ownBlock with
    | none => exact .inl rfl
    | some k => exact .inr fun e' => new j ej k e'.symm e
/-- A list stored in the place of another. -/
theorem RowsV.put {w : World} {B U g c n j : Nat} {p : Value} {xss : List (List Int)} {vs : List Value} {ys : List Int} (h : RowsV w B U (.slice (some ⟨g, 0, none⟩) n c) xss vs) (hn : n = xss.length) (hj : j < xss.length) (hp : Row w B p ys) (hpo : ∀ k, p.ownBlock = some k → U ≤ k) :
    RowsV (w.setCell ⟨g, j, none⟩ p) B (w.setCell ⟨g, j, none⟩ p).heap.size (.slice (some ⟨g, 0, none⟩) n c) (xss.set j ys) (vs.set j p) := by
  have hl := h.len
  subst hn
  have hs := World.ownsRow.stored h.own j p
  have hg : w.grownBy (w.setCell ⟨g, j, none⟩ p) (some g) := hs.2
  have ha : ∀ {B' : Nat} {q : Value} {zs : List Int}, Row w B' q zs → q.ownBlock = none ∨ q.ownBlock ≠ some g := fun hq => h.apart_row hq
  have hrow : ∀ i, i < (xss.set j ys).length → Row (w.setCell ⟨g, j, none⟩ p) B ((vs.set j p).getD i (.slice none 0 0)) ((xss.set j ys).getD i []) := fun i hi => by
    rw [List.length_set] at hi
    by_cases e : j = i
    · subst e
      rw [show (vs.set j p).getD j (.slice none 0 0) = p by simp [hl, hi], show (xss.set j ys).getD j [] = ys by simp [hi]]
      exact World.ownsRow.kept hp hg (ha hp)
    · rw [show (vs.set j p).getD i (.slice none 0 0) = vs.getD i (.slice none 0 0) by simp [List.getD_eq_getElem?_getD, e], show (xss.set j ys).getD i [] = xss.getD i [] by simp [List.getD_eq_getElem?_getD, e]]
      exact World.ownsRow.kept (h.row i hi) hg (ha (h.row i hi))
  refine ⟨by simp [hl], by rw [List.length_set]; exact hs.1, fun k hk => (World.ownsRow.lt hs.1 k hk).2, hrow, fun i k hi hk => (World.ownsRow.lt (hrow i hi) k hk).2, fun a b ha hb hne => ?_⟩
  rw [List.length_set] at ha hb
  have new : ∀ a, a < xss.length → ∀ k, (vs.getD a (.slice none 0 0)).ownBlock = some k → p.ownBlock ≠ some k := fun a ha k hk e => by have := hpo k e; have := h.rtop a k ha hk; omega
  by_cases ea : j = a
  · subst ea
    rw [show (vs.set j p).getD j (.slice none 0 0) = p by simp [hl, ha], show (vs.set j p).getD b (.slice none 0 0) = vs.getD b (.slice none 0 0) by simp [List.getD_eq_getElem?_getD, hne]]
    cases e : p.ownBlock with
    | none => exact .inl rfl
    | some k => exact .inr fun e' => new b hb k e'.symm e
  · rw [show (vs.set j p).getD a (.slice none 0 0) = vs.getD a (.slice none 0 0) by simp [List.getD_eq_getElem?_getD, ea]]
    by_cases eb : j = b
    · subst eb
      rw [show (vs.set j p).getD j (.slice none 0 0) = p by simp [hl, hb]]
      cases e : (vs.getD a (.slice none 0 0)).ownBlock with
      | none => exact .inl rfl
      | some k => exact .inr fun e' => new a ha k e e'.symm
    · rw [show (vs.set j p).getD b (.slice none 0 0) = vs.getD b (.slice none 0 0) by simp [List.getD_eq_getElem?_getD, eb]]
      exact h.apart a b ha hb hne
theorem list_info : (Try.prog.info? 24).map (fun i => (i.zero, i.size, i.bytes)) = some (some (.slice none 0 0), 1, 24) := by kernel_rfl
end Go.Proofs.Ytglcdgonbmdhoaa
