/-
  Lists of lists of pieces that the calls make.
-/
import Derived.Test.YtmimilchldjkbaaDoorRB
import Derived.Test.YtmimilchldjkbaaDoorQ6
namespace Go.Proofs.YtmimilchldjkbaaDoor
open Go.RowKit
set_option linter.unusedVariables false

/-- One list of pieces, told by its numbers. -/
def RowO (w : World) (B : Nat) (v : Value) (xs : List Int) : Prop := RowP w B v (xs.length / 3) xs
theorem RowO.three {w : World} {B : Nat} {v : Value} {xs : List Int} (h : RowO w B v xs) : xs.length = xs.length / 3 * 3 := RowP.len h
theorem RowO.shape {w : World} {B : Nat} {v : Value} {xs : List Int} (h : RowO w B v xs) : ∃ A c, v = .slice A (xs.length / 3) c := RowP.shape h
theorem RowO.below {w w' : World} {B : Nat} {v : Value} {xs : List Int} (h : RowO w B v xs) (hb : Below w.heap.size w w') : RowO w' B v xs := RowP.below h hb
theorem RowO.mono {w : World} {B B' : Nat} {v : Value} {xs : List Int} (h : RowO w B v xs) (hB : B' ≤ B) : RowO w B' v xs := RowP.mono h hB
theorem RowO.nil (w : World) (B : Nat) : RowO w B (.slice none 0 0) [] := World.ownsRow_nil _ _ _ _
theorem RowP.rowO {w : World} {B n : Nat} {v : Value} {xs : List Int} (h : RowP w B v n xs) : RowO w B v xs := by
  have := h.len
  unfold RowO
  rw [show xs.length / 3 = n by omega]
  exact h

/-- The slice v is a list of the lists xss, each with memory of its own, all in blocks from B on and below U; vs: their slices. -/
structure RowsW (w : World) (B U : Nat) (v : Value) (xss : List (List Int)) (vs : List Value) : Prop where
  len : vs.length = xss.length
  own : w.ownsRow B 103 1 v xss.length vs
  top : ∀ k, v.ownBlock = some k → k < U
  row : ∀ i, i < xss.length → RowO w B (vs.getD i (.slice none 0 0)) (xss.getD i [])
  rtop : ∀ i k, i < xss.length → (vs.getD i (.slice none 0 0)).ownBlock = some k → k < U
  apart : ∀ i j, i < xss.length → j < xss.length → i ≠ j → Apart (vs.getD i (.slice none 0 0)).ownBlock (vs.getD j (.slice none 0 0)).ownBlock
def RowsO (w : World) (B U : Nat) (v : Value) (xss : List (List Int)) : Prop := ∃ vs, RowsW w B U v xss vs

theorem RowsW.stays {w w' : World} {B U : Nat} {v : Value} {xss : List (List Int)} {vs : List Value} (h : RowsW w B U v xss vs) (hk : ∀ k, B ≤ k → k < U → w'.heap[k]? = w.heap[k]?) : RowsW w' B U v xss vs :=
  ⟨h.len, own_stays h.own fun k e => hk k (World.ownsRow.lt h.own k e).1 (h.top k e), h.top, fun i hi => own_stays (h.row i hi) fun k e => hk k (World.ownsRow.lt (h.row i hi) k e).1 (h.rtop i k hi e), h.rtop, h.apart⟩
theorem RowsO.stays {w w' : World} {B U : Nat} {v : Value} {xss : List (List Int)} (h : RowsO w B U v xss) (hk : ∀ k, B ≤ k → k < U → w'.heap[k]? = w.heap[k]?) : RowsO w' B U v xss := by
  obtain ⟨vs, h⟩ := h
  exact ⟨vs, h.stays hk⟩
theorem RowsO.below {w w' : World} {B U N : Nat} {v : Value} {xss : List (List Int)} (h : RowsO w B U v xss) (hb : Below N w w') (hU : U ≤ N) : RowsO w' B U v xss := h.stays fun k _ hk => hb.block k (by omega)
theorem RowsO.draws {w : World} {B U : Nat} {v : Value} {xss : List (List Int)} (h : RowsO w B U v xss) (n : Nat) : RowsO (w.drewN n) B U v xss := h.stays fun _ _ _ => rfl
theorem RowsO.shape {w : World} {B U : Nat} {v : Value} {xss : List (List Int)} (h : RowsO w B U v xss) : ∃ A c, v = .slice A xss.length c := by
  obtain ⟨vs, h⟩ := h
  rcases h.own.2 with ⟨rfl, h0⟩ | ⟨g, cap, cur, rfl, _⟩
  · exact ⟨none, 0, by rw [h0]⟩
  · exact ⟨_, _, rfl⟩
theorem RowsO.nil (w : World) (B U : Nat) : RowsO w B U (.slice none 0 0) [] :=
  ⟨[], rfl, World.ownsRow_nil _ _ _ _, fun k hk => by simp [Value.ownBlock] at hk, fun i hi => by simp at hi, fun i k hi => by simp at hi, fun i j hi => by simp at hi⟩
theorem RowsW.cell {w : World} {B U g c : Nat} {xss : List (List Int)} {vs : List Value} (h : RowsW w B U (.slice (some ⟨g, 0, none⟩) xss.length c) xss vs) {i : Nat} (hi : i < xss.length) : w.cell? ⟨g, i, none⟩ = some (vs.getD i (.slice none 0 0)) := by
  rw [World.ownsRow.cellAt h.own i (by omega)]
  have : i < vs.length := by rw [h.len]; exact hi
  simp [this]
theorem RowsW.form {w : World} {B U : Nat} {v : Value} {xss : List (List Int)} {vs : List Value} (h : RowsW w B U v xss vs) (h0 : 0 < xss.length) : ∃ g c, v = .slice (some ⟨g, 0, none⟩) xss.length c ∧ B ≤ g ∧ g < w.heap.size := World.ownsRow.form h.own h0

/-- One of the lists has turned, and nothing else. -/
theorem RowsW.turn {w w' : World} {B U i : Nat} {v : Value} {xss : List (List Int)} {vs : List Value} {ys : List Int} (h : RowsW w B U v xss vs) (hi : i < xss.length) (hr : RowO w' B (vs.getD i (.slice none 0 0)) ys) (hg : w.grownBy w' (vs.getD i (.slice none 0 0)).ownBlock) : RowsW w' B U v (xss.set i ys) vs := by
  refine ⟨by rw [List.length_set]; exact h.len, ?_, h.top, fun j hj => ?_, fun j k hj => h.rtop j k (by rw [List.length_set] at hj; exact hj), fun a b ha hb => h.apart a b (by rw [List.length_set] at ha; exact ha) (by rw [List.length_set] at hb; exact hb)⟩
  · rw [List.length_set]
    exact own_stays h.own fun k hk => hg.block k (World.ownsRow.lt h.own k hk).2 (fun e => own_types h.own (h.row i hi) (by decide) hk e.symm)
  · rw [List.length_set] at hj
    by_cases e : i = j
    · subst e
      rw [show (xss.set i ys).getD i [] = ys by simp [hi]]
      exact hr
    · rw [show (xss.set i ys).getD j [] = xss.getD j [] by simp [List.getD_eq_getElem?_getD, e]]
      exact World.ownsRow.kept (h.row j hj) hg (h.apart j i hj hi (Ne.symm e))

theorem RowsW.apart_row {w : World} {B U : Nat} {v : Value} {xss : List (List Int)} {vs : List Value} (h : RowsW w B U v xss vs) {B' : Nat} {p : Value} {ys : List Int} (hp : RowO w B' p ys) : p.ownBlock = none ∨ p.ownBlock ≠ v.ownBlock := by
  cases e : p.ownBlock with
  | none => exact .inl rfl
  | some k => exact .inr fun e' => own_types h.own hp (by decide) e'.symm e
/-- A list put behind the others. -/
theorem RowsW.push {w w4 : World} {B U : Nat} {v v' p : Value} {xss : List (List Int)} {vs : List Value} {ys : List Int} (h : RowsW w B U v xss vs) (hp : RowO w B p ys) (hpo : ∀ k, p.ownBlock = some k → U ≤ k)
    (ho : w4.ownsRow B 103 1 v' (xss.length + 1) (vs ++ [p])) (hg : w.grownBy w4 v.ownBlock) : RowsW w4 B w4.heap.size v' (xss ++ [ys]) (vs ++ [p]) := by
  have hl := h.len
  have hrow : ∀ i, i < (xss ++ [ys]).length → RowO w4 B ((vs ++ [p]).getD i (.slice none 0 0)) ((xss ++ [ys]).getD i []) := fun i hi => by
    rw [List.length_append, List.length_singleton] at hi
    by_cases e : i < xss.length
    · rw [getD_app (by omega), getL_app e]
      exact World.ownsRow.kept (h.row i e) hg (h.apart_row (h.row i e))
    · obtain rfl : i = xss.length := by omega
      rw [getL_end, ← hl, getD_end]
      exact World.ownsRow.kept hp hg (h.apart_row hp)
  refine ⟨by simp [hl], by rw [List.length_append, List.length_singleton]; exact ho, fun k hk => (World.ownsRow.lt ho k hk).2, hrow, fun i k hi hk => (World.ownsRow.lt (hrow i hi) k hk).2, fun i j hi hj hne => ?_⟩
  rw [List.length_append, List.length_singleton] at hi hj
  have new : ∀ a, a < xss.length → ∀ k, (vs.getD a (.slice none 0 0)).ownBlock = some k → p.ownBlock ≠ some k := fun a ha k hk e => by have := hpo k e; have := h.rtop a k ha hk; omega
  by_cases ei : i < xss.length
  · by_cases ej : j < xss.length
    · rw [getD_app (by omega), getD_app (by omega)]
      exact h.apart i j ei ej hne
    · obtain rfl : j = xss.length := by omega
      rw [getD_app (by omega), ← hl, getD_end]
      cases e : (vs.getD i (.slice none 0 0)).ownBlock with
      | none => exact .inl rfl
      | some k => exact .inr fun e' => new i ei k e e'.symm
  · obtain rfl : i = xss.length := by omega
    have ej : j < xss.length := by omega
    rw [getD_app (i := j) (by omega), ← hl, getD_end]
    cases e : p.ownBlock with
    | none => exact .inl rfl
    | some k => exact .inr fun e' => new j ej k e'.symm e
/-- A list stored in the place of another. -/
theorem RowsW.put {w : World} {B U g c n j : Nat} {p : Value} {xss : List (List Int)} {vs : List Value} {ys : List Int} (h : RowsW w B U (.slice (some ⟨g, 0, none⟩) n c) xss vs) (hn : n = xss.length) (hj : j < xss.length) (hp : RowO w B p ys) (hpo : ∀ k, p.ownBlock = some k → U ≤ k) :
    RowsW (w.setCell ⟨g, j, none⟩ p) B (w.setCell ⟨g, j, none⟩ p).heap.size (.slice (some ⟨g, 0, none⟩) n c) (xss.set j ys) (vs.set j p) := by
  have hl := h.len
  subst hn
  have hs := World.ownsRow.stored h.own j p
  have hg : w.grownBy (w.setCell ⟨g, j, none⟩ p) (some g) := hs.2
  have ha : ∀ {B' : Nat} {q : Value} {zs : List Int}, RowO w B' q zs → q.ownBlock = none ∨ q.ownBlock ≠ some g := fun hq => h.apart_row hq
  have hrow : ∀ i, i < (xss.set j ys).length → RowO (w.setCell ⟨g, j, none⟩ p) B ((vs.set j p).getD i (.slice none 0 0)) ((xss.set j ys).getD i []) := fun i hi => by
    rw [List.length_set] at hi
    by_cases e : j = i
    · subst e
      rw [show (vs.set j p).getD j (.slice none 0 0) = p by simp [hl, hi], show (xss.set j ys).getD j [] = ys by simp [hi]]
      exact World.ownsRow.kept hp hg (ha hp)
    · rw [show (vs.set j p).getD i (.slice none 0 0) = vs.getD i (.slice none 0 0) by simp [List.getD_eq_getElem?_getD, e], show (xss.set j ys).getD i [] = xss.getD i [] by simp [List.getD_eq_getElem?_getD, e]]
      exact World.ownsRow.kept (h.row i hi) hg (ha (h.row i hi))
  refine ⟨by simp [hl], by rw [List.length_set]; exact hs.1, fun k hk => (World.ownsRow.lt hs.1 k hk).2, hrow, fun i k hi hk => (World.ownsRow.lt (hrow i hi) k hk).2, fun a b ha hb hne => ?_⟩
  rw [List.length_set] at ha hb
  have new : ∀ a, a < xss.length → ∀ k, (vs.getD a (.slice none 0 0)).ownBlock = some k → p.ownBlock ≠ some k := fun a ha k hk e => by have := hpo k e; have := h.rtop a k ha hk; omega
  by_cases ea : j = a
  · subst ea
    rw [show (vs.set j p).getD j (.slice none 0 0) = p by simp [hl, ha], show (vs.set j p).getD b (.slice none 0 0) = vs.getD b (.slice none 0 0) by simp [List.getD_eq_getElem?_getD, hne]]
    cases e : p.ownBlock with
    | none => exact .inl rfl
    | some k => exact .inr fun e' => new b hb k e'.symm e
  · rw [show (vs.set j p).getD a (.slice none 0 0) = vs.getD a (.slice none 0 0) by simp [List.getD_eq_getElem?_getD, ea]]
    by_cases eb : j = b
    · subst eb
      rw [show (vs.set j p).getD j (.slice none 0 0) = p by simp [hl, hb]]
      cases e : (vs.getD a (.slice none 0 0)).ownBlock with
      | none => exact .inl rfl
      | some k => exact .inr fun e' => new a ha k e e'.symm
    · rw [show (vs.set j p).getD b (.slice none 0 0) = vs.getD b (.slice none 0 0) by simp [List.getD_eq_getElem?_getD, eb]]
      exact h.apart a b ha hb hne
theorem RowsO.mono {w : World} {B B' U : Nat} {v : Value} {xss : List (List Int)} (h : RowsO w B U v xss) (hB : B' ≤ B) : RowsO w B' U v xss := by
  obtain ⟨vs, h⟩ := h
  exact ⟨vs, h.len, World.ownsRow.mono h.own hB, h.top, fun i hi => (h.row i hi).mono hB, h.rtop, h.apart⟩
theorem nilsO (n : Nat) : (madeCells #[.slice none 0 0] n).toList = List.replicate n (.slice none 0 0) := toList_madeCells_one _ n
theorem rowsO_nils (w : World) (n : Nat) (hn : n ≤ maxLen) : RowsO (w.alloc (.cells (madeCells #[.slice none 0 0] n) 103)) w.heap.size (w.alloc (.cells (madeCells #[.slice none 0 0] n) 103)).heap.size (.slice (some ⟨w.heap.size, 0, none⟩) n n) (List.replicate n []) := by
  have ho := World.ownsRow_lit (base := w.heap.size) (e := 103) (size := 1) w (madeCells #[.slice none 0 0] n) n (Nat.le_refl _) hn (by rw [size_madeCells]; simp)
  rw [nilsO] at ho
  have hv : ∀ i, (List.replicate n (Value.slice none 0 0)).getD i (.slice none 0 0) = .slice none 0 0 := fun i => by simp [List.getD_eq_getElem?_getD, List.getElem?_replicate]; split <;> rfl
  have hx : ∀ i, (List.replicate n ([] : List Int)).getD i [] = [] := fun i => by simp [List.getD_eq_getElem?_getD, List.getElem?_replicate]; split <;> rfl
  refine ⟨List.replicate n (.slice none 0 0), by simp, by simpa using ho, fun k hk => (World.ownsRow.lt ho k hk).2, fun i hi => ?_, fun i k hi hk => ?_, fun i j hi hj hne => ?_⟩
  · rw [hv, hx]; exact RowO.nil _ _
  · rw [hv] at hk; simp [Value.ownBlock] at hk
  · rw [hv]; exact .inl rfl
/-- The lists' lengths are within bounds. -/
def Short3 (xss : List (List Int)) : Prop := ∀ i, i < xss.length → (xss.getD i []).length ≤ 3145730
/-- Nothing from block U on has turned. -/
def Above (U : Nat) (w w' : World) : Prop := ∀ k, U ≤ k → k < w.heap.size → w'.heap[k]? = w.heap[k]?
theorem Above.refl (U : Nat) (w : World) : Above U w w := fun _ _ _ => rfl
theorem Above.grown {U : Nat} {w w1 w2 : World} {o : Option Nat} (h : Above U w w1) (hs : w.heap.size ≤ w1.heap.size) (hg : w1.grownBy w2 o) (ho : ∀ j, o = some j → j < U) : Above U w w2 := fun k hk hl => by
  rw [hg.block k (Nat.lt_of_lt_of_le hl hs) (fun e => by have := ho k (by first | exact e | exact e.symm); omega)]
  exact h k hk hl
theorem listQ_info : (Tryd.prog.info? 103).map (fun i => (i.zero, i.size, i.bytes)) = some (some (.slice none 0 0), 1, 24) := by kernel_rfl

theorem RowO.of {w : World} {B n : Nat} {v : Value} {xs : List Int} (h : RowO w B v xs) (hn : xs.length = n * 3) : RowP w B v n xs := by
  unfold RowO at h
  rwa [show xs.length / 3 = n by omega] at h
/-- One of the lists has grown, in its own place or in a new one, and is stored in its slot. -/
theorem RowsW.grow {w w4 : World} {B U g c n j : Nat} {p : Value} {xss : List (List Int)} {vs : List Value} {ys : List Int} (h : RowsW w B U (.slice (some ⟨g, 0, none⟩) n c) xss vs) (hn : n = xss.length) (hj : j < xss.length) (hU : U ≤ w.heap.size)
    (hp : RowO w4 B p ys) (hg : w.grownBy w4 (vs.getD j (.slice none 0 0)).ownBlock) (hpo : ∀ k, p.ownBlock = some k → (vs.getD j (.slice none 0 0)).ownBlock = some k ∨ w.heap.size ≤ k) :
    RowsW (w4.setCell ⟨g, j, none⟩ p) B (w4.setCell ⟨g, j, none⟩ p).heap.size (.slice (some ⟨g, 0, none⟩) n c) (xss.set j ys) (vs.set j p) := by
  have hl := h.len
  subst hn
  have ho4 : w4.ownsRow B 103 1 (.slice (some ⟨g, 0, none⟩) xss.length c) xss.length vs := World.ownsRow.kept h.own hg (by
    cases e : (vs.getD j (.slice none 0 0)).ownBlock with
    | none => exact .inr (by simp [Value.ownBlock])
    | some k => exact .inr fun e' => own_types h.own (h.row j hj) (by decide) e'  e)
  have hs := World.ownsRow.stored ho4 j p
  have hgs : w4.grownBy (w4.setCell ⟨g, j, none⟩ p) (some g) := hs.2
  have hrow4 : ∀ i, i < xss.length → i ≠ j → RowO w4 B (vs.getD i (.slice none 0 0)) (xss.getD i []) := fun i hi hne => World.ownsRow.kept (h.row i hi) hg (h.apart i j hi hj hne)
  have ha : ∀ {B' : Nat} {q : Value} {zs : List Int}, RowO w4 B' q zs → q.ownBlock = none ∨ q.ownBlock ≠ some g := fun {B' q zs} hq => by
    cases e : q.ownBlock with
    | none => exact .inl rfl
    | some k => exact .inr fun e' => own_types ho4 hq (by decide) (k := k) (by simp [Value.ownBlock]; injection e' with e'; exact e'.symm) e
  have hrow : ∀ i, i < (xss.set j ys).length → RowO (w4.setCell ⟨g, j, none⟩ p) B ((vs.set j p).getD i (.slice none 0 0)) ((xss.set j ys).getD i []) := fun i hi => by
    rw [List.length_set] at hi
    by_cases e : j = i
    · subst e
      rw [show (vs.set j p).getD j (.slice none 0 0) = p by simp [hl, hi], show (xss.set j ys).getD j [] = ys by simp [hi]]
      exact World.ownsRow.kept hp hgs (ha hp)
    · rw [show (vs.set j p).getD i (.slice none 0 0) = vs.getD i (.slice none 0 0) by simp [List.getD_eq_getElem?_getD, e], show (xss.set j ys).getD i [] = xss.getD i [] by simp [List.getD_eq_getElem?_getD, e]]
      exact World.ownsRow.kept (hrow4 i hi (Ne.symm e)) hgs (ha (hrow4 i hi (Ne.symm e)))
  have new : ∀ a, a < xss.length → a ≠ j → ∀ k, (vs.getD a (.slice none 0 0)).ownBlock = some k → p.ownBlock ≠ some k := fun a hal hne k hk e => by
    rcases hpo k e with h1 | h1
    · rcases h.apart a j hal hj hne with h2 | h2
      · rw [hk] at h2; cases h2
      · exact h2 (hk.trans h1.symm)
    · have := h.rtop a k hal hk
      omega
  refine ⟨by simp [hl], by rw [List.length_set]; exact hs.1, fun k hk => (World.ownsRow.lt hs.1 k hk).2, hrow, fun i k hi hk => (World.ownsRow.lt (hrow i hi) k hk).2, fun a b ha hb hne => ?_⟩
  rw [List.length_set] at ha hb
  by_cases ea : j = a
  · subst ea
    rw [show (vs.set j p).getD j (.slice none 0 0) = p by simp [hl, ha], show (vs.set j p).getD b (.slice none 0 0) = vs.getD b (.slice none 0 0) by simp [List.getD_eq_getElem?_getD, hne]]
    cases e : p.ownBlock with
    | none => exact .inl rfl
    | some k => exact .inr fun e' => new b hb (Ne.symm hne) k e'.symm e
  · rw [show (vs.set j p).getD a (.slice none 0 0) = vs.getD a (.slice none 0 0) by simp [List.getD_eq_getElem?_getD, ea]]
    by_cases eb : j = b
    · subst eb
      rw [show (vs.set j p).getD j (.slice none 0 0) = p by simp [hl, hb]]
      cases e : (vs.getD a (.slice none 0 0)).ownBlock with
      | none => exact .inl rfl
      | some k => exact .inr fun e' => new a ha (Ne.symm ea) k e e'.symm
    · rw [show (vs.set j p).getD b (.slice none 0 0) = vs.getD b (.slice none 0 0) by simp [List.getD_eq_getElem?_getD, eb]]
      exact h.apart a b ha hb hne
end Go.Proofs.YtmimilchldjkbaaDoor
