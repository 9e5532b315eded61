/-
  What is left in a network, while it is made: three slices in a struct, one of them of slices.
-/
import Derived.Test.YtdgkgnlilcbggaaZF
import Derived.Test.YtdgkgnlilcbggaaZP
import Derived.Test.YtdgkgnlilcbggaaRB
import Derived.Deep.AppendLies
import Derived.Deep.RegionHeld
namespace Go.Proofs.Ytdgkgnlilcbggaa
open Go.RowKit
set_option linter.unusedVariables false

def eF (xs : List Int) (k : Nat) : Nat := (xs.getD (k * 3) 0).toNat
def eT (xs : List Int) (k : Nat) : Nat := (xs.getD (k * 3 + 1) 0).toNat
def eC (xs : List Int) (k : Nat) : Int := xs.getD (k * 3 + 2) 0
theorem ends_in {n m : Nat} {xs : List Int} (h : netW n m xs = true) : EndsIn n (eF xs) (eT xs) m := fun k hk => by
  obtain ⟨_, _, _, hE⟩ := netW_true h
  have := edg_true (edgAll_at hE hk)
  unfold eF eT
  omega
theorem eF_at {n m : Nat} {xs : List Int} (h : netW n m xs = true) {k : Nat} (hk : k < m) : xs.getD (k * 3) 0 = (eF xs k : Int) ∧ xs.getD (k * 3 + 1) 0 = (eT xs k : Int) ∧ 0 ≤ eC xs k ∧ eC xs k ≤ 1000000000 := by
  obtain ⟨_, _, _, hE⟩ := netW_true h
  have := edg_true (edgAll_at hE hk)
  unfold eF eT eC
  omega
/-- What is left at first: each capacity, and nothing to take back. -/
def rmL (cp : Nat → Int) : Nat → List Int
  | 0 => []
  | k + 1 => rmL cp k ++ [cp k, 0]
theorem rmL_len (cp : Nat → Int) : ∀ k, (rmL cp k).length = 2 * k
  | 0 => rfl
  | k + 1 => by unfold rmL; rw [List.length_append, rmL_len cp k]; simp; omega
theorem rmL_at (cp : Nat → Int) : ∀ {k j : Nat}, j < k → (rmL cp k).getD (2 * j) 0 = cp j ∧ (rmL cp k).getD (2 * j + 1) 0 = 0
  | k + 1, j, h => by
    have hl := rmL_len cp k
    unfold rmL
    simp only [List.getD_eq_getElem?_getD]
    by_cases e : j < k
    · rw [List.getElem?_append_left (by omega), List.getElem?_append_left (by omega)]
      have := rmL_at cp e
      simpa only [List.getD_eq_getElem?_getD] using this
    · obtain rfl : j = k := by omega
      rw [List.getElem?_append_right (by omega), List.getElem?_append_right (by omega), hl, Nat.sub_self, show 2 * j + 1 - 2 * j = 1 by omega]
      simp
theorem rmL_res {cp : Nat → Int} {m : Nat} (h : ∀ k, k < m → 0 ≤ cp k) : Res cp m (rmL cp m) := by
  refine ⟨rmL_len cp m, fun a ha => ?_, fun k hk => ?_⟩
  · have := rmL_at cp (k := m) (j := a / 2) (by omega)
    have h0 := h (a / 2) (by omega)
    by_cases e : a % 2 = 0
    · rw [show a = 2 * (a / 2) by omega, this.1]; exact h0
    · rw [show a = 2 * (a / 2) + 1 by omega, this.2]; omega
  · have := rmL_at cp hk
    rw [this.1, this.2]; omega
theorem rmL_net {fr tg : Nat → Nat} {cp : Nat → Int} {m : Nat} (p : Nat → Bool) : net fr tg m (rmL cp m) p = 0 :=
  sumZ_zero fun k hk => by rw [(rmL_at cp hk).2]; simp
/-- What the three slices hold behind k edges: heads, room, and the arcs of each node. -/
def resX (fr tg : Nat → Nat) (cp : Nat → Int) (n k : Nat) : Nat → List Int
  | 0 => hdL fr tg k
  | 1 => rmL cp k
  | u + 2 => (arcL fr tg n k).getD u []
theorem resX_zero (fr tg : Nat → Nat) (cp : Nat → Int) (n : Nat) : ∀ i, resX fr tg cp n 0 i = []
  | 0 => rfl
  | 1 => rfl
  | u + 2 => by
    show (List.replicate n ([] : List Int)).getD u [] = []
    simp only [List.getD_eq_getElem?_getD, List.getElem?_replicate]
    split <;> rfl
theorem arcL_next (fr tg : Nat → Nat) (n k : Nat) : arcL fr tg n (k + 1) = ((arcL fr tg n k).set (fr k) ((arcL fr tg n k).getD (fr k) [] ++ [((2 * k : Nat) : Int)])).set (tg k) ((((arcL fr tg n k).set (fr k) ((arcL fr tg n k).getD (fr k) [] ++ [((2 * k : Nat) : Int)])).getD (tg k) []) ++ [((2 * k + 1 : Nat) : Int)]) := rfl
theorem cell_off (w : World) (k i j : Nat) (v : Value) (h : i ≠ j) : (w.setCell ⟨k, i, none⟩ v).cell? ⟨k, j, none⟩ = w.cell? ⟨k, j, none⟩ := by
  have hne : (⟨k, i, none⟩ : Addr) ≠ ⟨k, j, none⟩ := fun e => h (congrArg Addr.off e)
  first
    | exact World.cell?_setCell_other _ _ _ _ hne
    | exact World.cell?_setCell_other _ _ _ hne
theorem resX_step {fr tg : Nat → Nat} {cp : Nat → Int} {n k : Nat} (h1 : fr k < n) (h2 : tg k < n) : ∀ i, i < n + 2 →
    upd (upd (upd (upd (resX fr tg cp n k) 0 (hdL fr tg k ++ [(tg k : Int), (fr k : Int)])) 1 (rmL cp k ++ [cp k, 0])) (fr k + 2) ((arcL fr tg n k).getD (fr k) [] ++ [((2 * k : Nat) : Int)])) (tg k + 2) ((if fr k = tg k then (arcL fr tg n k).getD (fr k) [] ++ [((2 * k : Nat) : Int)] else (arcL fr tg n k).getD (tg k) []) ++ [((2 * k + 1 : Nat) : Int)]) i = resX fr tg cp n (k + 1) i
  | 0, _ => by
    rw [upd_far _ _ (by omega), upd_far _ _ (by omega), upd_far _ _ (by omega), upd_same]; rfl
  | 1, _ => by
    rw [upd_far _ _ (by omega), upd_far _ _ (by omega), upd_same]; rfl
  | u + 2, hu => by
    have hl := arcL_len fr tg n k
    have e : resX fr tg cp n (k + 1) (u + 2) = (arcL fr tg n (k + 1)).getD u [] := rfl
    rw [e, arcL_next, getL_set _ _ _ _ (by simp; omega), getL_set _ (fr k) (tg k) _ (by omega), getL_set _ (fr k) u _ (by omega)]
    by_cases c1 : tg k = u
    · subst c1
      rw [upd_same, if_pos rfl]
    · rw [if_neg c1, upd_far _ _ (by omega)]
      by_cases c2 : fr k = u
      · subst c2
        rw [upd_same, if_pos rfl]
      · rw [if_neg c2, upd_far _ _ (by omega), upd_far _ _ (by omega), upd_far _ _ (by omega)]; rfl
theorem resX_to {fr tg : Nat → Nat} {cp : Nat → Int} {n k : Nat} : upd (upd (upd (resX fr tg cp n k) 0 (hdL fr tg k ++ [(tg k : Int), (fr k : Int)])) 1 (rmL cp k ++ [cp k, 0])) (fr k + 2) ((arcL fr tg n k).getD (fr k) [] ++ [((2 * k : Nat) : Int)]) (tg k + 2) = if fr k = tg k then (arcL fr tg n k).getD (fr k) [] ++ [((2 * k : Nat) : Int)] else (arcL fr tg n k).getD (tg k) [] := by
  by_cases e : fr k = tg k
  · rw [if_pos e, ← e, upd_same]
  · rw [if_neg e, upd_far _ _ (by omega), upd_far _ _ (by omega), upd_far _ _ (by omega)]; rfl
theorem resX_fr {fr tg : Nat → Nat} {cp : Nat → Int} {n k : Nat} : upd (upd (resX fr tg cp n k) 0 (hdL fr tg k ++ [(tg k : Int), (fr k : Int)])) 1 (rmL cp k ++ [cp k, 0]) (fr k + 2) = (arcL fr tg n k).getD (fr k) [] := by
  rw [upd_far _ _ (by omega), upd_far _ _ (by omega)]; rfl

/-- The struct in block g, its slices from cell o on; block gl: the slices of slices; block ge: an edge. -/
structure RS (w : World) (B g o gl n ge : Nat) (Tg : TypeId) (vs : Nat → Value) (us : List Value) (h0 h1 : Value) (xs : Nat → List Int) (f t c : Int) : Prop where
  fam : Fam w B (n + 2) vs xs
  own : w.ownsRow B 23 1 (.slice (some ⟨gl, 0, none⟩) n n) n us
  c0 : w.cell? ⟨g, o, none⟩ = some h0
  c1 : w.cell? ⟨g, o + 1, none⟩ = some h1
  c2 : w.cell? ⟨g, o + 2, none⟩ = some (.slice (some ⟨gl, 0, none⟩) n n)
  fz : ∀ j, w.frozen? ⟨g, j, none⟩ = false
  ty : TyAt w g Tg
  e0 : w.cell? ⟨ge, 0, none⟩ = some (.int .i64 f)
  e1 : w.cell? ⟨ge, 1, none⟩ = some (.int .i64 t)
  e2 : w.cell? ⟨ge, 2, none⟩ = some (.int .i64 c)
  te : TyAt w ge 54
section
variable {w w' : World} {B g o gl n ge : Nat} {Tg : TypeId} {vs : Nat → Value} {us : List Value} {h0 h1 : Value} {xs : Nat → List Int} {f t c : Int}
theorem own_gl {w : World} {B gl n : Nat} {us : List Value} (h : w.ownsRow B 23 1 (.slice (some ⟨gl, 0, none⟩) n n) n us) : TyAt w gl 23 := by
  rcases h.2 with ⟨h, _⟩ | ⟨g, cap, cur, h, _, hg, _⟩
  · simp at h
  · simp at h
    rw [h.1]; exact ⟨cur, (0, 0), hg⟩
theorem RS.below (h : RS w B g o gl n ge Tg vs us h0 h1 xs f t c) (hb : Below w.heap.size w w') : RS w' B g o gl n ge Tg vs us h0 h1 xs f t c :=
  have lg := h.ty.lt
  have le := h.te.lt
  ⟨h.fam.below hb, World.ownsRow.kept (row := none) h.own ⟨hb.os, hb.tape, hb.output, hb.size, fun k hk _ => hb.block k hk⟩ (.inr (by simp [Value.ownBlock])), by rw [hb.cell (p := ⟨g, o, none⟩) lg]; exact h.c0, by rw [hb.cell (p := ⟨g, o + 1, none⟩) lg]; exact h.c1, by rw [hb.cell (p := ⟨g, o + 2, none⟩) lg]; exact h.c2, fun j => by rw [hb.frozen (p := ⟨g, j, none⟩) lg]; exact h.fz j, h.ty.below hb lg, by rw [hb.cell (p := ⟨ge, 0, none⟩) le]; exact h.e0, by rw [hb.cell (p := ⟨ge, 1, none⟩) le]; exact h.e1, by rw [hb.cell (p := ⟨ge, 2, none⟩) le]; exact h.e2, h.te.below hb le⟩
theorem RS.app (h : RS w B g o gl n ge Tg vs us h0 h1 xs f t c) (hT : Tg ≠ 3) {i : Nat} {v' : Value} {ys : List Int} (hi : i < n + 2) (hr : Row w' B v' ys) (hg : w.grownBy w' (vs i).ownBlock) (ho : (vs i).ownBlock = v'.ownBlock ∨ v'.ownBlock = some w.heap.size) : RS w' B g o gl n ge Tg (upd vs i v') us h0 h1 (upd xs i ys) f t c := by
  have ng := own_off (h.fam.row i hi) h.ty hT
  have nl := own_off (h.fam.row i hi) (own_gl h.own) (by decide)
  have ne := own_off (h.fam.row i hi) h.te (by decide)
  have kg : ∀ j, w'.cell? ⟨g, j, none⟩ = w.cell? ⟨g, j, none⟩ := fun j => hg.cell_far ⟨g, j, none⟩ h.ty.lt (fun e => ng e.symm)
  have ke : ∀ j, w'.cell? ⟨ge, j, none⟩ = w.cell? ⟨ge, j, none⟩ := fun j => hg.cell_far ⟨ge, j, none⟩ h.te.lt (fun e => ne e.symm)
  exact ⟨h.fam.app hi hr hg ho, World.ownsRow.kept h.own hg (.inr (fun e => nl e.symm)), by rw [kg]; exact h.c0, by rw [kg]; exact h.c1, by rw [kg]; exact h.c2, fun j => by rw [hg.frozen_far ⟨g, j, none⟩ h.ty.lt (fun e => ng e.symm)]; exact h.fz j, h.ty.grown hg ng, by rw [ke]; exact h.e0, by rw [ke]; exact h.e1, by rw [ke]; exact h.e2, h.te.grown hg ne⟩
theorem RS.st (h : RS w B g o gl n ge Tg vs us h0 h1 xs f t c) (hT : Tg ≠ 3) (hL : Tg ≠ 23) (hne : ge ≠ g) (v : Value) (j : Nat) (hj : j < 2) : RS (w.setCell ⟨g, o + j, none⟩ v) B g o gl n ge Tg vs us (if j = 0 then v else h0) (if j = 1 then v else h1) xs f t c := by
  have hg := set_grown w ⟨g, o + j, none⟩ v
  have nl : gl ≠ g := fun e => by
    have := own_off h.own h.ty hL
    simp [Value.ownBlock] at this
    exact this e
  have ke : ∀ i, (w.setCell ⟨g, o + j, none⟩ v).cell? ⟨ge, i, none⟩ = w.cell? ⟨ge, i, none⟩ := fun i => World.cell?_setCell_far _ _ _ _ (fun e => hne e.symm)
  refine ⟨h.fam.far h.ty hT hg, World.ownsRow.kept h.own hg (.inr (by simp [Value.ownBlock, nl])), ?_, ?_, ?_, fun i => by rw [World.frozen?_setCell]; exact h.fz i, h.ty.setCell _ _, by rw [ke]; exact h.e0, by rw [ke]; exact h.e1, by rw [ke]; exact h.e2, h.te.setCell _ _⟩
  · by_cases e : j = 0
    · subst e; rw [if_pos rfl]; exact World.cell?_setCell_same _ _ _ h.c0
    · rw [if_neg e, cell_off _ _ _ _ _ (by omega)]; exact h.c0
  · by_cases e : j = 1
    · subst e; rw [if_pos rfl]; exact World.cell?_setCell_same _ _ _ h.c1
    · rw [if_neg e, cell_off _ _ _ _ _ (by omega)]; exact h.c1
  · rw [cell_off _ _ _ _ _ (by omega)]; exact h.c2
theorem RS.stl (h : RS w B g o gl n ge Tg vs us h0 h1 xs f t c) (hL : Tg ≠ 23) (v : Value) (j : Nat) : RS (w.setCell ⟨gl, j, none⟩ v) B g o gl n ge Tg vs (us.set j v) h0 h1 xs f t c := by
  have hg := set_grown w ⟨gl, j, none⟩ v
  have ng : gl ≠ g := fun e => by
    have := own_off h.own h.ty hL
    simp [Value.ownBlock] at this
    exact this e
  have ne : gl ≠ ge := fun e => by
    have := own_off h.own h.te (by decide)
    simp [Value.ownBlock] at this
    exact this e
  have kg : ∀ i, (w.setCell ⟨gl, j, none⟩ v).cell? ⟨g, i, none⟩ = w.cell? ⟨g, i, none⟩ := fun i => World.cell?_setCell_far _ _ _ _ ng
  have ke : ∀ i, (w.setCell ⟨gl, j, none⟩ v).cell? ⟨ge, i, none⟩ = w.cell? ⟨ge, i, none⟩ := fun i => World.cell?_setCell_far _ _ _ _ ne
  exact ⟨h.fam.far (own_gl h.own) (by decide) hg, (World.ownsRow.stored h.own j v).1, by rw [kg]; exact h.c0, by rw [kg]; exact h.c1, by rw [kg]; exact h.c2, fun i => by rw [World.frozen?_setCell]; exact h.fz i, h.ty.setCell _ _, by rw [ke]; exact h.e0, by rw [ke]; exact h.e1, by rw [ke]; exact h.e2, h.te.setCell _ _⟩
end
def mapR (n : Nat) (vs : Nat → Value) : List Value := (List.range n).map fun u => vs (u + 2)
theorem mapR_len (n : Nat) (vs : Nat → Value) : (mapR n vs).length = n := by simp [mapR]
theorem mapR_at {n u : Nat} (vs : Nat → Value) (h : u < n) : (mapR n vs)[u]? = some (vs (u + 2)) := by simp [mapR, h]
theorem mapR_set {n j : Nat} (vs : Nat → Value) (v : Value) (h : j < n) : (mapR n vs).set j v = mapR n (upd vs (j + 2) v) := by
  apply List.ext_getElem?
  intro i
  rw [List.getElem?_set]
  by_cases e : j = i
  · subst e
    rw [if_pos rfl, mapR_len, if_pos h, mapR_at _ h, upd_same]
  · rw [if_neg e]
    by_cases hi : i < n
    · rw [mapR_at _ hi, mapR_at _ hi, upd_far _ _ (by omega)]
    · rw [List.getElem?_eq_none (by rw [mapR_len]; omega), List.getElem?_eq_none (by rw [mapR_len]; omega)]
theorem mapR_low {n i : Nat} (vs : Nat → Value) (v : Value) (h : i < 2) : mapR n (upd vs i v) = mapR n vs := by
  unfold mapR
  apply List.map_congr_left
  intro u _
  rw [upd_far _ _ (by omega)]
theorem own_at {w : World} {B gl n u : Nat} {vs : Nat → Value} (h : w.ownsRow B 23 1 (.slice (some ⟨gl, 0, none⟩) n n) n (mapR n vs)) (hu : u < n) : w.cell? ⟨gl, u, none⟩ = some (vs (u + 2)) := by
  rw [World.ownsRow.cellAt h u (by omega)]
  exact mapR_at vs hu
theorem own_fz {w : World} {B gl n : Nat} {us : List Value} (h : w.ownsRow B 23 1 (.slice (some ⟨gl, 0, none⟩) n n) n us) (u : Nat) : w.frozen? ⟨gl, u, none⟩ = false := World.ownsRow.frozenAt h u

/-- The same at the head of a round: no edge yet; all that was made has been stored. -/
structure RQ (w : World) (B g o gl n : Nat) (Tg : TypeId) (vs : Nat → Value) (xs : Nat → List Int) : Prop where
  fam : Fam w B (n + 2) vs xs
  own : w.ownsRow B 23 1 (.slice (some ⟨gl, 0, none⟩) n n) n (mapR n vs)
  c0 : w.cell? ⟨g, o, none⟩ = some (vs 0)
  c1 : w.cell? ⟨g, o + 1, none⟩ = some (vs 1)
  c2 : w.cell? ⟨g, o + 2, none⟩ = some (.slice (some ⟨gl, 0, none⟩) n n)
  fz : ∀ j, w.frozen? ⟨g, j, none⟩ = false
  ty : TyAt w g Tg
theorem RQ.edge {w : World} {B g o gl n : Nat} {Tg : TypeId} {vs : Nat → Value} {xs : Nat → List Int} (h : RQ w B g o gl n Tg vs xs) (f t c : Int) : RS (w.alloc (.cells #[.int .i64 f, .int .i64 t, .int .i64 c] 54)) B g o gl n w.heap.size Tg vs (mapR n vs) (vs 0) (vs 1) xs f t c := by
  have lg := h.ty.lt
  have hb : Below w.heap.size w (w.alloc (.cells #[.int .i64 f, .int .i64 t, .int .i64 c] 54)) := (Below.refl _ _).alloc (Nat.le_refl _) _
  exact ⟨h.fam.below hb, World.ownsRow.alloc h.own _, by rw [hb.cell (p := ⟨g, o, none⟩) lg]; exact h.c0, by rw [hb.cell (p := ⟨g, o + 1, none⟩) lg]; exact h.c1, by rw [hb.cell (p := ⟨g, o + 2, none⟩) lg]; exact h.c2, fun j => by rw [hb.frozen (p := ⟨g, j, none⟩) lg]; exact h.fz j, h.ty.below hb lg, by simp, by simp, by simp, TyAt.new _ _ _⟩
theorem RS.head {w : World} {B g o gl n ge : Nat} {Tg : TypeId} {vs : Nat → Value} {us : List Value} {h0 h1 : Value} {xs ys : Nat → List Int} {f t c : Int} (h : RS w B g o gl n ge Tg vs us h0 h1 xs f t c) (e0 : h0 = vs 0) (e1 : h1 = vs 1) (eu : us = mapR n vs) (ex : ∀ i, i < n + 2 → xs i = ys i) : RQ w B g o gl n Tg vs ys := by
  subst e0 e1 eu
  exact ⟨h.fam.congr ex, h.own, h.c0, h.c1, h.c2, h.fz, h.ty⟩
theorem news_one {w : World} {b : Nat} {x : Value} (h : w.cell? ⟨b, 0, none⟩ = some x) : ∀ (j : Nat) (u : Value), [x][j]? = some u → w.cell? ((⟨b, 0, none⟩ : Addr).add j) = some u := fun j u hj => by
  match j, hj with
  | 0, hj => simp at hj; subst hj; simpa [Addr.add] using h
theorem news_two {w : World} {b : Nat} {x y : Value} (h : w.cell? ⟨b, 0, none⟩ = some x) (k : w.cell? ⟨b, 1, none⟩ = some y) : ∀ (j : Nat) (u : Value), [x, y][j]? = some u → w.cell? ((⟨b, 0, none⟩ : Addr).add j) = some u := fun j u hj => by
  match j, hj with
  | 0, hj => simp at hj; subst hj; simpa [Addr.add] using h
  | 1, hj => simp at hj; subst hj; simpa [Addr.add] using k
theorem cells_two (W : World) (b : Nat) (hb : W.heap.size = b) (x y : Value) (T : TypeId) : (W.alloc (.cells #[x, y] T)).cell? ⟨b, 0, none⟩ = some x ∧ (W.alloc (.cells #[x, y] T)).cell? ⟨b, 1, none⟩ = some y := by subst hb; simp
theorem cells_one (W : World) (b : Nat) (hb : W.heap.size = b) (x : Value) (T : TypeId) : (W.alloc (.cells #[x] T)).cell? ⟨b, 0, none⟩ = some x := by subst hb; simp
theorem ones_two (a b : Int) : ∀ u ∈ [Value.int .i64 a, .int .i64 b], u.oneCell' = true := fun u hu => by
  simp at hu
  rcases hu with rfl | rfl <;> rfl
theorem ones_one (a : Int) : ∀ u ∈ [Value.int .i64 a], u.oneCell' = true := fun u hu => by
  simp at hu
  subst hu; rfl
theorem at_new {v : Value} {g c n H K : Nat} (h : v.ownBlock = some g ∨ g = H) (e : K = H) : v.ownBlock = (Value.slice (some ⟨g, 0, none⟩) n c).ownBlock ∨ (Value.slice (some ⟨g, 0, none⟩) n c).ownBlock = some K := by
  subst e
  rcases h with h | h
  · exact .inl h
  · exact .inr (by rw [h]; rfl)
end Go.Proofs.Ytdgkgnlilcbggaa
