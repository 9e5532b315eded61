/-
  Contracts: a model read off words, in the program.
-/
import Derived.Test.YtgibkjjjnfjbkaaDoorMK1
import Derived.Test.YtgibkjjjnfjbkaaDoorC1
namespace Go.Proofs.YtgibkjjjnfjbkaaDoor
open Go.RowKit
set_option linter.unusedVariables false
set_option linter.unusedSimpArgs false

theorem one_new (W : World) (n : Nat) (h : W.heap.size = n) (x : Int) (t : TypeId) : (W.alloc (.cells #[.int .i64 x] t)).cell? ⟨n, 0, none⟩ = some (.int .i64 x) := by subst h; simp
/-- A word split at each x. -/
def spx (p : List UInt8) : List (List UInt8) := (Lib.splitB ⟨#[120]⟩ 0 (Lib.countB ⟨p.toArray⟩ ⟨#[120]⟩) ⟨p.toArray⟩).map fun q => q.data.toList
theorem spx_len (p : List UInt8) : (spx p).length = Lib.countB ⟨p.toArray⟩ ⟨#[120]⟩ + 1 := by
  unfold spx
  rw [List.length_map]
  exact Lib.splitB_all _ (by decide) 0 _ _ rfl
theorem spx_le (p : List UInt8) : (spx p).length ≤ p.length + 1 := by
  rw [spx_len]
  have := Lib.countB_le ⟨#[120]⟩ (by decide) _ (⟨p.toArray⟩ : ByteArray) (Nat.le_refl _)
  have e : (⟨p.toArray⟩ : ByteArray).size = p.length := by show p.toArray.size = _; simp
  omega
theorem splitB_piece (sep : ByteArray) (save : Nat) : ∀ (k : Nat) (s : ByteArray) (q : ByteArray), q ∈ Lib.splitB sep save k s → q.size ≤ s.size
  | 0, s, q, h => by rw [Lib.splitB_zero, List.mem_singleton] at h; subst h; exact Nat.le_refl _
  | k + 1, s, q, h => by
    unfold Lib.splitB at h
    split at h
    · rw [List.mem_singleton] at h; subst h; exact Nat.le_refl _
    · rcases List.mem_cons.1 h with e | e
      · subst e; rw [ByteArray.size_extract]; omega
      · have := splitB_piece sep save k _ q e
        rw [ByteArray.size_extract] at this
        omega
theorem spx_piece {p q : List UInt8} (h : q ∈ spx p) : q.length ≤ p.length := by
  unfold spx at h
  obtain ⟨b, hb, rfl⟩ := List.mem_map.1 h
  have := splitB_piece _ _ _ _ _ hb
  have e : (⟨p.toArray⟩ : ByteArray).size = p.length := by show p.toArray.size = _; simp
  have e2 : b.data.toList.length = b.size := by simp
  omega
theorem c_SplitX (p : List UInt8) (w : World) (hp : p.length ≤ 2000000) (hb : LB w) :
    Calls Tryd.prog 27 #[.string ⟨p.toArray⟩, .string ⟨#[120]⟩] w fun e w' => ∃ v, e = .returned v ∧ SeenW w' v (spx p) ∧ Below w.heap.size w w' := by
  obtain ⟨m, hm⟩ := hb.ml
  have e : (⟨p.toArray⟩ : ByteArray).size = p.length := by show p.toArray.size = _; simp
  refine (Tryd.strings_Split ⟨p.toArray⟩ ⟨#[120]⟩ m w (by omega) hm (by decide)).mono ?_
  rintro e w' ⟨rfl, rfl⟩
  refine ⟨_, rfl, ?_, (Below.refl _ _).alloc (Nat.le_refl _) _⟩
  rw [← spx_len]
  refine ⟨_, _, rfl, .inr ⟨w.heap.size, 0, rfl, by simp, fun k hk => ?_⟩⟩
  have hk2 : k < (Lib.splitB ⟨#[120]⟩ 0 (Lib.countB ⟨p.toArray⟩ ⟨#[120]⟩) ⟨p.toArray⟩).length := by unfold spx at hk; rwa [List.length_map] at hk
  have := heap_alloc_new w (.cells ((Lib.splitB ⟨#[120]⟩ 0 (Lib.countB ⟨p.toArray⟩ ⟨#[120]⟩) ⟨p.toArray⟩).map Value.string).toArray 9)
  rw [Lib.cell_of_heap this, Nat.zero_add]
  unfold spx
  simp [hk2]

/-- Every third number. -/
def thr (j : Nat) (ns : List Int) (K : Nat) : List Int := (List.range K).map fun k => ns.getD (3 * k + j) 0
theorem thr_len (j : Nat) (ns : List Int) (K : Nat) : (thr j ns K).length = K := by simp [thr]
theorem thr_next (j : Nat) (ns : List Int) (K : Nat) : thr j ns (K + 1) = thr j ns K ++ [ns.getD (3 * K + j) 0] := by simp [thr, List.range_succ]
/-- The sizes that are read, whether a model is read, and its lists. -/
def rmS (ws : List (List UInt8)) : List Int := nuA (spx (ws.getD 1 []))
def rmZ (j : Nat) (ws : List (List UInt8)) : Int := (rmS ws).getD j 0
def rmN (ws : List (List UInt8)) : Int := rmZ 0 ws * rmZ 1 ws * rmZ 2 ws
def rmB (ws : List (List UInt8)) : Bool := decide (2 ≤ ws.length) && (nuB (spx (ws.getD 1 [])) && (decide ((rmS ws).length = 3) && (goodB (rmZ 0 ws) (rmZ 1 ws) (rmZ 2 ws) && (decide ((ws.length : Int) = 2 + 3 * rmN ws) && nuB (ws.drop 2)))))
def rmX (j : Nat) (ws : List (List UInt8)) : Int := if rmB ws then rmZ j ws else 0
def rmL (j : Nat) (ws : List (List UInt8)) : List Int := if rmB ws then thr j (nuA (ws.drop 2)) (rmN ws).toNat else []
def GivesMB (w : World) (x y z : Int) (ts gs rs : List Int) (b : Bool) (e : Ending) (w' : World) : Prop :=
  ∃ v1 v2 v3, e = .returned (.tuple #[.agg #[.int .i64 x, .int .i64 y, .int .i64 z, v1, v2, v3], .bool b]) ∧ Mod w' w.heap.size v1 v2 v3 ts gs rs ∧ Below w.heap.size w w'
theorem rm_no {ws : List (List UInt8)} (h : rmB ws = false) : (∀ j, rmX j ws = 0) ∧ ∀ j, rmL j ws = [] := ⟨fun j => by unfold rmX; rw [h]; rfl, fun j => by unfold rmL; rw [h]; rfl⟩
theorem SeenW.two {w : World} {A : Option Addr} {n c : Nat} {ps : List (List UInt8)} (h : SeenW w (.slice A n c) ps) (hn : 2 < n) : ∃ b off, A = some ⟨b, off, none⟩ ∧ SeenW w (.slice (some ⟨b, off + 2, none⟩) (n - 2) (c - 2)) (ps.drop 2) := by
  obtain ⟨A', c', e, h⟩ := h
  simp at e
  obtain ⟨rfl, rfl, rfl⟩ := e
  rcases h with h | ⟨b, off, rfl, hl, hc⟩
  · omega
  · refine ⟨b, off, rfl, _, _, by rw [List.length_drop], .inr ⟨b, off + 2, rfl, hl, fun k hk => ?_⟩⟩
    rw [List.length_drop] at hk
    have := hc (k + 2) (by omega)
    rw [show off + 2 + k = off + (k + 2) by omega, this]
    simp [Nat.add_comm]

end Go.Proofs.YtgibkjjjnfjbkaaDoor
