/-
  Contracts of the law's own helpers over lists of edges: lists copied, measured, compared and marked. A list of n edges is told by its 3 n numbers, one behind the other.
-/
import Derived.Test.YtdgkgnlilcbggaaC6
import Derived.Test.YtdgkgnlilcbggaaM1
import Derived.Test.YtdgkgnlilcbggaaZA
import Derived.Test.YtdgkgnlilcbggaaGrow
namespace Go.Proofs.Ytdgkgnlilcbggaa
open Go.RowKit
set_option linter.unusedVariables false

/-- The slice v is a list of n edges of the call's own, in memory from block B on; xs: their numbers. -/
def RowP (w : World) (B : Nat) (v : Value) (n : Nat) (xs : List Int) : Prop := w.ownsRow B 54 3 v n (ints xs)
theorem RowP.len {w : World} {B n : Nat} {v : Value} {xs : List Int} (h : RowP w B v n xs) : xs.length = n * 3 := by
  have := h.1; rw [ints_len] at this; exact this
theorem RowP.below {w w' : World} {B n : Nat} {v : Value} {xs : List Int} (h : RowP w B v n xs) (hb : Below w.heap.size w w') : RowP w' B v n xs :=
  World.ownsRow.kept (row := none) h ⟨hb.os, hb.tape, hb.output, hb.size, fun k hk _ => hb.block k hk⟩ (by cases v.ownBlock <;> simp)
theorem RowP.mono {w : World} {B B' n : Nat} {v : Value} {xs : List Int} (h : RowP w B v n xs) (hB : B' ≤ B) : RowP w B' v n xs := World.ownsRow.mono h hB
theorem RowP.draws {w : World} {B n : Nat} {v : Value} {xs : List Int} (h : RowP w B v n xs) (k : Nat) : RowP (w.drewN k) B v n xs := h
theorem RowP.shape {w : World} {B n : Nat} {v : Value} {xs : List Int} (h : RowP w B v n xs) : ∃ A c, v = .slice A n c := by
  rcases h.2 with ⟨rfl, h0⟩ | ⟨g, cap, cur, rfl, _⟩
  · exact ⟨none, 0, by rw [h0]⟩
  · exact ⟨_, _, rfl⟩
theorem RowP.form {w : World} {B n : Nat} {v : Value} {xs : List Int} (h : RowP w B v n xs) (h0 : 0 < n) : ∃ g c, v = .slice (some ⟨g, 0, none⟩) n c ∧ B ≤ g ∧ g < w.heap.size := World.ownsRow.form h h0
theorem RowP.cell {w : World} {B g c n : Nat} {xs : List Int} (h : RowP w B (.slice (some ⟨g, 0, none⟩) n c) n xs) (k : Nat) (hk : k < n * 3) : w.cell? ⟨g, k, none⟩ = some (.int .i64 (xs.getD k 0)) := by
  rw [World.ownsRow.cellAt h k hk]
  have := h.len
  have hk' : k < xs.length := by omega
  simp [ints, hk']
theorem RowP.frozen {w : World} {B g c n : Nat} {xs : List Int} (h : RowP w B (.slice (some ⟨g, 0, none⟩) n c) n xs) (k : Nat) : w.frozen? ⟨g, k, none⟩ = false := World.ownsRow.frozenAt h k
theorem RowP.set_ {w : World} {B g c n : Nat} {xs : List Int} (h : RowP w B (.slice (some ⟨g, 0, none⟩) n c) n xs) (j : Nat) (u : Int) :
    RowP (w.setCell ⟨g, j, none⟩ (.int .i64 u)) B (.slice (some ⟨g, 0, none⟩) n c) n (xs.set j u) ∧ w.grownBy (w.setCell ⟨g, j, none⟩ (.int .i64 u)) (some g) := by
  have := World.ownsRow.stored h j (.int .i64 u)
  refine ⟨?_, this.2⟩
  unfold RowP
  rw [show ints (xs.set j u) = (ints xs).set j (.int .i64 u) by simp [ints, List.map_set]]
  exact this.1

/-- The slice v reads as n edges. -/
def SeenP (w : World) (v : Value) (n : Nat) (xs : List Int) : Prop :=
  ∃ A c, v = .slice A n c ∧ n ≤ maxLen ∧ xs.length = n * 3 ∧ (0 < n → ∃ b off, A = some ⟨b, off, none⟩ ∧ b < w.heap.size ∧ ∀ k : Nat, k < n * 3 → w.cell? ⟨b, off + k, none⟩ = some (.int .i64 (xs.getD k 0)))
theorem SeenP.below {w w' : World} {v : Value} {n : Nat} {xs : List Int} (h : SeenP w v n xs) (hb : Below w.heap.size w w') : SeenP w' v n xs := by
  obtain ⟨A, c, rfl, hm, hl, h⟩ := h
  refine ⟨A, c, rfl, hm, hl, fun h0 => ?_⟩
  obtain ⟨b, off, rfl, hlt, hc⟩ := h h0
  exact ⟨b, off, rfl, Nat.lt_of_lt_of_le hlt hb.size, fun k hk => by rw [hb.cell (p := ⟨b, off + k, none⟩) hlt]; exact hc k hk⟩
theorem RowP.seen {w : World} {B n : Nat} {v : Value} {xs : List Int} (h : RowP w B v n xs) : SeenP w v n xs := by
  have hl := h.len
  rcases h.2 with ⟨rfl, h0⟩ | ⟨g, cap, cur, rfl, _, hg, hn, hm, _⟩
  · subst h0
    exact ⟨none, 0, rfl, by omega, by simpa using hl, fun h1 => by omega⟩
  · refine ⟨_, _, rfl, by omega, hl, fun h0 => ⟨g, 0, rfl, ?_, fun k hk => by rw [Nat.zero_add]; exact h.cell k hk⟩⟩
    obtain ⟨g', c', e, _, hl⟩ := h.form h0
    simp at e
    rw [e.1]; exact hl

theorem zeros3 (n : Nat) : (madeCells #[.int .i64 0, .int .i64 0, .int .i64 0] n).toList = ints (List.replicate n 0) := by
  apply List.ext_getElem
  · simp [size_madeCells, ints]
  · intro i h1 h2
    have : i % 3 < 3 := Nat.mod_lt _ (by omega)
    simp only [ints, List.getElem_map, List.getElem_replicate, madeCells, Array.toList_map, Array.toList_range, List.getElem_range]
    match hh : i % 3, this with
    | 0, _ => simp
    | 1, _ => simp
    | 2, _ => simp
theorem edge_info : (Try.prog.info? 54).map (fun i => (i.zero, i.size, i.bytes)) = some (some (.agg #[.int .i64 0, .int .i64 0, .int .i64 0]), 3, 24) := by kernel_rfl
theorem rowP_zeros (w : World) (n : Nat) (hn : n ≤ maxLen) : RowP (w.alloc (.cells (madeCells #[.int .i64 0, .int .i64 0, .int .i64 0] (n * 3)) 54)) w.heap.size (.slice (some ⟨w.heap.size, 0, none⟩) n n) n (List.replicate (n * 3) 0) := by
  have := World.ownsRow_lit (base := w.heap.size) (e := 54) (size := 3) w (madeCells #[.int .i64 0, .int .i64 0, .int .i64 0] (n * 3)) n (Nat.le_refl _) hn (by rw [size_madeCells])
  unfold RowP
  rw [← zeros3]
  exact this

def GivesP (w : World) (n : Nat) (xs : List Int) (e : Ending) (w' : World) : Prop := ∃ v, e = .returned v ∧ RowP w' w.heap.size v n xs ∧ Below w.heap.size w w'

/-- Behind marking: the numbers hold k0, k0 + 1, ..; nothing else that was there has turned. -/
def MarksP (w : World) (B : Nat) (v : Value) (n : Nat) (k0 : Int) (e : Ending) (w' : World) : Prop :=
  e = .returned (.int .i64 (k0 + (n : Int) * 3)) ∧ RowP w' B v n (marks k0 (n * 3)) ∧ w.grownBy w' v.ownBlock

end Go.Proofs.Ytdgkgnlilcbggaa
