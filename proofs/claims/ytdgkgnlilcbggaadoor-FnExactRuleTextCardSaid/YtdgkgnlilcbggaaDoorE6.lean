/-
  Contracts of the law's own helpers over lists of parts of rules: lists copied, measured, compared and marked. A list of n parts is told by its 2 n numbers, one behind the other.
-/
import Derived.Test.YtdgkgnlilcbggaaDoorC6
import Derived.Test.YtdgkgnlilcbggaaDoorM1
import Derived.Test.YtdgkgnlilcbggaaDoorE1
import Derived.Test.YtdgkgnlilcbggaaDoorGrow
namespace Go.Proofs.YtdgkgnlilcbggaaDoor
open Go.RowKit
set_option linter.unusedVariables false

/-- The slice v is a list of n parts of the call's own, in memory from block B on; xs: their numbers. -/
def RowP (w : World) (B : Nat) (v : Value) (n : Nat) (xs : List Int) : Prop := w.ownsRow B 33 2 v n (ints xs)
theorem RowP.len {w : World} {B n : Nat} {v : Value} {xs : List Int} (h : RowP w B v n xs) : xs.length = n * 2 := by
  have := h.1; rw [ints_len] at this; exact this
theorem RowP.below {w w' : World} {B n : Nat} {v : Value} {xs : List Int} (h : RowP w B v n xs) (hb : Below w.heap.size w w') : RowP w' B v n xs :=
  World.ownsRow.kept (row := none) h ⟨hb.os, hb.tape, hb.output, hb.size, fun k hk _ => hb.block k hk⟩ (by cases v.ownBlock <;> simp)
theorem RowP.mono {w : World} {B B' n : Nat} {v : Value} {xs : List Int} (h : RowP w B v n xs) (hB : B' ≤ B) : RowP w B' v n xs := World.ownsRow.mono h hB
theorem RowP.draws {w : World} {B n : Nat} {v : Value} {xs : List Int} (h : RowP w B v n xs) (k : Nat) : RowP (w.drewN k) B v n xs := h
theorem RowP.shape {w : World} {B n : Nat} {v : Value} {xs : List Int} (h : RowP w B v n xs) : ∃ A c, v = .slice A n c := by
  rcases h.2 with ⟨rfl, h0⟩ | ⟨g, cap, cur, rfl, _⟩
  · exact ⟨none, 0, by rw [h0]⟩
  · exact ⟨_, _, rfl⟩
theorem RowP.form {w : World} {B n : Nat} {v : Value} {xs : List Int} (h : RowP w B v n xs) (h0 : 0 < n) : ∃ g c, v = .slice (some ⟨g, 0, none⟩) n c ∧ B ≤ g ∧ g < w.heap.size := World.ownsRow.form h h0
theorem RowP.cell {w : World} {B g c n : Nat} {xs : List Int} (h : RowP w B (.slice (some ⟨g, 0, none⟩) n c) n xs) (k : Nat) (hk : k < n * 2) : w.cell? ⟨g, k, none⟩ = some (.int .i64 (xs.getD k 0)) := by
  rw [World.ownsRow.cellAt h k hk]
  have := h.len
  have hk' : k < xs.length := by omega
  simp [ints, hk']
theorem RowP.frozen {w : World} {B g c n : Nat} {xs : List Int} (h : RowP w B (.slice (some ⟨g, 0, none⟩) n c) n xs) (k : Nat) : w.frozen? ⟨g, k, none⟩ = false := World.ownsRow.frozenAt h k
theorem RowP.set_ {w : World} {B g c n : Nat} {xs : List Int} (h : RowP w B (.slice (some ⟨g, 0, none⟩) n c) n xs) (j : Nat) (u : Int) :
    RowP (w.setCell ⟨g, j, none⟩ (.int .i64 u)) B (.slice (some ⟨g, 0, none⟩) n c) n (xs.set j u) ∧ w.grownBy (w.setCell ⟨g, j, none⟩ (.int .i64 u)) (some g) := by
  have := World.ownsRow.stored h j (.int .i64 u)
  refine ⟨?_, this.2⟩
  unfold RowP
  rw [show ints (xs.set j u) = (ints xs).set j (.int .i64 u) by simp [ints, List.map_set]]
  exact this.1

/-- The slice v reads as n parts. -/
def SeenP (w : World) (v : Value) (n : Nat) (xs : List Int) : Prop :=
  ∃ A c, v = .slice A n c ∧ n ≤ maxLen ∧ xs.length = n * 2 ∧ (0 < n → ∃ b off, A = some ⟨b, off, none⟩ ∧ b < w.heap.size ∧ ∀ k : Nat, k < n * 2 → w.cell? ⟨b, off + k, none⟩ = some (.int .i64 (xs.getD k 0)))
theorem SeenP.below {w w' : World} {v : Value} {n : Nat} {xs : List Int} (h : SeenP w v n xs) (hb : Below w.heap.size w w') : SeenP w' v n xs := by
  obtain ⟨A, c, rfl, hm, hl, h⟩ := h
  refine ⟨A, c, rfl, hm, hl, fun h0 => ?_⟩
  obtain ⟨b, off, rfl, hlt, hc⟩ := h h0
  exact ⟨b, off, rfl, Nat.lt_of_lt_of_le hlt hb.size, fun k hk => by rw [hb.cell (p := ⟨b, off + k, none⟩) hlt]; exact hc k hk⟩
theorem RowP.seen {w : World} {B n : Nat} {v : Value} {xs : List Int} (h : RowP w B v n xs) : SeenP w v n xs := by
  have hl := h.len
  rcases h.2 with ⟨rfl, h0⟩ | ⟨g, cap, cur, rfl, _, hg, hn, hm, _⟩
  · subst h0
    exact ⟨none, 0, rfl, by omega, by simpa using hl, fun h1 => by omega⟩
  · refine ⟨_, _, rfl, by omega, hl, fun h0 => ⟨g, 0, rfl, ?_, fun k hk => by rw [Nat.zero_add]; exact h.cell k hk⟩⟩
    obtain ⟨g', c', e, _, hl⟩ := h.form h0
    simp at e
    rw [e.1]; exact hl

theorem zeros2 (n : Nat) : (madeCells #[.int .i64 0, .int .i64 0] n).toList = ints (List.replicate n 0) := by
  apply List.ext_getElem
  · simp [size_madeCells, ints]
  · intro i h1 h2
    have : i % 2 < 2 := Nat.mod_lt _ (by omega)
    simp only [ints, List.getElem_map, List.getElem_replicate, madeCells, Array.toList_map, Array.toList_range, List.getElem_range]
    match hh : i % 2, this with
    | 0, _ => simp
    | 1, _ => simp
theorem part_info : (Tryd.prog.info? 33).map (fun i => (i.zero, i.size, i.bytes)) = some (some (.agg #[.int .i64 0, .int .i64 0]), 2, 16) := by kernel_rfl
theorem rowP_zeros (w : World) (n : Nat) (hn : n ≤ maxLen) : RowP (w.alloc (.cells (madeCells #[.int .i64 0, .int .i64 0] (n * 2)) 33)) w.heap.size (.slice (some ⟨w.heap.size, 0, none⟩) n n) n (List.replicate (n * 2) 0) := by
  have := World.ownsRow_lit (base := w.heap.size) (e := 33) (size := 2) w (madeCells #[.int .i64 0, .int .i64 0] (n * 2)) n (Nat.le_refl _) hn (by rw [size_madeCells])
  unfold RowP
  rw [← zeros2]
  exact this

def GivesP (w : World) (n : Nat) (xs : List Int) (e : Ending) (w' : World) : Prop := ∃ v, e = .returned v ∧ RowP w' w.heap.size v n xs ∧ Below w.heap.size w w'

set_option maxHeartbeats 2000000 in
theorem c_toPartS (n : Nat) (xs : List Int) (v : Value) (w : World) (hl : n ≤ 1048576) (h : SeenP w v n xs) :
    Calls Tryd.prog 6 #[v] w (GivesP w n xs) := by
  obtain ⟨i0, hi0, hz0, hz1, hz2⟩ := info_parts part_info
  obtain ⟨A, c, rfl, hm, hx, hA⟩ := h
  have hmk : (Instr.makeSlice 26 (.int .i64 (n : Int)) (.int .i64 (n : Int))).run Tryd.prog w = .ok (.slice (some ⟨w.heap.size, 0, none⟩) n n) (w.alloc (.cells (madeCells #[.int .i64 0, .int .i64 0] (n * 2)) 33)) := by
    have := run_make (P := Tryd.prog) w 26 33 i0 (.agg #[.int .i64 0, .int .i64 0]) Tryd.underlying26 hi0 hz0 .i64 .i64 (n : Int) (n : Int) (by omega) (by omega) (by rw [hz2]; omega) (by omega)
    simpa [hz1, Value.cells] using this
  have H0 : Hid (RowP (w.alloc (.cells (madeCells #[.int .i64 0, .int .i64 0] (n * 2)) 33)) w.heap.size (.slice (some ⟨w.heap.size, 0, none⟩) n n) n (half xs 0)) := by rw [half_zero, hx]; exact rowP_zeros w _ hm
  have HS : Hid (∀ j, j < n * 2 → (half xs j).set j (xs.getD j 0) = half xs (j + 1)) := fun j hj => half_set xs j (by omega)
  have HA : Hid (half xs (n * 2) = xs) := by rw [← hx]; exact half_all xs
  have HC : Hid (0 < n → ∃ b off, A = some ⟨b, off, none⟩ ∧ b < w.heap.size ∧ ∀ k : Nat, k < n * 2 → w.cell? ⟨b, off + k, none⟩ = some (.int .i64 (xs.getD k 0))) := hA
  clear hA hi0 hz0 hz1 hz2 hm hx
  generalize half xs = M at *
  go_enter Tryd.func6, Tryd.ntmps6
  go_wp2
  clear hmk
  go_loopw [4] (fun i wr => ∃ k : Nat, k ≤ n ∧ i = .int .i64 k ∧ RowP wr w.heap.size (.slice (some ⟨w.heap.size, 0, none⟩) n n) n (M (k * 2)) ∧ Below w.heap.size w wr ∧ w.heap.size < wr.heap.size) (fun i _ => n - (intOf i).toNat)
  case atStart => exact ⟨0, Nat.zero_le _, rfl, by simpa using H0.out, (Below.refl _ _).alloc (Nat.le_refl _) _, by simp⟩
  case round =>
    obtain ⟨k, hk, rfl, hr, hb, hs⟩ := hrel
    have HR := Lib.hid hr
    have HB := Lib.hid hb
    clear hr hb
    by_cases hlt : k < n
    · obtain ⟨b, off, rfl, hbl, hcc⟩ := HC.out (by omega)
      have q0 : wr.cell? ⟨b, off + k * 2, none⟩ = some (.int .i64 (xs.getD (k * 2) 0)) := by rw [HB.out.cell (p := ⟨b, off + k * 2, none⟩) hbl]; exact hcc _ (by omega)
      have q1 : wr.cell? ⟨b, off + k * 2 + 1, none⟩ = some (.int .i64 (xs.getD (k * 2 + 1) 0)) := by rw [HB.out.cell (p := ⟨b, off + k * 2 + 1, none⟩) hbl]; exact hcc (k * 2 + 1) (by omega)
      clear hcc
      have S1 : Hid ((M (k * 2)).set (k * 2) (xs.getD (k * 2) 0) = M (k * 2 + 1)) := HS.out _ (by omega)
      have S2 : Hid ((M (k * 2 + 1)).set (k * 2 + 1) (xs.getD (k * 2 + 1) 0) = M (k * 2 + 1 + 1)) := HS.out _ (by omega)
      have e3 : Hid (M (k * 2 + 1 + 1) = M ((k + 1) * 2)) := by unfold Hid; congr 1; omega
      generalize xs.getD (k * 2) 0 = t at *
      generalize xs.getD (k * 2 + 1) 0 = m at *
      have b1 : (0 : Int) ≤ (k : Int) := by omega
      have b2 : (k : Int) < (n : Int) := by omega
      go_wp2_with fail
      refine (c_toPart _ _ _).mono ?_
      rintro e w2 ⟨rfl, hb2⟩
      have HR2 := Lib.hid (HR.out.below hb2)
      have HB2 : Hid (Below w.heap.size w w2) := HB.out.trans (hb2.mono HB.out.size)
      have hs2 : w.heap.size < w2.heap.size := Nat.lt_of_lt_of_le hs hb2.size
      clear hb2
      have N1 := Lib.hid (HR2.out.set_ (k * 2) t).1
      rw [S1.out] at N1
      have N2 := Lib.hid (N1.out.set_ (k * 2 + 1) m).1
      rw [S2.out, e3.out] at N2
      have NB : Hid (Below w.heap.size w ((w2.setCell ⟨w.heap.size, k * 2, none⟩ (.int .i64 t)).setCell ⟨w.heap.size, k * 2 + 1, none⟩ (.int .i64 m))) := (HB2.out.setCell (Nat.le_refl _) _).setCell (Nat.le_refl _) _
      have p0 := HR2.out.cell (k * 2) (by omega)
      have p1 := HR2.out.cell (k * 2 + 1) (by omega)
      have f0 := HR2.out.frozen (k * 2)
      have f1 := HR2.out.frozen (k * 2 + 1)
      generalize (M (k * 2)).getD (k * 2) 0 = y0 at *
      generalize (M (k * 2)).getD (k * 2 + 1) 0 = y1 at *
      go_wp2
      go_roundw
      case rel => exact ⟨k + 1, by omega, by go_num, N2.out, NB.out, by simpa using hs2⟩
      case measure => simp [intOf]; omega
    · obtain rfl : k = n := by omega
      go_wp2
      go_ret
      exact ⟨_, rfl, by have := HR.out; rw [HA.out] at this; exact this, HB.out⟩

set_option maxHeartbeats 400000 in
theorem c_szPartS (A : Option Addr) (n c : Nat) (left : Int) (w : World) (h1 : 0 ≤ left) (h2 : left ≤ 1048576) (hn : n ≤ 9223372036854775807) :
    Calls Tryd.prog 4 #[.slice A n c, .int .i64 left] w fun e w' => e = .returned (.int .i64 (if (n : Int) ≤ left then left - n else -1)) ∧ w = w' := by
  by_cases h : (n : Int) ≤ left
  · rw [if_pos h]
    go_enter Tryd.func4, Tryd.ntmps4
    go_wp2
    go_ret
    exact ⟨rfl, rfl⟩
  · rw [if_neg h]
    go_enter Tryd.func4, Tryd.ntmps4
    go_wp2
    go_ret
    exact ⟨rfl, rfl⟩

set_option maxHeartbeats 4000000 in
theorem c_eqPartS (n : Nat) (xs : List Int) (v1 v2 : Value) (B1 B2 : Nat) (w : World) (hl : n ≤ 1048576) (h1 : RowP w B1 v1 n xs) (h2 : RowP w B2 v2 n xs) :
    Calls Tryd.prog 8 #[v1, v2] w fun e w' => e = .returned (.bool true) ∧ Below w.heap.size w w' := by
  by_cases h0 : n = 0
  · subst h0
    obtain ⟨A1, c1, rfl⟩ := h1.shape
    obtain ⟨A2, c2, rfl⟩ := h2.shape
    clear h1 h2 hl
    go_enter Tryd.func8, Tryd.ntmps8
    go_wp2
    go_rounds 1
    go_ret
    exact ⟨rfl, Below.refl _ _⟩
  · obtain ⟨g1, c1, rfl, _, lt1⟩ := h1.form (by omega)
    obtain ⟨g2, c2, rfl, _, lt2⟩ := h2.form (by omega)
    have E1 : Hid (∀ k : Nat, k < n * 2 → w.cell? ⟨g1, k, none⟩ = some (.int .i64 (xs.getD k 0))) := h1.cell
    have E2 : Hid (∀ k : Nat, k < n * 2 → w.cell? ⟨g2, k, none⟩ = some (.int .i64 (xs.getD k 0))) := h2.cell
    have hne : ((n : Int) != (n : Int)) = false := by simp
    clear h1 h2 h0
    go_enter Tryd.func8, Tryd.ntmps8
    go_wp2_with fail
    go_loopw [5] (fun i wr => ∃ k : Nat, k ≤ n ∧ i = .int .i64 k ∧ Below w.heap.size w wr) (fun i _ => n - (intOf i).toNat)
    case atStart => exact ⟨0, Nat.zero_le _, rfl, Below.refl _ _⟩
    case round =>
      obtain ⟨k, hk, rfl, hbw⟩ := hrel
      have HB := Lib.hid hbw
      clear hbw
      by_cases hlt : k < n
      · have gg1 : g1 < wr.heap.size := Nat.lt_of_lt_of_le lt1 HB.out.size
        have gg2 : g2 < wr.heap.size := Nat.lt_of_lt_of_le lt2 HB.out.size
        have C : Hid (∀ j : Nat, j < n * 2 → wr.cell? ⟨g1, j, none⟩ = some (.int .i64 (xs.getD j 0)) ∧ wr.cell? ⟨g2, j, none⟩ = some (.int .i64 (xs.getD j 0))) := fun j hj => ⟨by rw [HB.out.cell (p := ⟨g1, j, none⟩) lt1]; exact E1.out j hj, by rw [HB.out.cell (p := ⟨g2, j, none⟩) lt2]; exact E2.out j hj⟩
        obtain ⟨p0, q0⟩ := C.out (k * 2) (by omega)
        obtain ⟨p1, q1⟩ := C.out (k * 2 + 1) (by omega)
        generalize xs.getD (k * 2) 0 = t at *
        generalize xs.getD (k * 2 + 1) 0 = m at *
        have b1 : (0 : Int) ≤ (k : Int) := by omega
        have b2 : (k : Int) < (n : Int) := by omega
        go_wp2_with fail
        refine wp_region_grow (by kernel_rfl) (by kernel_rfl) ?_
        repeat (go_big_quiet_step ((go_at_call 14; exact grow_of (c_eqPart _ _ _))))
        refine wpQuiet_nil ?_
        intro _ hw'
        obtain ⟨u, hw''⟩ := hw'
        subst hw''
        have hb2 := wOf_below wr u
        generalize wOf wr u = w2 at hb2 ⊢
        have HB2 : Hid (Below w.heap.size w w2) := HB.out.trans (hb2.mono HB.out.size)
        clear hb2
        go_wp2
        go_roundw
        case rel => exact ⟨k + 1, by omega, by go_num, HB2.out⟩
        case measure => simp [intOf]; omega
      · obtain rfl : k = n := by omega
        go_wp2
        go_ret
        exact ⟨rfl, HB.out⟩

/-- Behind marking: the numbers hold k0, k0 + 1, ..; nothing else that was there has turned. -/
def MarksP (w : World) (B : Nat) (v : Value) (n : Nat) (k0 : Int) (e : Ending) (w' : World) : Prop :=
  e = .returned (.int .i64 (k0 + (n : Int) * 2)) ∧ RowP w' B v n (marks k0 (n * 2)) ∧ w.grownBy w' v.ownBlock

end Go.Proofs.YtdgkgnlilcbggaaDoor
