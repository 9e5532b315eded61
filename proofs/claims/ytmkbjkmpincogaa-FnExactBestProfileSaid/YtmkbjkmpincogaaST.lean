/-
  Tables with a row for each column, laid behind each other in one block: plain facts; made, in the program.
-/
import Derived.Test.YtmkbjkmpincogaaSQ
import Derived.Test.YtmkbjkmpincogaaSO
import Derived.BigRegion
namespace Go.Proofs.Ytmkbjkmpincogaa
open Go.RowKit
set_option linter.unusedVariables false

/-- The row of column c, as a slice. -/
def rowV (p : List Int) (g c : Nat) : Value := .slice (some ⟨g, offT p c, none⟩) (Lp p c) (Lp p c)
/-- The slices of the first k columns of n; the others are nil. -/
def tabV (p : List Int) (g n k : Nat) : List Value := (List.range n).map fun c => if c < k then rowV p g c else .slice none 0 0
theorem tabV_len (p : List Int) (g n k : Nat) : (tabV p g n k).length = n := by simp [tabV]
theorem tabV_at (p : List Int) (g : Nat) {n k c : Nat} (h : c < n) : (tabV p g n k)[c]? = some (if c < k then rowV p g c else .slice none 0 0) := by simp [tabV, h]
theorem tabV_set (p : List Int) (g : Nat) {n k : Nat} (h : k < n) : (tabV p g n k).set k (rowV p g k) = tabV p g n (k + 1) := by
  apply List.ext_getElem
  · simp [tabV]
  · intro i h1 h2
    simp only [tabV, List.getElem_set, List.getElem_map, List.getElem_range]
    by_cases e : k = i
    · subst e; simp
    · simp only [e, if_false]
      by_cases c : i < k
      · simp [c, show i < k + 1 by omega]
      · simp [c, show ¬ i < k + 1 by omega]
theorem tabV_zero (p : List Int) (g n : Nat) : tabV p g n 0 = List.replicate n (.slice none 0 0) := by
  apply List.ext_getElem
  · simp [tabV]
  · intro i h1 h2; simp [tabV]
/-- A table: the block b of slices, the block g of cells that hold xs. -/
structure Tab (w : World) (B b g : Nat) (p : List Int) (n k : Nat) (xs : List Int) : Prop where
  tab : w.ownsRow B 27 1 (.slice (some ⟨b, 0, none⟩) n n) n (tabV p g n k)
  row : Row w B (.slice (some ⟨g, 0, none⟩) (offT p n) (offT p n)) xs
  len : xs.length = offT p n
theorem Tab.below {w w' : World} {B b g : Nat} {p : List Int} {n k : Nat} {xs : List Int} (h : Tab w B b g p n k xs) (hb : Below w.heap.size w w') : Tab w' B b g p n k xs :=
  ⟨World.ownsRow.kept (row := none) h.tab ⟨hb.os, hb.tape, hb.output, hb.size, fun k hk _ => hb.block k hk⟩ (by simp [Value.ownBlock]), h.row.below hb, h.len⟩
theorem Tab.mono {w : World} {B B' b g : Nat} {p : List Int} {n k : Nat} {xs : List Int} (h : Tab w B b g p n k xs) (hB : B' ≤ B) : Tab w B' b g p n k xs := ⟨h.tab.mono hB, h.row.mono hB, h.len⟩
theorem Tab.ne {w : World} {B b g : Nat} {p : List Int} {n k : Nat} {xs : List Int} (h : Tab w B b g p n k xs) : b ≠ g := fun e => own_types h.tab h.row (by decide) (k := b) rfl (by rw [e]; rfl)
theorem Tab.cell {w : World} {B b g : Nat} {p : List Int} {n k : Nat} {xs : List Int} (h : Tab w B b g p n k xs) {c : Nat} (hc : c < n) (hk : c < k) : w.cell? ⟨b, c, none⟩ = some (rowV p g c) := by
  rw [World.ownsRow.cellAt h.tab c (by omega), tabV_at p g hc, if_pos hk]
theorem Tab.at_ {w : World} {B b g : Nat} {p : List Int} {n k : Nat} {xs : List Int} (h : Tab w B b g p n k xs) {i : Nat} (hi : i < offT p n) : w.cell? ⟨g, i, none⟩ = some (.int .i64 (xs.getD i 0)) ∧ w.frozen? ⟨g, i, none⟩ = false ∧ g < w.heap.size :=
  ⟨(row_cl h.len h.row hi).1, row_fz h.len h.row i, (row_cl h.len h.row hi).2⟩
theorem Tab.set_ {w : World} {B b g : Nat} {p : List Int} {n k : Nat} {xs : List Int} (h : Tab w B b g p n k xs) (i : Nat) (t : Int) : Tab (w.setCell ⟨g, i, none⟩ (.int .i64 t)) B b g p n k (xs.set i t) := by
  have hs := Row.set_ h.len.symm h.row i t
  exact ⟨World.ownsRow.kept h.tab hs.2 (.inr (by simp [Value.ownBlock]; exact h.ne)), hs.1, by rw [List.length_set]; exact h.len⟩
theorem Tab.far {w w' : World} {B b g r : Nat} {p : List Int} {n k : Nat} {xs : List Int} (h : Tab w B b g p n k xs) (hg : w.grownBy w' (some r)) (h1 : r ≠ b) (h2 : r ≠ g) : Tab w' B b g p n k xs :=
  ⟨World.ownsRow.kept h.tab hg (.inr (by simp [Value.ownBlock]; exact fun e => h1 e.symm)), World.ownsRow.kept h.row hg (.inr (by simp [Value.ownBlock]; exact fun e => h2 e.symm)), h.len⟩
theorem Tab.draws {w : World} {B b g : Nat} {p : List Int} {n k : Nat} {xs : List Int} (h : Tab w B b g p n k xs) : Tab w.drew B b g p n k xs := ⟨h.tab, h.row, h.len⟩
theorem Tab.lt {w : World} {B b g : Nat} {p : List Int} {n k : Nat} {xs : List Int} (h : Tab w B b g p n k xs) : B ≤ b ∧ b < w.heap.size ∧ B ≤ g ∧ g < w.heap.size :=
  ⟨(World.ownsRow.lt h.tab b rfl).1, (World.ownsRow.lt h.tab b rfl).2, (World.ownsRow.lt h.row g rfl).1, (World.ownsRow.lt h.row g rfl).2⟩
/-- The cell of column c and depth d. -/
theorem place_lt {p : List Int} {n c d : Nat} (hc : c < n) (hd : d < Lp p c) : offT p c + d < offT p n := by
  have := offT_far p hc; omega
theorem getD_setI {xs : List Int} {i j : Nat} {t : Int} (hi : i < xs.length) : (xs.set i t).getD j 0 = if j = i then t else xs.getD j 0 := set_getD hi
theorem off_pre {p : List Int} {n D : Nat} (hp : Pro p n D) : ∀ c, c ≤ n → ((offT p c : Nat) : Int) = preS p c + (c : Int)
  | 0, _ => rfl
  | c + 1, h => by
    have ih := off_pre hp c (by omega)
    have := hp.box c (by omega)
    rw [offT, preS]
    unfold Lp
    omega
theorem lim_tame {p : List Int} {n D : Nat} (hp : Pro p n D) (hn : n ≤ 8) (hD : D ≤ 6) : Tame p := tame_small (by have := hp.len; omega) fun i hi => by
  have := hp.box i (by have := hp.len; omega)
  omega

set_option maxHeartbeats 4000000 in
set_option maxRecDepth 20000 in
theorem c_depthTable (p : List Int) (n D : Nat) (u : Value) (w : World) (hq : Pro p n D) (n1 : 1 ≤ n) (n2 : n ≤ 8) (D2 : D ≤ 6) (hp : Seen w u p) :
    Calls Try.prog 84 #[u] w fun e w' => ∃ b g, e = .returned (.slice (some ⟨b, 0, none⟩) n n) ∧ Tab w' w.heap.size b g p n n (List.replicate (offT p n) 0) ∧ Below w.heap.size w w' := by
  have H1 := Lib.hid (c_sumOf p u w (by have := hq.len; omega) (lim_tame hq n2 D2) hp)
  rw [hq.len] at H1
  obtain ⟨A2, c2, rfl, _, hA⟩ := hp
  rw [hq.len] at hA H1 ⊢
  have E1 : Hid (∀ k : Nat, k < n → ∃ b off, A2 = some ⟨b, off, none⟩ ∧ b < w.heap.size ∧ w.cell? ⟨b, off + k, none⟩ = some (.int .i64 (p.getD k 0))) := fun k hk => by
    obtain ⟨b, off, rfl, hl, hc⟩ := hA (by omega)
    exact ⟨b, off, rfl, hl, hc k hk⟩
  obtain ⟨T, hT⟩ : ∃ T, offT p n = T := ⟨_, rfl⟩
  have hT1 : T ≤ 56 := by have := offT_box hq D2 n (Nat.le_refl _); omega
  have hTS : preS p n + (n : Int) = (T : Int) := by have := off_pre hq n (Nat.le_refl _); omega
  have HL : Hid (∀ c, c < n → 1 ≤ Lp p c ∧ Lp p c ≤ 7 ∧ ((Lp p c : Nat) : Int) = p.getD c 0 + 1) := fun c hc => Lp_box hq D2 hc
  have HO : Hid (∀ c, c < n → offT p c + Lp p c ≤ T ∧ offT p (c + 1) = offT p c + Lp p c) := fun c hc => ⟨by rw [← hT]; exact offT_far p hc, rfl⟩
  have HO0 : Hid (offT p 0 = 0) := rfl
  obtain ⟨i0, hi0, hz0, hz1, hz2⟩ := info_parts int_info
  obtain ⟨j0, hj0, jz0, jz1, jz2⟩ := info_parts list_info
  have HMK : Hid (∀ W : World, (Instr.makeSlice 27 (.int .i64 (T : Int)) (.int .i64 (T : Int))).run Try.prog W = .ok (.slice (some ⟨W.heap.size, 0, none⟩) T T) (W.alloc (.cells (madeCells #[.int .i64 0] T) 3))) := fun W => by
    have := run_make (P := Try.prog) W 27 3 i0 (.int .i64 0) Try.underlying27 hi0 hz0 .i64 .i64 (T : Int) (T : Int) (by omega) (by omega) (by rw [hz2]; omega) (by omega)
    simpa [hz1, Value.cells] using this
  have HMA : Hid (∀ W : World, (Instr.makeSlice 22 (.int .i64 (n : Int)) (.int .i64 (n : Int))).run Try.prog W = .ok (.slice (some ⟨W.heap.size, 0, none⟩) n n) (W.alloc (.cells (madeCells #[.slice none 0 0] n) 27))) := fun W => by
    have := run_make (P := Try.prog) W 22 27 j0 (.slice none 0 0) Try.underlying22 hj0 jz0 .i64 .i64 (n : Int) (n : Int) (by omega) (by omega) (by rw [jz2]; omega) (by omega)
    simpa [jz1, Value.cells] using this
  have hm1 := HMK.out w
  have hm2 := HMA.out (w.alloc (.cells (madeCells #[.int .i64 0] T) 3))
  obtain ⟨W1, hW1⟩ : ∃ W1, w.alloc (.cells (madeCells #[.int .i64 0] T) 3) = W1 := ⟨_, rfl⟩
  obtain ⟨W2, hW2⟩ : ∃ W2, W1.alloc (.cells (madeCells #[.slice none 0 0] n) 27) = W2 := ⟨_, rfl⟩
  have b01 : Below w.heap.size w W1 := by rw [← hW1]; exact (Below.refl _ _).alloc (Nat.le_refl _) _
  have b12 : Below W1.heap.size W1 W2 := by rw [← hW2]; exact (Below.refl _ _).alloc (Nat.le_refl _) _
  have HB2 : Hid (Below w.heap.size w W2) := b01.trans (b12.mono b01.size)
  have hs1 : W1.heap.size = w.heap.size + 1 := by rw [← hW1]; simp
  have HT2 : Hid (Tab W2 w.heap.size W1.heap.size w.heap.size p n 0 (List.replicate (offT p n) 0)) := by
    refine ⟨?_, ?_, by simp⟩
    · have := World.ownsRow_lit (base := w.heap.size) (e := 27) (size := 1) W1 (madeCells #[.slice none 0 0] n) n (by omega) (by unfold maxLen; omega) (by rw [size_madeCells]; simp)
      rw [hW2] at this
      rw [tabV_zero, ← nils]
      exact this
    · have := row_zeros w T (by unfold maxLen; omega)
      rw [hW1] at this
      rw [hT]
      exact this.below b12
  rw [hW1] at hm1 hm2
  rw [hW2] at hm2
  clear hi0 hj0 hA HMK HMA
  go_enter Try.func84, Try.ntmps84
  go_wp2_with fail
  refine H1.out.mono ?_
  rintro e w1 ⟨rfl, rfl⟩
  rw [hs1] at hm2
  go_wp2_with fail
  clear hm1 hm2
  have hg2 : w.heap.size < W2.heap.size := by have := HT2.out.lt; omega
  rw [hs1] at HT2
  clear hs1 hW1 hW2
  go_loopw [5, 20] (fun s i wr => ∃ k : Nat, k ≤ n ∧ i = .int .i64 k ∧ s = .int .i64 ((offT p k : Nat) : Int) ∧ Tab wr w.heap.size (w.heap.size + 1) w.heap.size p n k (List.replicate (offT p n) 0) ∧ Below w.heap.size w wr) (fun _ i _ => n - (intOf i).toNat)
  case atStart => exact ⟨0, Nat.zero_le _, rfl, rfl, HT2.out, HB2.out⟩
  case round =>
    obtain ⟨k, hk, rfl, rfl, ht, hb⟩ := hrel
    have HTk := Lib.hid ht
    have HB := Lib.hid hb
    clear ht hb
    by_cases hlt : k < n
    · obtain ⟨bb, off, rfl, hbl, q0⟩ := E1.out k hlt
      rw [← HB.out.cell (p := ⟨bb, off + k, none⟩) hbl] at q0
      obtain ⟨l1, l2, l3⟩ := HL.out k hlt
      obtain ⟨o1, o2⟩ := HO.out k hlt
      obtain ⟨M, hM⟩ : ∃ M : Nat, Lp p k = M + 1 := ⟨Lp p k - 1, by omega⟩
      have hpk : p.getD k 0 = (M : Int) := by omega
      rw [hpk] at q0
      have b1 : (0 : Int) ≤ (k : Int) := by omega
      have b2 : (k : Int) < (n : Int) := by omega
      have hst := World.ownsRow.stored HTk.out.tab k (rowV p w.heap.size k)
      rw [tabV_set p w.heap.size hlt] at hst
      have ff : wr.frozen? ⟨w.heap.size + 1, k, none⟩ = false := World.ownsRow.frozenAt HTk.out.tab k
      obtain ⟨cv, fc⟩ : ∃ v, wr.cell? ⟨w.heap.size + 1, k, none⟩ = some v := ⟨_, by rw [World.ownsRow.cellAt HTk.out.tab k (by omega), tabV_at p w.heap.size hlt]⟩
      have HN : Hid (Tab (wr.setCell ⟨w.heap.size + 1, k, none⟩ (rowV p w.heap.size k)) w.heap.size (w.heap.size + 1) w.heap.size p n (k + 1) (List.replicate (offT p n) 0)) := ⟨hst.1, World.ownsRow.kept HTk.out.row hst.2 (.inr (by simp [Value.ownBlock])), HTk.out.len⟩
      have HBN : Hid (Below w.heap.size w (wr.setCell ⟨w.heap.size + 1, k, none⟩ (rowV p w.heap.size k))) := HB.out.setCell (by show w.heap.size ≤ w.heap.size + 1; omega) _
      unfold rowV at HN HBN
      rw [hM] at HN HBN o1
      rw [hM] at o2
      have HO2 := Lib.hid o2
      clear o2
      clear hst hpk l3 l1
      generalize offT p k = S at *
      have b3 : (0 : Int) ≤ (S : Int) := by omega
      have b4 : (S : Int) + (M : Int) + 1 ≤ (T : Int) := by omega
      have e9 : S + M + 1 - S = M + 1 := by omega
      go_wp2
      go_roundw
      case rel => exact ⟨k + 1, by omega, by go_num, by rw [HO2.out]; go_num, HN.out, HBN.out⟩
      case measure => simp [intOf]; omega
    · obtain rfl : k = n := by omega
      go_wp2
      go_ret
      exact ⟨_, _, rfl, HTk.out, HB.out⟩
end Go.Proofs.Ytmkbjkmpincogaa
