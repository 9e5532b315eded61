/-
  A model marked: block by block.
-/
import Derived.Test.YtglcdgonbmdhoaaM11
import Derived.Test.YtglcdgonbmdhoaaR8
namespace Go.Proofs.Ytglcdgonbmdhoaa
open Go.RowKit
set_option linter.unusedVariables false

def Chain (w w' : World) (o1 o2 o3 : Option Nat) : Prop := ∃ w0 wa wb, Below w.heap.size w w0 ∧ w0.grownBy wa o1 ∧ wa.grownBy wb o2 ∧ wb.grownBy w' o3
theorem Chain.turned {w w' : World} {o1 o2 o3 : Option Nat} (h : Chain w w' o1 o2 o3) : Turned w w' o1 o2 o3 := by
  obtain ⟨w0, wa, wb, h0, h1, h2, h3⟩ := h
  exact Turned.of h0 h1 h2 h3
theorem Chain.block {w w' : World} {o1 o2 o3 : Option Nat} (h : Chain w w' o1 o2 o3) {k : Nat} (hk : k < w.heap.size) (n1 : o1 ≠ some k) (n2 : o2 ≠ some k) (n3 : o3 ≠ some k) : w'.heap[k]? = w.heap[k]? := by
  obtain ⟨w0, wa, wb, h0, h1, h2, h3⟩ := h
  have s0 := h0.size
  have s1 := h1.size
  have s2 := h2.size
  rw [h3.block k (by omega) (fun e => n3 e.symm), h2.block k (by omega) (fun e => n2 e.symm), h1.block k (by omega) (fun e => n1 e.symm), h0.block k hk]
theorem Box6.under {w w' : World} {b B : Nat} {x y z : Int} {v1 v2 v3 : Value} (h : Box6 w b x y z v1 v2 v3) (hb : Below B w w') (hB : b < B) : Box6 w' b x y z v1 v2 v3 :=
  ⟨Nat.lt_of_lt_of_le h.lt hb.size, by rw [hb.cell (p := ⟨b, 0, none⟩) hB]; exact h.c0, by rw [hb.cell (p := ⟨b, 1, none⟩) hB]; exact h.c1, by rw [hb.cell (p := ⟨b, 2, none⟩) hB]; exact h.c2,
    by rw [hb.cell (p := ⟨b, 3, none⟩) hB]; exact h.c3, by rw [hb.cell (p := ⟨b, 4, none⟩) hB]; exact h.c4, by rw [hb.cell (p := ⟨b, 5, none⟩) hB]; exact h.c5⟩
theorem levN_at (x y z : Int) (ts gs : List Int) (n : Nat) {i : Nat} (h : i < n) : ((levN x y z ts gs n).getD i []).length = 2 := by simp [levN, levS, h]
theorem tot_two {xss : List (List Int)} : ∀ {n : Nat}, (∀ i, i < n → (xss.getD i []).length = 2) → totN xss n = 2 * n
  | 0, _ => rfl
  | n + 1, h => by unfold totN; rw [tot_two fun i hi => h i (by omega), h n (by omega)]; omega
theorem ls_facts (x y z : Int) (ts gs rs : List Int) : (lsL x y z ts gs rs).length ≤ 1000000 ∧ Short (lsL x y z ts gs rs) ∧ totN (lsL x y z ts gs rs) (lsL x y z ts gs rs).length ≤ 1048576 := by
  unfold lsL
  cases hm : moB x y z ts gs rs
  · simp only [Bool.false_eq_true, if_false]
    exact ⟨by simp, fun i hi => by simp at hi, by simp [totN]⟩
  · simp only [if_true]
    obtain ⟨_, _, _, _, z1, z2, _⟩ := good_box (mo_true hm).1
    rw [levN_len]
    refine ⟨by omega, fun i hi => ?_, ?_⟩
    · rw [levN_len] at hi
      rw [levN_at _ _ _ _ _ _ hi]; omega
    · rw [tot_two fun i hi => levN_at x y z ts gs _ hi]; omega

set_option maxHeartbeats 1000000 in
theorem c_markModelG (x y z : Int) (v1 v2 v3 : Value) (ts gs rs : List Int) (B : Nat) (k0 : Int) (w : World) (hl : ts.length + gs.length + rs.length ≤ 1048576) (hk0 : 0 ≤ k0) (hk1 : k0 ≤ 1000000) (h : Mod w B v1 v2 v3 ts gs rs) :
    Calls Try.prog 27 #[.agg #[.int .i64 x, .int .i64 y, .int .i64 z, v1, v2, v3], .int .i64 k0] w fun e w' => e = .returned (.int .i64 (k0 + ts.length + gs.length + rs.length)) ∧ Mod w' B v1 v2 v3 (marks k0 ts.length) (marks (k0 + ts.length) gs.length) (marks (k0 + ts.length + gs.length) rs.length) ∧ Chain w w' v1.ownBlock v2.ownBlock v3.ownBlock := by
  have H := Lib.hid h
  obtain ⟨A1, c1, rfl⟩ := h.t.shape
  obtain ⟨A2, c2, rfl⟩ := h.g.shape
  obtain ⟨A3, c3, rfl⟩ := h.r.shape
  clear h
  have HX0 : Hid (Box6 (w.alloc (.cells #[.int .i64 x, .int .i64 y, .int .i64 z, .slice A1 ts.length c1, .slice A2 gs.length c2, .slice A3 rs.length c3] 32)) w.heap.size x y z (.slice A1 ts.length c1) (.slice A2 gs.length c2) (.slice A3 rs.length c3)) := Box6.new _ _ _ _ _ _ _ _
  have HB0 : Hid (Below w.heap.size w (w.alloc (.cells #[.int .i64 x, .int .i64 y, .int .i64 z, .slice A1 ts.length c1, .slice A2 gs.length c2, .slice A3 rs.length c3] 32))) := (Below.refl _ _).alloc (Nat.le_refl _) _
  have n1 : Hid (∀ b, w.heap.size ≤ b → (Value.slice A1 ts.length c1).ownBlock ≠ some b) := fun b hb => own_ne' (fun k hk => (World.ownsRow.lt H.out.t k hk).2) hb
  have n2 : Hid (∀ b, w.heap.size ≤ b → (Value.slice A2 gs.length c2).ownBlock ≠ some b) := fun b hb => own_ne' (fun k hk => (World.ownsRow.lt H.out.g k hk).2) hb
  have n3 : Hid (∀ b, w.heap.size ≤ b → (Value.slice A3 rs.length c3).ownBlock ≠ some b) := fun b hb => own_ne' (fun k hk => (World.ownsRow.lt H.out.r k hk).2) hb
  go_enter Try.func27, Try.ntmps27
  go_wp2_with fail
  refine (c_markIntS ts _ B k0 _ (by omega) hk0 (by omega) (H.out.t.below HB0.out)).mono ?_
  rintro e w1 ⟨rfl, hr1, hg1⟩
  have HR1 := Lib.hid hr1
  have HG1 := Lib.hid hg1
  clear hr1 hg1
  have HX1 : Hid (Box6 w1 w.heap.size x y z (.slice A1 ts.length c1) (.slice A2 gs.length c2) (.slice A3 rs.length c3)) := HX0.out.grown HG1.out (n1.out _ (Nat.le_refl _))
  have GS1 : Hid (Row w1 B (.slice A2 gs.length c2) gs) := World.ownsRow.kept (H.out.g.below HB0.out) HG1.out H.out.tg.symm
  have RS1 : Hid (Row w1 B (.slice A3 rs.length c3) rs) := World.ownsRow.kept (H.out.r.below HB0.out) HG1.out H.out.tr.symm
  have d3 := HX1.out.c3
  have d4 := HX1.out.c4
  have d5 := HX1.out.c5
  go_wp2_with fail
  refine (c_markIntS gs _ B (k0 + ts.length) _ (by omega) (by omega) (by omega) GS1.out).mono ?_
  rintro e w2 ⟨rfl, hr2, hg2⟩
  have HR2 := Lib.hid hr2
  have HG2 := Lib.hid hg2
  clear hr2 hg2
  have HX2 : Hid (Box6 w2 w.heap.size x y z (.slice A1 ts.length c1) (.slice A2 gs.length c2) (.slice A3 rs.length c3)) := HX1.out.grown HG2.out (n2.out _ (Nat.le_refl _))
  have TS2 : Hid (Row w2 B (.slice A1 ts.length c1) (marks k0 ts.length)) := World.ownsRow.kept HR1.out HG2.out H.out.tg
  have RS2 : Hid (Row w2 B (.slice A3 rs.length c3) rs) := World.ownsRow.kept RS1.out HG2.out H.out.gr.symm
  have e3 := HX2.out.c3
  have e4 := HX2.out.c4
  have e5 := HX2.out.c5
  go_wp2_with fail
  refine (c_markIntS rs _ B (k0 + ts.length + gs.length) _ (by omega) (by omega) (by omega) RS2.out).mono ?_
  rintro e w3 ⟨rfl, hr3, hg3⟩
  have HR3 := Lib.hid hr3
  have HG3 := Lib.hid hg3
  clear hr3 hg3
  have TS3 : Hid (Row w3 B (.slice A1 ts.length c1) (marks k0 ts.length)) := World.ownsRow.kept TS2.out HG3.out H.out.tr
  have GS3 : Hid (Row w3 B (.slice A2 gs.length c2) (marks (k0 + ts.length) gs.length)) := World.ownsRow.kept HR2.out HG3.out H.out.gr
  go_wp2
  go_ret
  exact ⟨rfl, ⟨TS3.out, GS3.out, HR3.out, H.out.tg, H.out.tr, H.out.gr⟩, ⟨_, _, _, HB0.out, HG1.out, HG2.out, HG3.out⟩⟩

end Go.Proofs.Ytglcdgonbmdhoaa
