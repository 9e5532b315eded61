/-
  Contracts of the law's own helpers: a model marked, and found as it was marked.
-/
import Derived.Test.YtgibkjjjnfjbkaaDoorM6
namespace Go.Proofs.YtgibkjjjnfjbkaaDoor
open Go.RowKit
set_option linter.unusedVariables false

/-- What has turned lies in the blocks o1, o2, o3. -/
structure Turned (w w' : World) (o1 o2 o3 : Option Nat) : Prop where
  size : w.heap.size ≤ w'.heap.size
  row : ∀ {B : Nat} {v : Value} {xs : List Int}, Row w B v xs → Apart v.ownBlock o1 → Apart v.ownBlock o2 → Apart v.ownBlock o3 → Row w' B v xs
  cell : ∀ {b o : Nat}, b < w.heap.size → o1 ≠ some b → o2 ≠ some b → o3 ≠ some b → w'.cell? ⟨b, o, none⟩ = w.cell? ⟨b, o, none⟩
  below : ∀ {B : Nat} {a : World}, Below B a w → B ≤ w.heap.size → (∀ k, o1 = some k → B ≤ k) → (∀ k, o2 = some k → B ≤ k) → (∀ k, o3 = some k → B ≤ k) → Below B a w'
  owns : ∀ {B sz n : Nat} {e : TypeId} {v : Value} {xs : List Value}, w.ownsRow B e sz v n xs → Apart v.ownBlock o1 → Apart v.ownBlock o2 → Apart v.ownBlock o3 → w'.ownsRow B e sz v n xs
theorem Turned.of {w w0 wa wb w' : World} {o1 o2 o3 : Option Nat} (h0 : Below w.heap.size w w0) (h1 : w0.grownBy wa o1) (h2 : wa.grownBy wb o2) (h3 : wb.grownBy w' o3) : Turned w w' o1 o2 o3 := by
  have s0 := h0.size
  have s1 := h1.size
  have s2 := h2.size
  have s3 := h3.size
  refine ⟨by omega, fun hr a1 a2 a3 => ?_, fun {b o} hb n1 n2 n3 => ?_, fun {B a} hb hB k1 k2 k3 => ?_, fun hr a1 a2 a3 => ?_⟩
  · exact World.ownsRow.kept (World.ownsRow.kept (World.ownsRow.kept (hr.below h0) h1 a1) h2 a2) h3 a3
  · rw [World.cell?_of_block (w := wb) (h3.block b (by omega) (fun e => n3 e.symm)), World.cell?_of_block (w := wa) (h2.block b (by omega) (fun e => n2 e.symm)), World.cell?_of_block (w := w0) (h1.block b (by omega) (fun e => n1 e.symm)), h0.cell (p := ⟨b, o, none⟩) hb]
  · exact (((hb.trans (h0.mono hB)).grown h1 (by omega) k1).grown h2 (by omega) k2).grown h3 (by omega) k3
  · exact World.ownsRow.kept (World.ownsRow.kept (World.ownsRow.kept (World.ownsRow.kept (row := none) hr ⟨h0.os, h0.tape, h0.output, h0.size, fun k hk _ => h0.block k hk⟩ (by rename_i v _; cases v.ownBlock <;> simp)) h1 a1) h2 a2) h3 a3

theorem Mod.own1 {w : World} {B : Nat} {v1 v2 v3 : Value} {ts gs rs : List Int} (h : Mod w B v1 v2 v3 ts gs rs) : ∀ k, v1.ownBlock = some k → B ≤ k := fun k hk => (World.ownsRow.lt h.t k hk).1
theorem Mod.own2 {w : World} {B : Nat} {v1 v2 v3 : Value} {ts gs rs : List Int} (h : Mod w B v1 v2 v3 ts gs rs) : ∀ k, v2.ownBlock = some k → B ≤ k := fun k hk => (World.ownsRow.lt h.g k hk).1
theorem Mod.own3 {w : World} {B : Nat} {v1 v2 v3 : Value} {ts gs rs : List Int} (h : Mod w B v1 v2 v3 ts gs rs) : ∀ k, v3.ownBlock = some k → B ≤ k := fun k hk => (World.ownsRow.lt h.r k hk).1
theorem own_ne {o : Option Nat} {B b : Nat} (h : ∀ k, o = some k → B ≤ k) (hb : b < B) : o ≠ some b := fun e => by have := h b e; omega
theorem own_ne' {o : Option Nat} {B b : Nat} (h : ∀ k, o = some k → k < B) (hb : B ≤ b) : o ≠ some b := fun e => by have := h b e; omega
theorem Box6.turned {w w' : World} {o1 o2 o3 : Option Nat} {b : Nat} {x y z : Int} {v1 v2 v3 : Value} (h : Box6 w b x y z v1 v2 v3) (ht : Turned w w' o1 o2 o3) (n1 : o1 ≠ some b) (n2 : o2 ≠ some b) (n3 : o3 ≠ some b) : Box6 w' b x y z v1 v2 v3 :=
  ⟨Nat.lt_of_lt_of_le h.lt ht.size, by rw [ht.cell h.lt n1 n2 n3]; exact h.c0, by rw [ht.cell h.lt n1 n2 n3]; exact h.c1, by rw [ht.cell h.lt n1 n2 n3]; exact h.c2,
    by rw [ht.cell h.lt n1 n2 n3]; exact h.c3, by rw [ht.cell h.lt n1 n2 n3]; exact h.c4, by rw [ht.cell h.lt n1 n2 n3]; exact h.c5⟩
theorem Turned.one {w w' : World} {o : Option Nat} (h : w.grownBy w' o) : Turned w w' o none none :=
  Turned.of (Below.refl _ _) h (World.grownBy.refl _ _) (World.grownBy.refl _ _)
theorem Box6.grown {w w' : World} {o : Option Nat} {b : Nat} {x y z : Int} {v1 v2 v3 : Value} (h : Box6 w b x y z v1 v2 v3) (ht : w.grownBy w' o) (n1 : o ≠ some b) : Box6 w' b x y z v1 v2 v3 :=
  h.turned (Turned.one ht) n1 (by simp) (by simp)

set_option maxHeartbeats 1000000 in
theorem c_markModel (x y z : Int) (v1 v2 v3 : Value) (ts gs rs : List Int) (B : Nat) (k0 : Int) (w : World) (hl : ts.length + gs.length + rs.length ≤ 1048576) (hk0 : 0 ≤ k0) (hk1 : k0 ≤ 1000000) (h : Mod w B v1 v2 v3 ts gs rs) :
    Calls Tryd.prog 7 #[.agg #[.int .i64 x, .int .i64 y, .int .i64 z, v1, v2, v3], .int .i64 k0] w fun e w' => e = .returned (.int .i64 (k0 + ts.length + gs.length + rs.length)) ∧ Mod w' B v1 v2 v3 (marks k0 ts.length) (marks (k0 + ts.length) gs.length) (marks (k0 + ts.length + gs.length) rs.length) ∧ Turned w w' v1.ownBlock v2.ownBlock v3.ownBlock := by
  have H := Lib.hid h
  obtain ⟨A1, c1, rfl⟩ := h.t.shape
  obtain ⟨A2, c2, rfl⟩ := h.g.shape
  obtain ⟨A3, c3, rfl⟩ := h.r.shape
  clear h
  have HX0 : Hid (Box6 (w.alloc (.cells #[.int .i64 x, .int .i64 y, .int .i64 z, .slice A1 ts.length c1, .slice A2 gs.length c2, .slice A3 rs.length c3] 26)) w.heap.size x y z (.slice A1 ts.length c1) (.slice A2 gs.length c2) (.slice A3 rs.length c3)) := Box6.new _ _ _ _ _ _ _ _
  have HB0 : Hid (Below w.heap.size w (w.alloc (.cells #[.int .i64 x, .int .i64 y, .int .i64 z, .slice A1 ts.length c1, .slice A2 gs.length c2, .slice A3 rs.length c3] 26))) := (Below.refl _ _).alloc (Nat.le_refl _) _
  have n1 : Hid (∀ b, w.heap.size ≤ b → (Value.slice A1 ts.length c1).ownBlock ≠ some b) := fun b hb => own_ne' (fun k hk => (World.ownsRow.lt H.out.t k hk).2) hb
  have n2 : Hid (∀ b, w.heap.size ≤ b → (Value.slice A2 gs.length c2).ownBlock ≠ some b) := fun b hb => own_ne' (fun k hk => (World.ownsRow.lt H.out.g k hk).2) hb
  have n3 : Hid (∀ b, w.heap.size ≤ b → (Value.slice A3 rs.length c3).ownBlock ≠ some b) := fun b hb => own_ne' (fun k hk => (World.ownsRow.lt H.out.r k hk).2) hb
  go_enter Tryd.func7, Tryd.ntmps7
  go_wp2_with fail
  refine (c_markIntS ts _ B k0 _ (by omega) hk0 (by omega) (H.out.t.below HB0.out)).mono ?_
  rintro e w1 ⟨rfl, hr1, hg1⟩
  have HR1 := Lib.hid hr1
  have HG1 := Lib.hid hg1
  clear hr1 hg1
  have HX1 : Hid (Box6 w1 w.heap.size x y z (.slice A1 ts.length c1) (.slice A2 gs.length c2) (.slice A3 rs.length c3)) := HX0.out.grown HG1.out (n1.out _ (Nat.le_refl _))
  have GS1 : Hid (Row w1 B (.slice A2 gs.length c2) gs) := World.ownsRow.kept (H.out.g.below HB0.out) HG1.out H.out.tg.symm
  have RS1 : Hid (Row w1 B (.slice A3 rs.length c3) rs) := World.ownsRow.kept (H.out.r.below HB0.out) HG1.out H.out.tr.symm
  have d3 := HX1.out.c3
  have d4 := HX1.out.c4
  have d5 := HX1.out.c5
  go_wp2_with fail
  refine (c_markIntS gs _ B (k0 + ts.length) _ (by omega) (by omega) (by omega) GS1.out).mono ?_
  rintro e w2 ⟨rfl, hr2, hg2⟩
  have HR2 := Lib.hid hr2
  have HG2 := Lib.hid hg2
  clear hr2 hg2
  have HX2 : Hid (Box6 w2 w.heap.size x y z (.slice A1 ts.length c1) (.slice A2 gs.length c2) (.slice A3 rs.length c3)) := HX1.out.grown HG2.out (n2.out _ (Nat.le_refl _))
  have TS2 : Hid (Row w2 B (.slice A1 ts.length c1) (marks k0 ts.length)) := World.ownsRow.kept HR1.out HG2.out H.out.tg
  have RS2 : Hid (Row w2 B (.slice A3 rs.length c3) rs) := World.ownsRow.kept RS1.out HG2.out H.out.gr.symm
  have e3 := HX2.out.c3
  have e4 := HX2.out.c4
  have e5 := HX2.out.c5
  go_wp2_with fail
  refine (c_markIntS rs _ B (k0 + ts.length + gs.length) _ (by omega) (by omega) (by omega) RS2.out).mono ?_
  rintro e w3 ⟨rfl, hr3, hg3⟩
  have HR3 := Lib.hid hr3
  have HG3 := Lib.hid hg3
  clear hr3 hg3
  have TS3 : Hid (Row w3 B (.slice A1 ts.length c1) (marks k0 ts.length)) := World.ownsRow.kept TS2.out HG3.out H.out.tr
  have GS3 : Hid (Row w3 B (.slice A2 gs.length c2) (marks (k0 + ts.length) gs.length)) := World.ownsRow.kept HR2.out HG3.out H.out.gr
  go_wp2
  go_ret
  exact ⟨rfl, ⟨TS3.out, GS3.out, HR3.out, H.out.tg, H.out.tr, H.out.gr⟩, Turned.of HB0.out HG1.out HG2.out HG3.out⟩

set_option maxHeartbeats 1000000 in
theorem c_heldModel (x y z : Int) (v1 v2 v3 : Value) (n1 n2 n3 : Nat) (B : Nat) (k0 : Int) (w : World) (hl : n1 + n2 + n3 ≤ 1048576) (hk0 : 0 ≤ k0) (hk1 : k0 ≤ 1000000) (h : Mod w B v1 v2 v3 (marks k0 n1) (marks (k0 + n1) n2) (marks (k0 + n1 + n2) n3)) :
    Calls Tryd.prog 8 #[.agg #[.int .i64 x, .int .i64 y, .int .i64 z, v1, v2, v3], .int .i64 k0] w fun e w' => e = .returned (.int .i64 (k0 + n1 + n2 + n3)) ∧ Below w.heap.size w w' := by
  have H := Lib.hid h
  obtain ⟨A1, c1, rfl⟩ := h.t.shape
  obtain ⟨A2, c2, rfl⟩ := h.g.shape
  obtain ⟨A3, c3, rfl⟩ := h.r.shape
  clear h
  have hb : Below w.heap.size w (w.alloc (.cells #[.int .i64 x, .int .i64 y, .int .i64 z, .slice A1 (marks k0 n1).length c1, .slice A2 (marks (k0 + n1) n2).length c2, .slice A3 (marks (k0 + n1 + n2) n3).length c3] 26)) := (Below.refl _ _).alloc (Nat.le_refl _) _
  have HB0 := Lib.hid hb
  have T0 := Lib.hid (H.out.t.below hb)
  have G0 := Lib.hid (H.out.g.below hb)
  have R0 := Lib.hid (H.out.r.below hb)
  have L1 : Hid ((marks k0 n1).length = n1) := marks_len _ _
  have L2 : Hid ((marks (k0 + n1) n2).length = n2) := marks_len _ _
  have L3 : Hid ((marks (k0 + n1 + n2) n3).length = n3) := marks_len _ _
  clear hb
  rw [L1.out] at T0 HB0 G0 R0 ⊢
  rw [L2.out] at T0 HB0 G0 R0 ⊢
  rw [L3.out] at T0 HB0 G0 R0 ⊢
  go_enter Tryd.func8, Tryd.ntmps8
  go_wp2_with fail
  refine (c_heldIntS _ B n1 k0 _ (by omega) hk0 (by omega) T0.out).mono ?_
  rintro e w1 ⟨rfl, rfl⟩
  go_wp2_with fail
  refine (c_heldIntS _ B n2 (k0 + n1) _ (by omega) (by omega) (by omega) G0.out).mono ?_
  rintro e w1 ⟨rfl, rfl⟩
  go_wp2_with fail
  refine (c_heldIntS _ B n3 (k0 + n1 + n2) _ (by omega) (by omega) (by omega) R0.out).mono ?_
  rintro e w1 ⟨rfl, rfl⟩
  go_wp2
  go_ret
  exact ⟨rfl, HB0.out⟩
end Go.Proofs.YtgibkjjjnfjbkaaDoor
