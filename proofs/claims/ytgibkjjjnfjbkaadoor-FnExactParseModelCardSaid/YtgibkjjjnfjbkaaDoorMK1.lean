/-
  Models that are being made in a block of the call's own, beside the answer's zero model: what stands in memory.
-/
import Derived.Test.YtgibkjjjnfjbkaaDoorM2
import Derived.Test.YtgibkjjjnfjbkaaDoorM6
import Derived.Test.YtgibkjjjnfjbkaaDoorAP
import Derived.Test.YtgibkjjjnfjbkaaDoorZL
import Derived.Test.YtgibkjjjnfjbkaaDoorLP1
namespace Go.Proofs.YtgibkjjjnfjbkaaDoor
open Go.RowKit
set_option linter.unusedVariables false
set_option linter.unusedSimpArgs false

theorem gb_setCell (W : World) (b o : Nat) (v : Value) : W.grownBy (W.setCell ⟨b, o, none⟩ v) (some b) :=
  ⟨rfl, rfl, rfl, by simp, fun k _ hk => Below.heap_setCell _ _ _ k (fun e => hk (by rw [e]))⟩
/-- A model in a block of the call's own. -/
structure Six (w : World) (B : Nat) (X Y Z : Int) (v1 v2 v3 : Value) : Prop where
  lt : B < w.heap.size
  c0 : w.cell? ⟨B, 0, none⟩ = some (.int .i64 X)
  c1 : w.cell? ⟨B, 1, none⟩ = some (.int .i64 Y)
  c2 : w.cell? ⟨B, 2, none⟩ = some (.int .i64 Z)
  c3 : w.cell? ⟨B, 3, none⟩ = some v1
  c4 : w.cell? ⟨B, 4, none⟩ = some v2
  c5 : w.cell? ⟨B, 5, none⟩ = some v3
  fz : ∀ i, w.frozen? ⟨B, i, none⟩ = false
theorem Six.same {w w' : World} {B : Nat} {X Y Z : Int} {v1 v2 v3 : Value} (h : Six w B X Y Z v1 v2 v3) (hs : w'.heap[B]? = w.heap[B]?) (hz : w.heap.size ≤ w'.heap.size) : Six w' B X Y Z v1 v2 v3 := by
  have hc : ∀ i, w'.cell? ⟨B, i, none⟩ = w.cell? ⟨B, i, none⟩ := fun i => World.cell?_of_block (w := w) hs
  have hf : ∀ i, w'.frozen? ⟨B, i, none⟩ = w.frozen? ⟨B, i, none⟩ := fun i => World.frozen?_of_block (w := w) hs
  exact ⟨Nat.lt_of_lt_of_le h.lt hz, by rw [hc]; exact h.c0, by rw [hc]; exact h.c1, by rw [hc]; exact h.c2, by rw [hc]; exact h.c3, by rw [hc]; exact h.c4, by rw [hc]; exact h.c5, fun i => by rw [hf]; exact h.fz i⟩
theorem Six.past {w w' : World} {B : Nat} {row : Option Nat} {X Y Z : Int} {v1 v2 v3 : Value} (h : Six w B X Y Z v1 v2 v3) (hg : w.grownBy w' row) (hb : row ≠ some B) : Six w' B X Y Z v1 v2 v3 :=
  h.same (hg.block B h.lt (fun e => hb (by simpa using e.symm))) hg.size
theorem Six.below {w w' : World} {B : Nat} {X Y Z : Int} {v1 v2 v3 : Value} (h : Six w B X Y Z v1 v2 v3) (hb : Below w.heap.size w w') : Six w' B X Y Z v1 v2 v3 := h.same (hb.block B h.lt) hb.size
theorem Six.new (w : World) (X Y Z : Int) (v1 v2 v3 : Value) (t : TypeId) : Six (w.alloc (.cells #[.int .i64 X, .int .i64 Y, .int .i64 Z, v1, v2, v3] t)) w.heap.size X Y Z v1 v2 v3 := ⟨by simp, by simp, by simp, by simp, by simp, by simp, by simp, fun i => by simp⟩
theorem Six.set3 {w : World} {B : Nat} {X Y Z : Int} {v1 v2 v3 : Value} (h : Six w B X Y Z v1 v2 v3) (q : Value) : Six (w.setCell ⟨B, 3, none⟩ q) B X Y Z q v2 v3 :=
  ⟨by simpa using h.lt, by rw [World.cell?_setCell_other _ _ _ _ (by simp)]; exact h.c0, by rw [World.cell?_setCell_other _ _ _ _ (by simp)]; exact h.c1, by rw [World.cell?_setCell_other _ _ _ _ (by simp)]; exact h.c2, World.cell?_setCell_same _ _ _ h.c3, by rw [World.cell?_setCell_other _ _ _ _ (by simp)]; exact h.c4, by rw [World.cell?_setCell_other _ _ _ _ (by simp)]; exact h.c5, fun i => by simpa using h.fz i⟩
theorem Six.set4 {w : World} {B : Nat} {X Y Z : Int} {v1 v2 v3 : Value} (h : Six w B X Y Z v1 v2 v3) (q : Value) : Six (w.setCell ⟨B, 4, none⟩ q) B X Y Z v1 q v3 :=
  ⟨by simpa using h.lt, by rw [World.cell?_setCell_other _ _ _ _ (by simp)]; exact h.c0, by rw [World.cell?_setCell_other _ _ _ _ (by simp)]; exact h.c1, by rw [World.cell?_setCell_other _ _ _ _ (by simp)]; exact h.c2, by rw [World.cell?_setCell_other _ _ _ _ (by simp)]; exact h.c3, World.cell?_setCell_same _ _ _ h.c4, by rw [World.cell?_setCell_other _ _ _ _ (by simp)]; exact h.c5, fun i => by simpa using h.fz i⟩
theorem Six.set5 {w : World} {B : Nat} {X Y Z : Int} {v1 v2 v3 : Value} (h : Six w B X Y Z v1 v2 v3) (q : Value) : Six (w.setCell ⟨B, 5, none⟩ q) B X Y Z v1 v2 q :=
  ⟨by simpa using h.lt, by rw [World.cell?_setCell_other _ _ _ _ (by simp)]; exact h.c0, by rw [World.cell?_setCell_other _ _ _ _ (by simp)]; exact h.c1, by rw [World.cell?_setCell_other _ _ _ _ (by simp)]; exact h.c2, by rw [World.cell?_setCell_other _ _ _ _ (by simp)]; exact h.c3, by rw [World.cell?_setCell_other _ _ _ _ (by simp)]; exact h.c4, World.cell?_setCell_same _ _ _ h.c5, fun i => by simpa using h.fz i⟩
theorem Six.set0 {w : World} {B : Nat} {X Y Z : Int} {v1 v2 v3 : Value} (h : Six w B X Y Z v1 v2 v3) (q : Int) : Six (w.setCell ⟨B, 0, none⟩ (.int .i64 q)) B q Y Z v1 v2 v3 :=
  ⟨by simpa using h.lt, World.cell?_setCell_same _ _ _ h.c0, by rw [World.cell?_setCell_other _ _ _ _ (by simp)]; exact h.c1, by rw [World.cell?_setCell_other _ _ _ _ (by simp)]; exact h.c2, by rw [World.cell?_setCell_other _ _ _ _ (by simp)]; exact h.c3, by rw [World.cell?_setCell_other _ _ _ _ (by simp)]; exact h.c4, by rw [World.cell?_setCell_other _ _ _ _ (by simp)]; exact h.c5, fun i => by simpa using h.fz i⟩
theorem Six.set1 {w : World} {B : Nat} {X Y Z : Int} {v1 v2 v3 : Value} (h : Six w B X Y Z v1 v2 v3) (q : Int) : Six (w.setCell ⟨B, 1, none⟩ (.int .i64 q)) B X q Z v1 v2 v3 :=
  ⟨by simpa using h.lt, by rw [World.cell?_setCell_other _ _ _ _ (by simp)]; exact h.c0, World.cell?_setCell_same _ _ _ h.c1, by rw [World.cell?_setCell_other _ _ _ _ (by simp)]; exact h.c2, by rw [World.cell?_setCell_other _ _ _ _ (by simp)]; exact h.c3, by rw [World.cell?_setCell_other _ _ _ _ (by simp)]; exact h.c4, by rw [World.cell?_setCell_other _ _ _ _ (by simp)]; exact h.c5, fun i => by simpa using h.fz i⟩
theorem Six.set2 {w : World} {B : Nat} {X Y Z : Int} {v1 v2 v3 : Value} (h : Six w B X Y Z v1 v2 v3) (q : Int) : Six (w.setCell ⟨B, 2, none⟩ (.int .i64 q)) B X Y q v1 v2 v3 :=
  ⟨by simpa using h.lt, by rw [World.cell?_setCell_other _ _ _ _ (by simp)]; exact h.c0, by rw [World.cell?_setCell_other _ _ _ _ (by simp)]; exact h.c1, World.cell?_setCell_same _ _ _ h.c2, by rw [World.cell?_setCell_other _ _ _ _ (by simp)]; exact h.c3, by rw [World.cell?_setCell_other _ _ _ _ (by simp)]; exact h.c4, by rw [World.cell?_setCell_other _ _ _ _ (by simp)]; exact h.c5, fun i => by simpa using h.fz i⟩
theorem apart_new {u : World} {B : Nat} {v v' v2 : Value} {ys : List Int} (ha6 : v'.ownBlock = v.ownBlock ∨ v'.ownBlock = some u.heap.size) (h2 : Row u B v2 ys) (ha : Apart v.ownBlock v2.ownBlock) : Apart v'.ownBlock v2.ownBlock := by
  rcases ha6 with e | e
  · rw [e]; exact ha
  · refine .inr fun e' => ?_
    rw [e] at e'
    have := (World.ownsRow.lt h2 _ e'.symm).2
    omega

/-- A coarse model that is being made in block L, its lists from block B on, beside the answer's zero model. -/
structure CSt (w wr : World) (r L B : Nat) (cx cy cz : Int) (v1 v2 v3 : Value) (ts gs rs : List Int) : Prop where
  out : Six wr L cx cy cz v1 v2 v3
  mod : Mod wr B v1 v2 v3 ts gs rs
  res : Six wr r 0 0 0 (.slice none 0 0) (.slice none 0 0) (.slice none 0 0)
  bel : Below w.heap.size w wr
  LB : L < B
  wr_ : w.heap.size ≤ r
  wL : r < L
  sz : B ≤ wr.heap.size
theorem CSt.below {w wr w' : World} {r L B : Nat} {cx cy cz : Int} {v1 v2 v3 : Value} {ts gs rs : List Int} (h : CSt w wr r L B cx cy cz v1 v2 v3 ts gs rs) (hb : Below wr.heap.size wr w') : CSt w w' r L B cx cy cz v1 v2 v3 ts gs rs :=
  ⟨h.out.below hb, h.mod.below hb, h.res.below hb, h.bel.trans (hb.mono h.bel.size), h.LB, h.wr_, h.wL, Nat.le_trans h.sz hb.size⟩
theorem CSt.app1 {w wr wa w' : World} {r L B : Nat} {cx cy cz x : Int} {v1 v2 v3 v1' : Value} {ts gs rs : List Int} (h : CSt w wr r L B cx cy cz v1 v2 v3 ts gs rs) (hb : Below wr.heap.size wr wa) (hr : Row w' B v1' (ts ++ [x])) (hg : wa.grownBy w' v1.ownBlock) (ha : v1'.ownBlock = v1.ownBlock ∨ v1'.ownBlock = some wa.heap.size) :
    Six w' L cx cy cz v1 v2 v3 ∧ CSt w (w'.setCell ⟨L, 3, none⟩ v1') r L B cx cy cz v1' v2 v3 (ts ++ [x]) gs rs := by
  have hW := h.below hb
  have hne : ∀ j, j < B → v1.ownBlock ≠ some j := fun j hj e => by have := (World.ownsRow.lt h.mod.t j e).1; omega
  have hL := h.LB
  have hl := h.wL
  have hwr := h.wr_
  have h6 := hW.out.past hg (hne L hL)
  refine ⟨h6, h6.set3 _, ⟨Row.put hr (by show L < B; exact h.LB) _, Row.put (World.ownsRow.kept hW.mod.g hg (hW.mod.tg.symm)) (by show L < B; exact h.LB) _, Row.put (World.ownsRow.kept hW.mod.r hg (hW.mod.tr.symm)) (by show L < B; exact h.LB) _, apart_new ha hW.mod.g hW.mod.tg, apart_new ha hW.mod.r hW.mod.tr, hW.mod.gr⟩, (hW.res.past hg (hne _ (by omega))).past (gb_setCell w' L 3 v1') (fun e => by injection e with e; omega), (hW.bel.grown hg hW.bel.size (fun k hk => by have := (World.ownsRow.lt h.mod.t k hk).1; omega)).setCell (p := ⟨L, 3, none⟩) (by have := h.wr_; show w.heap.size ≤ L; omega) _, hL, h.wr_, hl, ?_⟩
  have := hg.size
  have := hW.sz
  simp
  omega
theorem CSt.app2 {w wr wa w' : World} {r L B : Nat} {cx cy cz x : Int} {v1 v2 v3 v2' : Value} {ts gs rs : List Int} (h : CSt w wr r L B cx cy cz v1 v2 v3 ts gs rs) (hb : Below wr.heap.size wr wa) (hr : Row w' B v2' (gs ++ [x])) (hg : wa.grownBy w' v2.ownBlock) (ha : v2'.ownBlock = v2.ownBlock ∨ v2'.ownBlock = some wa.heap.size) :
    Six w' L cx cy cz v1 v2 v3 ∧ CSt w (w'.setCell ⟨L, 4, none⟩ v2') r L B cx cy cz v1 v2' v3 ts (gs ++ [x]) rs := by
  have hW := h.below hb
  have hne : ∀ j, j < B → v2.ownBlock ≠ some j := fun j hj e => by have := (World.ownsRow.lt h.mod.g j e).1; omega
  have hL := h.LB
  have hl := h.wL
  have hwr := h.wr_
  have h6 := hW.out.past hg (hne L hL)
  refine ⟨h6, h6.set4 _, ⟨Row.put (World.ownsRow.kept hW.mod.t hg (hW.mod.tg)) (by show L < B; exact h.LB) _, Row.put hr (by show L < B; exact h.LB) _, Row.put (World.ownsRow.kept hW.mod.r hg (hW.mod.gr.symm)) (by show L < B; exact h.LB) _, (apart_new ha hW.mod.t hW.mod.tg.symm).symm, hW.mod.tr, apart_new ha hW.mod.r hW.mod.gr⟩, (hW.res.past hg (hne _ (by omega))).past (gb_setCell w' L 4 v2') (fun e => by injection e with e; omega), (hW.bel.grown hg hW.bel.size (fun k hk => by have := (World.ownsRow.lt h.mod.g k hk).1; omega)).setCell (p := ⟨L, 4, none⟩) (by have := h.wr_; show w.heap.size ≤ L; omega) _, hL, h.wr_, hl, ?_⟩
  have := hg.size
  have := hW.sz
  simp
  omega
theorem CSt.app3 {w wr wa w' : World} {r L B : Nat} {cx cy cz x : Int} {v1 v2 v3 v3' : Value} {ts gs rs : List Int} (h : CSt w wr r L B cx cy cz v1 v2 v3 ts gs rs) (hb : Below wr.heap.size wr wa) (hr : Row w' B v3' (rs ++ [x])) (hg : wa.grownBy w' v3.ownBlock) (ha : v3'.ownBlock = v3.ownBlock ∨ v3'.ownBlock = some wa.heap.size) :
    Six w' L cx cy cz v1 v2 v3 ∧ CSt w (w'.setCell ⟨L, 5, none⟩ v3') r L B cx cy cz v1 v2 v3' ts gs (rs ++ [x]) := by
  have hW := h.below hb
  have hne : ∀ j, j < B → v3.ownBlock ≠ some j := fun j hj e => by have := (World.ownsRow.lt h.mod.r j e).1; omega
  have hL := h.LB
  have hl := h.wL
  have hwr := h.wr_
  have h6 := hW.out.past hg (hne L hL)
  refine ⟨h6, h6.set5 _, ⟨Row.put (World.ownsRow.kept hW.mod.t hg (hW.mod.tr)) (by show L < B; exact h.LB) _, Row.put (World.ownsRow.kept hW.mod.g hg (hW.mod.gr)) (by show L < B; exact h.LB) _, Row.put hr (by show L < B; exact h.LB) _, hW.mod.tg, (apart_new ha hW.mod.t hW.mod.tr.symm).symm, (apart_new ha hW.mod.g hW.mod.gr.symm).symm⟩, (hW.res.past hg (hne _ (by omega))).past (gb_setCell w' L 5 v3') (fun e => by injection e with e; omega), (hW.bel.grown hg hW.bel.size (fun k hk => by have := (World.ownsRow.lt h.mod.r k hk).1; omega)).setCell (p := ⟨L, 5, none⟩) (by have := h.wr_; show w.heap.size ≤ L; omega) _, hL, h.wr_, hl, ?_⟩
  have := hg.size
  have := hW.sz
  simp
  omega
abbrev putM (w : World) (b : Nat) (x y z : Int) (v1 v2 v3 : Value) : World := (((((w.setCell ⟨b, 0, none⟩ (.int .i64 x)).setCell ⟨b, 1, none⟩ (.int .i64 y)).setCell ⟨b, 2, none⟩ (.int .i64 z)).setCell ⟨b, 3, none⟩ v1).setCell ⟨b, 4, none⟩ v2).setCell ⟨b, 5, none⟩ v3
/-- What the answer's store leaves. -/
theorem CSt.fin {w wr : World} {r L B : Nat} {cx cy cz : Int} {v1 v2 v3 : Value} {ts gs rs : List Int} (h : CSt w wr r L B cx cy cz v1 v2 v3 ts gs rs) :
    Six (putM wr r cx cy cz v1 v2 v3) r cx cy cz v1 v2 v3 ∧ Mod (putM wr r cx cy cz v1 v2 v3) w.heap.size v1 v2 v3 ts gs rs ∧ Below w.heap.size w (putM wr r cx cy cz v1 v2 v3) := by
  have hL := h.LB
  have hl := h.wL
  have hwr := h.wr_
  have P : ∀ {v : Value} {xs : List Int}, Row wr B v xs → Row (putM wr r cx cy cz v1 v2 v3) B v xs := fun hr =>
    Row.put (Row.put (Row.put (Row.put (Row.put (Row.put hr (by show r < B; omega) _) (by show r < B; omega) _) (by show r < B; omega) _) (by show r < B; omega) _) (by show r < B; omega) _) (by show r < B; omega) _
  refine ⟨(((((h.res.set0 cx).set1 cy).set2 cz).set3 v1).set4 v2).set5 v3, ⟨(P h.mod.t).mono (by omega), (P h.mod.g).mono (by omega), (P h.mod.r).mono (by omega), h.mod.tg, h.mod.tr, h.mod.gr⟩, ?_⟩
  exact (((((h.bel.setCell (by show _ ≤ r; first | exact hr | exact h.wr_) _).setCell (by show _ ≤ r; first | exact hr | exact h.wr_) _).setCell (by show _ ≤ r; first | exact hr | exact h.wr_) _).setCell (by show _ ≤ r; first | exact hr | exact h.wr_) _).setCell (by show _ ≤ r; first | exact hr | exact h.wr_) _).setCell (by show _ ≤ r; first | exact hr | exact h.wr_) _
/-- What is answered where nothing is. -/
theorem fin_none {w wr : World} {r : Nat} (hr : w.heap.size ≤ r) (h : Six wr r 0 0 0 (.slice none 0 0) (.slice none 0 0) (.slice none 0 0)) (hb : Below w.heap.size w wr) :
    Six (putM wr r 0 0 0 (.slice none 0 0) (.slice none 0 0) (.slice none 0 0)) r 0 0 0 (.slice none 0 0) (.slice none 0 0) (.slice none 0 0) ∧ Mod (putM wr r 0 0 0 (.slice none 0 0) (.slice none 0 0) (.slice none 0 0)) w.heap.size (.slice none 0 0) (.slice none 0 0) (.slice none 0 0) [] [] [] ∧ Below w.heap.size w (putM wr r 0 0 0 (.slice none 0 0) (.slice none 0 0) (.slice none 0 0)) := by
  refine ⟨(((((h.set0 0).set1 0).set2 0).set3 _).set4 _).set5 _, ⟨Row.nil _ _, Row.nil _ _, Row.nil _ _, .inl rfl, .inl rfl, .inl rfl⟩, ?_⟩
  exact (((((hb.setCell (by show _ ≤ r; first | exact hr | exact h.wr_) _).setCell (by show _ ≤ r; first | exact hr | exact h.wr_) _).setCell (by show _ ≤ r; first | exact hr | exact h.wr_) _).setCell (by show _ ≤ r; first | exact hr | exact h.wr_) _).setCell (by show _ ≤ r; first | exact hr | exact h.wr_) _).setCell (by show _ ≤ r; first | exact hr | exact h.wr_) _

/-- Numbers that stand from a place on. -/
structure NumAt (w : World) (b o : Nat) (ns : List Int) : Prop where
  lt : b < w.heap.size
  c : ∀ k, k < ns.length → w.cell? ⟨b, o + k, none⟩ = some (.int .i64 (ns.getD k 0))
theorem NumAt.same {w w' : World} {b o : Nat} {ns : List Int} (h : NumAt w b o ns) (hs : w'.heap[b]? = w.heap[b]?) (hz : w.heap.size ≤ w'.heap.size) : NumAt w' b o ns :=
  ⟨Nat.lt_of_lt_of_le h.lt hz, fun k hk => (World.cell?_of_block (w := w) hs).trans (h.c k hk)⟩
theorem NumAt.below {w w' : World} {b o : Nat} {ns : List Int} (h : NumAt w b o ns) (hb : Below w.heap.size w w') : NumAt w' b o ns := h.same (hb.block b h.lt) hb.size
theorem NumAt.kept {w wa w' : World} {b o : Nat} {ns : List Int} {row : Option Nat} (h : NumAt w b o ns) (hb : Below w.heap.size w wa) (hg : wa.grownBy w' row) (hr : row ≠ some b) : NumAt w' b o ns :=
  (h.below hb).same (hg.block b (h.below hb).lt (fun e => hr (by simpa using e.symm))) hg.size
theorem NumAt.app {w wa w' : World} {b o L j : Nat} {v : Value} {ns : List Int} {row : Option Nat} (h : NumAt w b o ns) (hb : Below w.heap.size w wa) (hg : wa.grownBy w' row) (hr : row ≠ some b) (hL : L ≠ b) : NumAt (w'.setCell ⟨L, j, none⟩ v) b o ns :=
  (h.kept hb hg hr).same ((gb_setCell w' L j v).block b (h.kept hb hg hr).lt (fun e => hL (by simpa using e.symm))) (by simp)
end Go.Proofs.YtgibkjjjnfjbkaaDoor
