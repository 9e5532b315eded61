/-
  Contract: the text of a part of kind 8 in the model, the texts of its parts given.
-/
import Derived.Test.YtdgkgnlilcbggaaDoorPB3
import Derived.Test.YtdgkgnlilcbggaaDoorPW
namespace Go.Proofs.YtdgkgnlilcbggaaDoor
open Go.RowKit
set_option linter.unusedVariables false
set_option linter.unusedSimpArgs false

set_option maxHeartbeats 16000000 in
set_option maxRecDepth 100000 in
theorem c_show8 (vv : Int) (n g gc b off c e c' h0 x0 x1 x2 x3 : Nat) (lv : Int) (XA XB XC XD : ByteArray) (w : World) (i1 : (0 : Int) ≤ (e : Int)) (i2 : (e : Int) < (n : Int))
    (q0 : w.cell? ⟨b, off + e * 2, none⟩ = some (.int .i64 8)) (q1 : w.cell? ⟨b, off + e * 2 + 1, none⟩ = some (.int .i64 vv)) (q2 : w.cell? ⟨g, e, none⟩ = some (.slice (some ⟨h0, 0, none⟩) 4 c'))
    (p0 : w.cell? ⟨h0, 0, none⟩ = some (.int .i64 (x0 : Int))) (p1 : w.cell? ⟨h0, 1, none⟩ = some (.int .i64 (x1 : Int))) (p2 : w.cell? ⟨h0, 2, none⟩ = some (.int .i64 (x2 : Int))) (p3 : w.cell? ⟨h0, 3, none⟩ = some (.int .i64 (x3 : Int))) (y0 : XA.size ≤ 2000) (y1 : XB.size ≤ 2000) (y2 : XC.size ≤ 2000) (y3 : XD.size ≤ 2000)
    (C0 : ∀ u, Below w.heap.size w u → Calls Tryd.prog 18 #[.slice (some ⟨b, off, none⟩) n c, .slice (some ⟨g, 0, none⟩) n gc, .int .i64 (x0 : Int), .int .i64 1] u fun e' w' => e' = .returned (.string XA) ∧ Below u.heap.size u w')
    (C1 : ∀ u, Below w.heap.size w u → Calls Tryd.prog 18 #[.slice (some ⟨b, off, none⟩) n c, .slice (some ⟨g, 0, none⟩) n gc, .int .i64 (x1 : Int), .int .i64 1] u fun e' w' => e' = .returned (.string XB) ∧ Below u.heap.size u w')
    (C2 : ∀ u, Below w.heap.size w u → Calls Tryd.prog 18 #[.slice (some ⟨b, off, none⟩) n c, .slice (some ⟨g, 0, none⟩) n gc, .int .i64 (x2 : Int), .int .i64 0] u fun e' w' => e' = .returned (.string XC) ∧ Below u.heap.size u w')
    (C3 : ∀ u, Below w.heap.size w u → Calls Tryd.prog 18 #[.slice (some ⟨b, off, none⟩) n c, .slice (some ⟨g, 0, none⟩) n gc, .int .i64 (x3 : Int), .int .i64 0] u fun e' w' => e' = .returned (.string XD) ∧ Below u.heap.size u w') :
    Calls Tryd.prog 18 #[.slice (some ⟨b, off, none⟩) n c, .slice (some ⟨g, 0, none⟩) n gc, .int .i64 (e : Int), .int .i64 lv] w fun e' w' => e' = .returned (.string (par (decide ((0 : Int) < lv)) (⟨#[105, 102, 32]⟩ ++ XA ++ ⟨#[32]⟩ ++ ⟨#[62]⟩ ++ ⟨#[32]⟩ ++ XB ++ ⟨#[32, 116, 104, 101, 110, 32]⟩ ++ XC ++ ⟨#[32, 101, 108, 115, 101, 32]⟩ ++ XD))) ∧ Below w.heap.size w w' := by
  have HB0 : Hid (Below w.heap.size w (w.alloc (.cells #[.int .i64 8, .int .i64 vv] 33)).drew) := ((Below.refl _ _).alloc (Nat.le_refl _) _).drew
  have HP0 : Hid ((w.alloc (.cells #[.int .i64 8, .int .i64 vv] 33)).drew.cell? ⟨w.heap.size, 0, none⟩ = some (.int .i64 8) ∧ (w.alloc (.cells #[.int .i64 8, .int .i64 vv] 33)).drew.cell? ⟨w.heap.size, 1, none⟩ = some (.int .i64 vv)) := ⟨by simp, by simp⟩
  have hgl := World.block_lt_of_cell? w _ q2
  have hbl := World.block_lt_of_cell? w _ q0
  have hw0 : IntKind.i64.wrap 0 = 0 := rfl
  have hw1 : IntKind.i64.wrap 1 = 1 := rfl
  have hw2 : IntKind.i64.wrap 2 = 2 := rfl
  have hw3 : IntKind.i64.wrap 3 = 3 := rfl
  have f1 := addsT (⟨#[105, 102, 32]⟩) XA (by show 3 + _ ≤ _; omega)
  have f2 := addsT (⟨#[105, 102, 32]⟩ ++ XA) ⟨#[32]⟩ (by rw [ByteArray.size_append]; show 3 + _ + 1 ≤ _; omega)
  have f3 := addsT (⟨#[105, 102, 32]⟩ ++ XA ++ ⟨#[32]⟩) ⟨#[62]⟩ (by rw [ByteArray.size_append, ByteArray.size_append]; show 3 + _ + 1 + 1 ≤ _; omega)
  have f4 := addsT (⟨#[105, 102, 32]⟩ ++ XA ++ ⟨#[32]⟩ ++ ⟨#[62]⟩) ⟨#[32]⟩ (by rw [ByteArray.size_append, ByteArray.size_append, ByteArray.size_append]; show 3 + _ + 1 + 1 + 1 ≤ _; omega)
  have f5 := addsT (⟨#[105, 102, 32]⟩ ++ XA ++ ⟨#[32]⟩ ++ ⟨#[62]⟩ ++ ⟨#[32]⟩) XB (by rw [ByteArray.size_append, ByteArray.size_append, ByteArray.size_append, ByteArray.size_append]; show 3 + _ + 1 + 1 + 1 + _ ≤ _; omega)
  have f6 := addsT (⟨#[105, 102, 32]⟩ ++ XA ++ ⟨#[32]⟩ ++ ⟨#[62]⟩ ++ ⟨#[32]⟩ ++ XB) ⟨#[32, 116, 104, 101, 110, 32]⟩ (by rw [ByteArray.size_append, ByteArray.size_append, ByteArray.size_append, ByteArray.size_append, ByteArray.size_append]; show 3 + _ + 1 + 1 + 1 + _ + 6 ≤ _; omega)
  have f7 := addsT (⟨#[105, 102, 32]⟩ ++ XA ++ ⟨#[32]⟩ ++ ⟨#[62]⟩ ++ ⟨#[32]⟩ ++ XB ++ ⟨#[32, 116, 104, 101, 110, 32]⟩) XC (by rw [ByteArray.size_append, ByteArray.size_append, ByteArray.size_append, ByteArray.size_append, ByteArray.size_append, ByteArray.size_append]; show 3 + _ + 1 + 1 + 1 + _ + 6 + _ ≤ _; omega)
  have f8 := addsT (⟨#[105, 102, 32]⟩ ++ XA ++ ⟨#[32]⟩ ++ ⟨#[62]⟩ ++ ⟨#[32]⟩ ++ XB ++ ⟨#[32, 116, 104, 101, 110, 32]⟩ ++ XC) ⟨#[32, 101, 108, 115, 101, 32]⟩ (by rw [ByteArray.size_append, ByteArray.size_append, ByteArray.size_append, ByteArray.size_append, ByteArray.size_append, ByteArray.size_append, ByteArray.size_append]; show 3 + _ + 1 + 1 + 1 + _ + 6 + _ + 6 ≤ _; omega)
  have f9 := addsT (⟨#[105, 102, 32]⟩ ++ XA ++ ⟨#[32]⟩ ++ ⟨#[62]⟩ ++ ⟨#[32]⟩ ++ XB ++ ⟨#[32, 116, 104, 101, 110, 32]⟩ ++ XC ++ ⟨#[32, 101, 108, 115, 101, 32]⟩) XD (by rw [ByteArray.size_append, ByteArray.size_append, ByteArray.size_append, ByteArray.size_append, ByteArray.size_append, ByteArray.size_append, ByteArray.size_append, ByteArray.size_append]; show 3 + _ + 1 + 1 + 1 + _ + 6 + _ + 6 + _ ≤ _; omega)
  have hTs : (⟨#[105, 102, 32]⟩ ++ XA ++ ⟨#[32]⟩ ++ ⟨#[62]⟩ ++ ⟨#[32]⟩ ++ XB ++ ⟨#[32, 116, 104, 101, 110, 32]⟩ ++ XC ++ ⟨#[32, 101, 108, 115, 101, 32]⟩ ++ XD).size ≤ 9000 := by
    rw [ByteArray.size_append, ByteArray.size_append, ByteArray.size_append, ByteArray.size_append, ByteArray.size_append, ByteArray.size_append, ByteArray.size_append, ByteArray.size_append, ByteArray.size_append]
    show 3 + _ + 1 + 1 + 1 + _ + 6 + _ + 6 + _ ≤ _
    omega
  obtain ⟨TT, hTT⟩ : ∃ TT, ⟨#[105, 102, 32]⟩ ++ XA ++ ⟨#[32]⟩ ++ ⟨#[62]⟩ ++ ⟨#[32]⟩ ++ XB ++ ⟨#[32, 116, 104, 101, 110, 32]⟩ ++ XC ++ ⟨#[32, 101, 108, 115, 101, 32]⟩ ++ XD = TT := ⟨_, rfl⟩
  rw [hTT] at f9 hTs ⊢
  clear hTT
  have HC0 := Lib.hid C0
  have HC1 := Lib.hid C1
  have HC2 := Lib.hid C2
  have HC3 := Lib.hid C3
  clear C0 C1 C2 C3
  go_enter Tryd.func18, Tryd.ntmps18
  go_wp2_with fail
  go_region
  generalize (w.alloc (.cells #[.int .i64 8, .int .i64 vv] 33)).drew = W at *
  obtain ⟨d0, d1⟩ := HP0.out
  go_wp2_with fail
  refine (c_ruLevel _ _).mono ?_
  rintro e' w1 ⟨rfl, rfl⟩
  simp only [bindK]
  have P0 : Hid (W.cell? ⟨h0, 0, none⟩ = some (.int .i64 (x0 : Int)) ∧ W.cell? ⟨h0, 1, none⟩ = some (.int .i64 (x1 : Int)) ∧ W.cell? ⟨h0, 2, none⟩ = some (.int .i64 (x2 : Int)) ∧ W.cell? ⟨h0, 3, none⟩ = some (.int .i64 (x3 : Int))) := ⟨cell_up HB0.out p0, cell_up HB0.out p1, cell_up HB0.out p2, cell_up HB0.out p3⟩
  have CX0 : Hid (∀ u, Below W.heap.size W u → Calls Tryd.prog 18 #[.slice (some ⟨b, off, none⟩) n c, .slice (some ⟨g, 0, none⟩) n gc, .int .i64 (x0 : Int), .int .i64 1] u fun e' w' => e' = .returned (.string XA) ∧ Below u.heap.size u w') := fun u hu => HC0.out u (HB0.out.trans (hu.mono HB0.out.size))
  have CX1 : Hid (∀ u, Below W.heap.size W u → Calls Tryd.prog 18 #[.slice (some ⟨b, off, none⟩) n c, .slice (some ⟨g, 0, none⟩) n gc, .int .i64 (x1 : Int), .int .i64 1] u fun e' w' => e' = .returned (.string XB) ∧ Below u.heap.size u w') := fun u hu => HC1.out u (HB0.out.trans (hu.mono HB0.out.size))
  have CX2 : Hid (∀ u, Below W.heap.size W u → Calls Tryd.prog 18 #[.slice (some ⟨b, off, none⟩) n c, .slice (some ⟨g, 0, none⟩) n gc, .int .i64 (x2 : Int), .int .i64 0] u fun e' w' => e' = .returned (.string XC) ∧ Below u.heap.size u w') := fun u hu => HC2.out u (HB0.out.trans (hu.mono HB0.out.size))
  have CX3 : Hid (∀ u, Below W.heap.size W u → Calls Tryd.prog 18 #[.slice (some ⟨b, off, none⟩) n c, .slice (some ⟨g, 0, none⟩) n gc, .int .i64 (x3 : Int), .int .i64 0] u fun e' w' => e' = .returned (.string XD) ∧ Below u.heap.size u w') := fun u hu => HC3.out u (HB0.out.trans (hu.mono HB0.out.size))
  clear HC0 HC1 HC2 HC3
  have HBd : Hid (Below W.heap.size W W.drew) := (Below.refl _ _).drew
  have hbk0 := World.block_lt_of_cell? _ _ P0.out.1
  have hbk1 := World.block_lt_of_cell? _ _ d0
  have KS : Hid (∀ u : World, Below W.heap.size W u → u.cell? ⟨w.heap.size, 0, none⟩ = some (.int .i64 8) ∧ u.cell? ⟨h0, 0, none⟩ = some (.int .i64 (x0 : Int)) ∧ u.cell? ⟨h0, 1, none⟩ = some (.int .i64 (x1 : Int)) ∧ u.cell? ⟨h0, 2, none⟩ = some (.int .i64 (x2 : Int)) ∧ u.cell? ⟨h0, 3, none⟩ = some (.int .i64 (x3 : Int))) := fun u hu => ⟨(hu.cell (p := ⟨w.heap.size, 0, none⟩) hbk1).trans d0, (hu.cell (p := ⟨h0, 0, none⟩) hbk0).trans P0.out.1, (hu.cell (p := ⟨h0, 1, none⟩) hbk0).trans P0.out.2.1, (hu.cell (p := ⟨h0, 2, none⟩) hbk0).trans P0.out.2.2.1, (hu.cell (p := ⟨h0, 3, none⟩) hbk0).trans P0.out.2.2.2⟩
  go_wp2_with fail
  clear P0 d0 d1 q0 q1 q2 p0 p1 p2 p3
  refine' region_end (fun u => u.cell? ⟨w.heap.size, 0, none⟩ = some (.int .i64 8) ∧ u.cell? ⟨h0, 0, none⟩ = some (.int .i64 (x0 : Int)) ∧ u.cell? ⟨h0, 1, none⟩ = some (.int .i64 (x1 : Int)) ∧ u.cell? ⟨h0, 2, none⟩ = some (.int .i64 (x2 : Int)) ∧ u.cell? ⟨h0, 3, none⟩ = some (.int .i64 (x3 : Int))) _ (fun u => Below W.heap.size W u) (by kernel_rfl) (KS.out _ HBd.out) ?hEnd (fun R WD hE hbD hHeld => ?hRun)
  case hRun =>
    have HBD := Lib.hid hbD
    clear hbD
    refine held_take (i := 0) (v := ?v1) rfl (by kernel_rfl) (by kernel_rfl) (by kernel_rfl) rfl (fun _ _ _ h => h) (Or.inl ⟨by rfl, ?y1⟩) (by assumption) ?r1
    case y1 =>
      intro u hSw
      obtain ⟨s0, s1, s2, s3, s4⟩ := hSw
      go_simp
      try with_reducible rfl
    try simp only [Act.put, List.setIfInBounds_toArray, List.set_cons_zero, List.set_cons_succ]
    refine held_take (i := 1) (v := ?v2) rfl (by kernel_rfl) (by kernel_rfl) (by kernel_rfl) rfl (fun _ _ _ h => h) (Or.inl ⟨by rfl, ?y2⟩) (by assumption) ?r2
    case y2 =>
      intro u hSw
      obtain ⟨s0, s1, s2, s3, s4⟩ := hSw
      go_simp
      try with_reducible rfl
    try simp only [Act.put, List.setIfInBounds_toArray, List.set_cons_zero, List.set_cons_succ]
    refine held_take (i := 2) (v := ?v3) rfl (by kernel_rfl) (by kernel_rfl) (by kernel_rfl) rfl (fun _ _ _ h => h) (Or.inl ⟨by rfl, ?y3⟩) (by assumption) ?r3
    case y3 =>
      intro u hSw
      obtain ⟨s0, s1, s2, s3, s4⟩ := hSw
      go_simp
      try with_reducible rfl
    try simp only [Act.put, List.setIfInBounds_toArray, List.set_cons_zero, List.set_cons_succ]
    refine held_take (i := 3) (v := ?v4) rfl (by kernel_rfl) (by kernel_rfl) (by kernel_rfl) rfl (fun _ _ _ h => h) (Or.inl ⟨by rfl, ?y4⟩) (by assumption) ?r4
    case y4 =>
      intro u hSw
      obtain ⟨s0, s1, s2, s3, s4⟩ := hSw
      go_simp
      try with_reducible rfl
    try simp only [Act.put, List.setIfInBounds_toArray, List.set_cons_zero, List.set_cons_succ]
    refine held_take (i := 4) (v := ?v5) rfl (by kernel_rfl) (by kernel_rfl) (by kernel_rfl) rfl (fun _ _ _ h => h) (Or.inl ⟨by rfl, ?y5⟩) (by assumption) ?r5
    case y5 =>
      intro u hSw
      obtain ⟨s0, s1, s2, s3, s4⟩ := hSw
      go_simp
      try with_reducible rfl
    try simp only [Act.put, List.setIfInBounds_toArray, List.set_cons_zero, List.set_cons_succ]
    refine held_take (i := 9) (v := ?v6) rfl (by kernel_rfl) (by kernel_rfl) (by kernel_rfl) rfl (fun _ _ _ h => h) (Or.inl ⟨by rfl, ?y6⟩) (by assumption) ?r6
    case y6 =>
      intro u hSw
      obtain ⟨s0, s1, s2, s3, s4⟩ := hSw
      go_simp
      try with_reducible rfl
    try simp only [Act.put, List.setIfInBounds_toArray, List.set_cons_zero, List.set_cons_succ]
    refine held_take (i := 10) (v := ?v7) rfl (by kernel_rfl) (by kernel_rfl) (by kernel_rfl) rfl (fun _ _ _ h => h) (Or.inl ⟨by rfl, ?y7⟩) (by assumption) ?r7
    case y7 =>
      intro u hSw
      obtain ⟨s0, s1, s2, s3, s4⟩ := hSw
      go_simp
      try with_reducible rfl
    try simp only [Act.put, List.setIfInBounds_toArray, List.set_cons_zero, List.set_cons_succ]
    refine held_take (i := 11) (v := ?v8) rfl (by kernel_rfl) (by kernel_rfl) (by kernel_rfl) rfl (fun _ _ _ h => h) (Or.inl ⟨by rfl, ?y8⟩) (by assumption) ?r8
    case y8 =>
      intro u hSw
      obtain ⟨s0, s1, s2, s3, s4⟩ := hSw
      go_simp
      try with_reducible rfl
    try simp only [Act.put, List.setIfInBounds_toArray, List.set_cons_zero, List.set_cons_succ]
    refine held_take (i := 16) (v := ?v9) rfl (by kernel_rfl) (by kernel_rfl) (by kernel_rfl) rfl (fun _ _ _ h => h) (Or.inl ⟨by rfl, ?y9⟩) (by assumption) ?r9
    case y9 =>
      intro u hSw
      obtain ⟨s0, s1, s2, s3, s4⟩ := hSw
      go_simp
      try with_reducible rfl
    try simp only [Act.put, List.setIfInBounds_toArray, List.set_cons_zero, List.set_cons_succ]
    refine held_take (i := 17) (v := ?v10) rfl (by kernel_rfl) (by kernel_rfl) (by kernel_rfl) rfl (fun _ _ _ h => h) (Or.inl ⟨by rfl, ?y10⟩) (by assumption) ?r10
    case y10 =>
      intro u hSw
      obtain ⟨s0, s1, s2, s3, s4⟩ := hSw
      go_simp
      try with_reducible rfl
    try simp only [Act.put, List.setIfInBounds_toArray, List.set_cons_zero, List.set_cons_succ]
    refine held_take (i := 18) (v := ?v11) rfl (by kernel_rfl) (by kernel_rfl) (by kernel_rfl) rfl (fun _ _ _ h => h) (Or.inl ⟨by rfl, ?y11⟩) (by assumption) ?r11
    case y11 =>
      intro u hSw
      obtain ⟨s0, s1, s2, s3, s4⟩ := hSw
      go_simp
      try with_reducible rfl
    try simp only [Act.put, List.setIfInBounds_toArray, List.set_cons_zero, List.set_cons_succ]
    refine held_take (i := 19) (v := ?v12) rfl (by kernel_rfl) (by kernel_rfl) (by kernel_rfl) rfl (fun _ _ _ h => h) (Or.inl ⟨by rfl, ?y12⟩) (by assumption) ?r12
    case y12 =>
      intro u hSw
      obtain ⟨s0, s1, s2, s3, s4⟩ := hSw
      go_simp
      try with_reducible rfl
    try simp only [Act.put, List.setIfInBounds_toArray, List.set_cons_zero, List.set_cons_succ]
    refine held_take (i := 20) (v := ?v13) rfl (by kernel_rfl) (by kernel_rfl) (by kernel_rfl) rfl (fun _ _ _ h => h) (Or.inl ⟨by rfl, ?y13⟩) (by assumption) ?r13
    case y13 =>
      intro u hSw
      obtain ⟨s0, s1, s2, s3, s4⟩ := hSw
      go_simp
      try with_reducible rfl
    try simp only [Act.put, List.setIfInBounds_toArray, List.set_cons_zero, List.set_cons_succ]
    refine held_take (i := 24) (v := ?v14) rfl (by kernel_rfl) (by kernel_rfl) (by kernel_rfl) rfl (fun _ _ _ h => h) (Or.inl ⟨by rfl, ?y14⟩) (by assumption) ?r14
    case y14 =>
      intro u hSw
      obtain ⟨s0, s1, s2, s3, s4⟩ := hSw
      go_simp
      try with_reducible rfl
    try simp only [Act.put, List.setIfInBounds_toArray, List.set_cons_zero, List.set_cons_succ]
    refine held_take (i := 25) (v := ?v15) rfl (by kernel_rfl) (by kernel_rfl) (by kernel_rfl) rfl (fun _ _ _ h => h) (Or.inl ⟨by rfl, ?y15⟩) (by assumption) ?r15
    case y15 =>
      intro u hSw
      obtain ⟨s0, s1, s2, s3, s4⟩ := hSw
      go_simp
      try with_reducible rfl
    try simp only [Act.put, List.setIfInBounds_toArray, List.set_cons_zero, List.set_cons_succ]
    refine held_take (i := 26) (v := ?v16) rfl (by kernel_rfl) (by kernel_rfl) (by kernel_rfl) rfl (fun _ _ _ h => h) (Or.inl ⟨by rfl, ?y16⟩) (by assumption) ?r16
    case y16 =>
      intro u hSw
      obtain ⟨s0, s1, s2, s3, s4⟩ := hSw
      go_simp
      try with_reducible rfl
    try simp only [Act.put, List.setIfInBounds_toArray, List.set_cons_zero, List.set_cons_succ]
    refine held_take (i := 27) (v := ?v17) rfl (by kernel_rfl) (by kernel_rfl) (by kernel_rfl) rfl (fun _ _ _ h => h) (Or.inl ⟨by rfl, ?y17⟩) (by assumption) ?r17
    case y17 =>
      intro u hSw
      obtain ⟨s0, s1, s2, s3, s4⟩ := hSw
      go_simp
      try with_reducible rfl
    try simp only [Act.put, List.setIfInBounds_toArray, List.set_cons_zero, List.set_cons_succ]
    refine held_take (i := 28) (v := ?v18) rfl (by kernel_rfl) (by kernel_rfl) (by kernel_rfl) rfl (fun _ _ _ h => h) (Or.inl ⟨by rfl, ?y18⟩) (by assumption) ?r18
    case y18 =>
      intro u hSw
      obtain ⟨s0, s1, s2, s3, s4⟩ := hSw
      go_simp
      try with_reducible rfl
    try simp only [Act.put, List.setIfInBounds_toArray, List.set_cons_zero, List.set_cons_succ]
    refine held_take (i := 32) (v := ?v19) rfl (by kernel_rfl) (by kernel_rfl) (by kernel_rfl) rfl (fun _ _ _ h => h) (Or.inl ⟨by rfl, ?y19⟩) (by assumption) ?r19
    case y19 =>
      intro u hSw
      obtain ⟨s0, s1, s2, s3, s4⟩ := hSw
      go_simp
      try with_reducible rfl
    try simp only [Act.put, List.setIfInBounds_toArray, List.set_cons_zero, List.set_cons_succ]
    refine held_take (i := 33) (v := ?v20) rfl (by kernel_rfl) (by kernel_rfl) (by kernel_rfl) rfl (fun _ _ _ h => h) (Or.inl ⟨by rfl, ?y20⟩) (by assumption) ?r20
    case y20 =>
      intro u hSw
      obtain ⟨s0, s1, s2, s3, s4⟩ := hSw
      go_simp
      try with_reducible rfl
    try simp only [Act.put, List.setIfInBounds_toArray, List.set_cons_zero, List.set_cons_succ]
    refine held_take (i := 34) (v := ?v21) rfl (by kernel_rfl) (by kernel_rfl) (by kernel_rfl) rfl (fun _ _ _ h => h) (Or.inl ⟨by rfl, ?y21⟩) (by assumption) ?r21
    case y21 =>
      intro u hSw
      obtain ⟨s0, s1, s2, s3, s4⟩ := hSw
      go_simp
      try with_reducible rfl
    try simp only [Act.put, List.setIfInBounds_toArray, List.set_cons_zero, List.set_cons_succ]
    refine held_take (i := 35) (v := ?v22) rfl (by kernel_rfl) (by kernel_rfl) (by kernel_rfl) rfl (fun _ _ _ h => h) (Or.inl ⟨by rfl, ?y22⟩) (by assumption) ?r22
    case y22 =>
      intro u hSw
      obtain ⟨s0, s1, s2, s3, s4⟩ := hSw
      go_simp
      try with_reducible rfl
    try simp only [Act.put, List.setIfInBounds_toArray, List.set_cons_zero, List.set_cons_succ]
    refine held_take (i := 36) (v := ?v23) rfl (by kernel_rfl) (by kernel_rfl) (by kernel_rfl) rfl (fun _ _ _ h => h) (Or.inl ⟨by rfl, ?y23⟩) (by assumption) ?r23
    case y23 =>
      intro u hSw
      obtain ⟨s0, s1, s2, s3, s4⟩ := hSw
      go_simp
      try with_reducible rfl
    try simp only [Act.put, List.setIfInBounds_toArray, List.set_cons_zero, List.set_cons_succ]
    refine held_two (i := 5) (j := 8) rfl rfl (by kernel_rfl) (fun K hK => ?_) (fun K hK => ?_)
    go_simp
    refine (CX0.out _ HBD.out).mono ?_
    rintro e' w24 ⟨rfl, hb24⟩
    have HB_24 : Hid (Below W.heap.size W w24) := HBD.out.trans (hb24.mono HBD.out.size)
    refine hK.out _ _ (KS.out _ HB_24.out) (fun hHeld => ?_)
    clear hK K hb24
    try simp only [Act.put, List.setIfInBounds_toArray, List.set_cons_zero, List.set_cons_succ]
    refine held_take (i := 6) (v := ?v25) rfl (by kernel_rfl) (by kernel_rfl) (by kernel_rfl) rfl (fun _ _ _ h => h) (Or.inl ⟨by rfl, ?y25⟩) (by assumption) ?r25
    case y25 =>
      intro u hSw
      obtain ⟨s0, s1, s2, s3, s4⟩ := hSw
      go_simp
      try with_reducible rfl
    try simp only [Act.put, List.setIfInBounds_toArray, List.set_cons_zero, List.set_cons_succ]
    refine held_take (i := 7) (v := ?v26) rfl (by kernel_rfl) (by kernel_rfl) (by kernel_rfl) rfl (fun _ _ _ h => h) (Or.inl ⟨by rfl, ?y26⟩) (by assumption) ?r26
    case y26 =>
      intro u hSw
      obtain ⟨s0, s1, s2, s3, s4⟩ := hSw
      go_simp
      try with_reducible rfl
    try simp only [Act.put, List.setIfInBounds_toArray, List.set_cons_zero, List.set_cons_succ]
    refine held_two (i := 8) (j := 21) rfl rfl (by kernel_rfl) (fun K hK => ?_) (fun K hK => ?_)
    go_simp
    have HB_27 : Hid (Below W.heap.size W (w24.alloc (.cells #[.string ⟨#[60]⟩, .string ⟨#[61]⟩, .string ⟨#[62]⟩] 9))) := HB_24.out.alloc HB_24.out.size _
    have HL_27 : Hid ((w24.alloc (.cells #[.string ⟨#[60]⟩, .string ⟨#[61]⟩, .string ⟨#[62]⟩] 9)).cell? ⟨w24.heap.size, 2, none⟩ = some (.string ⟨#[62]⟩)) := by simp [Hid]
    have HZ_27 : Hid (w24.heap.size < (w24.alloc (.cells #[.string ⟨#[60]⟩, .string ⟨#[61]⟩, .string ⟨#[62]⟩] 9)).heap.size) := by simp [Hid]
    refine hK.out _ _ (KS.out _ HB_27.out) (fun hHeld => ?_)
    clear hK K hHeld
    generalize hq27 : w24.heap.size = q27 at *
    generalize w24.alloc (.cells #[.string ⟨#[60]⟩, .string ⟨#[61]⟩, .string ⟨#[62]⟩] 9) = w27 at *
    refine held_weaker (S' := fun u => u.cell? ⟨w.heap.size, 0, none⟩ = some (.int .i64 8) ∧ u.cell? ⟨h0, 0, none⟩ = some (.int .i64 (x0 : Int)) ∧ u.cell? ⟨h0, 1, none⟩ = some (.int .i64 (x1 : Int)) ∧ u.cell? ⟨h0, 2, none⟩ = some (.int .i64 (x2 : Int)) ∧ u.cell? ⟨h0, 3, none⟩ = some (.int .i64 (x3 : Int)) ∧ u.cell? ⟨q27, 2, none⟩ = some (.string ⟨#[62]⟩)) (fun u hu => ⟨hu.1, hu.2.1, hu.2.2.1, hu.2.2.2.1, hu.2.2.2.2.1⟩) _ _ _ _ ?_
    have hHeld : (fun u : World => u.cell? ⟨w.heap.size, 0, none⟩ = some (.int .i64 8) ∧ u.cell? ⟨h0, 0, none⟩ = some (.int .i64 (x0 : Int)) ∧ u.cell? ⟨h0, 1, none⟩ = some (.int .i64 (x1 : Int)) ∧ u.cell? ⟨h0, 2, none⟩ = some (.int .i64 (x2 : Int)) ∧ u.cell? ⟨h0, 3, none⟩ = some (.int .i64 (x3 : Int)) ∧ u.cell? ⟨q27, 2, none⟩ = some (.string ⟨#[62]⟩)) w27 := by
      obtain ⟨z0, z1, z2, z3, z4⟩ := KS.out _ HB_27.out
      exact ⟨z0, z1, z2, z3, z4, HL_27.out⟩
    have KL : Hid (∀ u, Below w27.heap.size w27 u → u.cell? ⟨q27, 2, none⟩ = some (.string ⟨#[62]⟩)) := fun u hu => (hu.cell (p := ⟨q27, 2, none⟩) HZ_27.out).trans HL_27.out
    have HM_27 : Hid (Below w27.heap.size w27 w27) := Below.refl _ _
    try simp only [Act.put, List.setIfInBounds_toArray, List.set_cons_zero, List.set_cons_succ]
    refine held_take (i := 12) (v := ?v28) rfl (by kernel_rfl) (by kernel_rfl) (by kernel_rfl) rfl (fun _ _ _ h => h) (Or.inl ⟨by rfl, ?y28⟩) (by assumption) ?r28
    case y28 =>
      intro u hSw
      obtain ⟨s0, s1, s2, s3, s4, sl⟩ := hSw
      go_simp
      try with_reducible rfl
    try simp only [Act.put, List.setIfInBounds_toArray, List.set_cons_zero, List.set_cons_succ]
    refine held_take (i := 13) (v := ?v29) rfl (by kernel_rfl) (by kernel_rfl) (by kernel_rfl) rfl (fun _ _ _ h => h) (Or.inl ⟨by rfl, ?y29⟩) (by assumption) ?r29
    case y29 =>
      intro u hSw
      obtain ⟨s0, s1, s2, s3, s4, sl⟩ := hSw
      go_simp
      try with_reducible rfl
    try simp only [Act.put, List.setIfInBounds_toArray, List.set_cons_zero, List.set_cons_succ]
    refine held_take (i := 14) (v := ?v30) rfl (by kernel_rfl) (by kernel_rfl) (by kernel_rfl) rfl (fun _ _ _ h => h) (Or.inl ⟨by rfl, ?y30⟩) (by assumption) ?r30
    case y30 =>
      intro u hSw
      obtain ⟨s0, s1, s2, s3, s4, sl⟩ := hSw
      go_simp
      try with_reducible rfl
    try simp only [Act.put, List.setIfInBounds_toArray, List.set_cons_zero, List.set_cons_succ]
    refine held_take (i := 15) (v := ?v31) rfl (by kernel_rfl) (by kernel_rfl) (by kernel_rfl) rfl (fun _ _ _ h => h) (Or.inl ⟨by rfl, ?y31⟩) (by assumption) ?r31
    case y31 =>
      intro u hSw
      obtain ⟨s0, s1, s2, s3, s4, sl⟩ := hSw
      go_simp
      try with_reducible rfl
    try simp only [Act.put, List.setIfInBounds_toArray, List.set_cons_zero, List.set_cons_succ]
    refine held_one (i := 21) rfl (by kernel_rfl) (fun K hK => ?_)
    go_simp
    refine (CX1.out _ HB_27.out).mono ?_
    rintro e' w32 ⟨rfl, hb32⟩
    have HB_32 : Hid (Below W.heap.size W w32) := HB_27.out.trans (hb32.mono HB_27.out.size)
    have HM_32 : Hid (Below w27.heap.size w27 w32) := HM_27.out.trans (hb32.mono HM_27.out.size)
    refine hK.out _ _ (by obtain ⟨z0, z1, z2, z3, z4⟩ := KS.out _ HB_32.out; exact ⟨z0, z1, z2, z3, z4, KL.out _ HM_32.out⟩) (fun hHeld => ?_)
    clear hK K hb32
    try simp only [Act.put, List.setIfInBounds_toArray, List.set_cons_zero, List.set_cons_succ]
    refine held_take (i := 22) (v := ?v33) rfl (by kernel_rfl) (by kernel_rfl) (by kernel_rfl) rfl (fun _ _ _ h => h) (Or.inl ⟨by rfl, ?y33⟩) (by assumption) ?r33
    case y33 =>
      intro u hSw
      obtain ⟨s0, s1, s2, s3, s4, sl⟩ := hSw
      go_simp
      try with_reducible rfl
    try simp only [Act.put, List.setIfInBounds_toArray, List.set_cons_zero, List.set_cons_succ]
    refine held_take (i := 23) (v := ?v34) rfl (by kernel_rfl) (by kernel_rfl) (by kernel_rfl) rfl (fun _ _ _ h => h) (Or.inl ⟨by rfl, ?y34⟩) (by assumption) ?r34
    case y34 =>
      intro u hSw
      obtain ⟨s0, s1, s2, s3, s4, sl⟩ := hSw
      go_simp
      try with_reducible rfl
    try simp only [Act.put, List.setIfInBounds_toArray, List.set_cons_zero, List.set_cons_succ]
    refine held_one (i := 29) rfl (by kernel_rfl) (fun K hK => ?_)
    go_simp
    refine (CX2.out _ HB_32.out).mono ?_
    rintro e' w35 ⟨rfl, hb35⟩
    have HB_35 : Hid (Below W.heap.size W w35) := HB_32.out.trans (hb35.mono HB_32.out.size)
    have HM_35 : Hid (Below w27.heap.size w27 w35) := HM_32.out.trans (hb35.mono HM_32.out.size)
    refine hK.out _ _ (by obtain ⟨z0, z1, z2, z3, z4⟩ := KS.out _ HB_35.out; exact ⟨z0, z1, z2, z3, z4, KL.out _ HM_35.out⟩) (fun hHeld => ?_)
    clear hK K hb35
    try simp only [Act.put, List.setIfInBounds_toArray, List.set_cons_zero, List.set_cons_succ]
    refine held_take (i := 30) (v := ?v36) rfl (by kernel_rfl) (by kernel_rfl) (by kernel_rfl) rfl (fun _ _ _ h => h) (Or.inl ⟨by rfl, ?y36⟩) (by assumption) ?r36
    case y36 =>
      intro u hSw
      obtain ⟨s0, s1, s2, s3, s4, sl⟩ := hSw
      go_simp
      try with_reducible rfl
    try simp only [Act.put, List.setIfInBounds_toArray, List.set_cons_zero, List.set_cons_succ]
    refine held_take (i := 31) (v := ?v37) rfl (by kernel_rfl) (by kernel_rfl) (by kernel_rfl) rfl (fun _ _ _ h => h) (Or.inl ⟨by rfl, ?y37⟩) (by assumption) ?r37
    case y37 =>
      intro u hSw
      obtain ⟨s0, s1, s2, s3, s4, sl⟩ := hSw
      go_simp
      try with_reducible rfl
    try simp only [Act.put, List.setIfInBounds_toArray, List.set_cons_zero, List.set_cons_succ]
    refine held_one (i := 37) rfl (by kernel_rfl) (fun K hK => ?_)
    go_simp
    refine (CX3.out _ HB_35.out).mono ?_
    rintro e' w38 ⟨rfl, hb38⟩
    have HB_38 : Hid (Below W.heap.size W w38) := HB_35.out.trans (hb38.mono HB_35.out.size)
    have HM_38 : Hid (Below w27.heap.size w27 w38) := HM_35.out.trans (hb38.mono HM_35.out.size)
    refine hK.out _ _ (by obtain ⟨z0, z1, z2, z3, z4⟩ := KS.out _ HB_38.out; exact ⟨z0, z1, z2, z3, z4, KL.out _ HM_38.out⟩) (fun hHeld => ?_)
    clear hK K hb38
    try simp only [Act.put, List.setIfInBounds_toArray, List.set_cons_zero, List.set_cons_succ]
    refine held_take (i := 38) (v := ?v39) rfl (by kernel_rfl) (by kernel_rfl) (by kernel_rfl) rfl (fun _ _ _ h => h) (Or.inl ⟨by rfl, ?y39⟩) (by assumption) ?r39
    case y39 =>
      intro u hSw
      obtain ⟨s0, s1, s2, s3, s4, sl⟩ := hSw
      go_simp
      try with_reducible rfl
    try simp only [Act.put, List.setIfInBounds_toArray, List.set_cons_zero, List.set_cons_succ]
    refine held_take (i := 39) (v := ?v40) rfl (by kernel_rfl) (by kernel_rfl) (by kernel_rfl) rfl (fun _ _ _ h => h) (Or.inl ⟨by rfl, ?y40⟩) (by assumption) ?r40
    case y40 =>
      intro u hSw
      obtain ⟨s0, s1, s2, s3, s4, sl⟩ := hSw
      go_simp
      try with_reducible rfl
    try simp only [Act.put, List.setIfInBounds_toArray, List.set_cons_zero, List.set_cons_succ]
    refine wpAnyH_done (by kernel_rfl) ?_ _
    exact hE.out q27 _ HB_38.out
    go_simp
    refine (CX1.out _ HB_24.out).mono ?_
    rintro e' w41 ⟨rfl, hb41⟩
    have HB_41 : Hid (Below W.heap.size W w41) := HB_24.out.trans (hb41.mono HB_24.out.size)
    refine hK.out _ _ (KS.out _ HB_41.out) (fun hHeld => ?_)
    clear hK K hb41
    try simp only [Act.put, List.setIfInBounds_toArray, List.set_cons_zero, List.set_cons_succ]
    refine held_two (i := 8) (j := 29) rfl rfl (by kernel_rfl) (fun K hK => ?_) (fun K hK => ?_)
    go_simp
    have HB_42 : Hid (Below W.heap.size W (w41.alloc (.cells #[.string ⟨#[60]⟩, .string ⟨#[61]⟩, .string ⟨#[62]⟩] 9))) := HB_41.out.alloc HB_41.out.size _
    have HL_42 : Hid ((w41.alloc (.cells #[.string ⟨#[60]⟩, .string ⟨#[61]⟩, .string ⟨#[62]⟩] 9)).cell? ⟨w41.heap.size, 2, none⟩ = some (.string ⟨#[62]⟩)) := by simp [Hid]
    have HZ_42 : Hid (w41.heap.size < (w41.alloc (.cells #[.string ⟨#[60]⟩, .string ⟨#[61]⟩, .string ⟨#[62]⟩] 9)).heap.size) := by simp [Hid]
    refine hK.out _ _ (KS.out _ HB_42.out) (fun hHeld => ?_)
    clear hK K hHeld
    generalize hq42 : w41.heap.size = q42 at *
    generalize w41.alloc (.cells #[.string ⟨#[60]⟩, .string ⟨#[61]⟩, .string ⟨#[62]⟩] 9) = w42 at *
    refine held_weaker (S' := fun u => u.cell? ⟨w.heap.size, 0, none⟩ = some (.int .i64 8) ∧ u.cell? ⟨h0, 0, none⟩ = some (.int .i64 (x0 : Int)) ∧ u.cell? ⟨h0, 1, none⟩ = some (.int .i64 (x1 : Int)) ∧ u.cell? ⟨h0, 2, none⟩ = some (.int .i64 (x2 : Int)) ∧ u.cell? ⟨h0, 3, none⟩ = some (.int .i64 (x3 : Int)) ∧ u.cell? ⟨q42, 2, none⟩ = some (.string ⟨#[62]⟩)) (fun u hu => ⟨hu.1, hu.2.1, hu.2.2.1, hu.2.2.2.1, hu.2.2.2.2.1⟩) _ _ _ _ ?_
    have hHeld : (fun u : World => u.cell? ⟨w.heap.size, 0, none⟩ = some (.int .i64 8) ∧ u.cell? ⟨h0, 0, none⟩ = some (.int .i64 (x0 : Int)) ∧ u.cell? ⟨h0, 1, none⟩ = some (.int .i64 (x1 : Int)) ∧ u.cell? ⟨h0, 2, none⟩ = some (.int .i64 (x2 : Int)) ∧ u.cell? ⟨h0, 3, none⟩ = some (.int .i64 (x3 : Int)) ∧ u.cell? ⟨q42, 2, none⟩ = some (.string ⟨#[62]⟩)) w42 := by
      obtain ⟨z0, z1, z2, z3, z4⟩ := KS.out _ HB_42.out
      exact ⟨z0, z1, z2, z3, z4, HL_42.out⟩
    have KL : Hid (∀ u, Below w42.heap.size w42 u → u.cell? ⟨q42, 2, none⟩ = some (.string ⟨#[62]⟩)) := fun u hu => (hu.cell (p := ⟨q42, 2, none⟩) HZ_42.out).trans HL_42.out
    have HM_42 : Hid (Below w42.heap.size w42 w42) := Below.refl _ _
    try simp only [Act.put, List.setIfInBounds_toArray, List.set_cons_zero, List.set_cons_succ]
    refine held_take (i := 12) (v := ?v43) rfl (by kernel_rfl) (by kernel_rfl) (by kernel_rfl) rfl (fun _ _ _ h => h) (Or.inl ⟨by rfl, ?y43⟩) (by assumption) ?r43
    case y43 =>
      intro u hSw
      obtain ⟨s0, s1, s2, s3, s4, sl⟩ := hSw
      go_simp
      try with_reducible rfl
    try simp only [Act.put, List.setIfInBounds_toArray, List.set_cons_zero, List.set_cons_succ]
    refine held_take (i := 13) (v := ?v44) rfl (by kernel_rfl) (by kernel_rfl) (by kernel_rfl) rfl (fun _ _ _ h => h) (Or.inl ⟨by rfl, ?y44⟩) (by assumption) ?r44
    case y44 =>
      intro u hSw
      obtain ⟨s0, s1, s2, s3, s4, sl⟩ := hSw
      go_simp
      try with_reducible rfl
    try simp only [Act.put, List.setIfInBounds_toArray, List.set_cons_zero, List.set_cons_succ]
    refine held_take (i := 14) (v := ?v45) rfl (by kernel_rfl) (by kernel_rfl) (by kernel_rfl) rfl (fun _ _ _ h => h) (Or.inl ⟨by rfl, ?y45⟩) (by assumption) ?r45
    case y45 =>
      intro u hSw
      obtain ⟨s0, s1, s2, s3, s4, sl⟩ := hSw
      go_simp
      try with_reducible rfl
    try simp only [Act.put, List.setIfInBounds_toArray, List.set_cons_zero, List.set_cons_succ]
    refine held_take (i := 15) (v := ?v46) rfl (by kernel_rfl) (by kernel_rfl) (by kernel_rfl) rfl (fun _ _ _ h => h) (Or.inl ⟨by rfl, ?y46⟩) (by assumption) ?r46
    case y46 =>
      intro u hSw
      obtain ⟨s0, s1, s2, s3, s4, sl⟩ := hSw
      go_simp
      try with_reducible rfl
    try simp only [Act.put, List.setIfInBounds_toArray, List.set_cons_zero, List.set_cons_succ]
    refine held_take (i := 22) (v := ?v47) rfl (by kernel_rfl) (by kernel_rfl) (by kernel_rfl) rfl (fun _ _ _ h => h) (Or.inl ⟨by rfl, ?y47⟩) (by assumption) ?r47
    case y47 =>
      intro u hSw
      obtain ⟨s0, s1, s2, s3, s4, sl⟩ := hSw
      go_simp
      try with_reducible rfl
    try simp only [Act.put, List.setIfInBounds_toArray, List.set_cons_zero, List.set_cons_succ]
    refine held_take (i := 23) (v := ?v48) rfl (by kernel_rfl) (by kernel_rfl) (by kernel_rfl) rfl (fun _ _ _ h => h) (Or.inl ⟨by rfl, ?y48⟩) (by assumption) ?r48
    case y48 =>
      intro u hSw
      obtain ⟨s0, s1, s2, s3, s4, sl⟩ := hSw
      go_simp
      try with_reducible rfl
    try simp only [Act.put, List.setIfInBounds_toArray, List.set_cons_zero, List.set_cons_succ]
    refine held_one (i := 29) rfl (by kernel_rfl) (fun K hK => ?_)
    go_simp
    refine (CX2.out _ HB_42.out).mono ?_
    rintro e' w49 ⟨rfl, hb49⟩
    have HB_49 : Hid (Below W.heap.size W w49) := HB_42.out.trans (hb49.mono HB_42.out.size)
    have HM_49 : Hid (Below w42.heap.size w42 w49) := HM_42.out.trans (hb49.mono HM_42.out.size)
    refine hK.out _ _ (by obtain ⟨z0, z1, z2, z3, z4⟩ := KS.out _ HB_49.out; exact ⟨z0, z1, z2, z3, z4, KL.out _ HM_49.out⟩) (fun hHeld => ?_)
    clear hK K hb49
    try simp only [Act.put, List.setIfInBounds_toArray, List.set_cons_zero, List.set_cons_succ]
    refine held_take (i := 30) (v := ?v50) rfl (by kernel_rfl) (by kernel_rfl) (by kernel_rfl) rfl (fun _ _ _ h => h) (Or.inl ⟨by rfl, ?y50⟩) (by assumption) ?r50
    case y50 =>
      intro u hSw
      obtain ⟨s0, s1, s2, s3, s4, sl⟩ := hSw
      go_simp
      try with_reducible rfl
    try simp only [Act.put, List.setIfInBounds_toArray, List.set_cons_zero, List.set_cons_succ]
    refine held_take (i := 31) (v := ?v51) rfl (by kernel_rfl) (by kernel_rfl) (by kernel_rfl) rfl (fun _ _ _ h => h) (Or.inl ⟨by rfl, ?y51⟩) (by assumption) ?r51
    case y51 =>
      intro u hSw
      obtain ⟨s0, s1, s2, s3, s4, sl⟩ := hSw
      go_simp
      try with_reducible rfl
    try simp only [Act.put, List.setIfInBounds_toArray, List.set_cons_zero, List.set_cons_succ]
    refine held_one (i := 37) rfl (by kernel_rfl) (fun K hK => ?_)
    go_simp
    refine (CX3.out _ HB_49.out).mono ?_
    rintro e' w52 ⟨rfl, hb52⟩
    have HB_52 : Hid (Below W.heap.size W w52) := HB_49.out.trans (hb52.mono HB_49.out.size)
    have HM_52 : Hid (Below w42.heap.size w42 w52) := HM_49.out.trans (hb52.mono HM_49.out.size)
    refine hK.out _ _ (by obtain ⟨z0, z1, z2, z3, z4⟩ := KS.out _ HB_52.out; exact ⟨z0, z1, z2, z3, z4, KL.out _ HM_52.out⟩) (fun hHeld => ?_)
    clear hK K hb52
    try simp only [Act.put, List.setIfInBounds_toArray, List.set_cons_zero, List.set_cons_succ]
    refine held_take (i := 38) (v := ?v53) rfl (by kernel_rfl) (by kernel_rfl) (by kernel_rfl) rfl (fun _ _ _ h => h) (Or.inl ⟨by rfl, ?y53⟩) (by assumption) ?r53
    case y53 =>
      intro u hSw
      obtain ⟨s0, s1, s2, s3, s4, sl⟩ := hSw
      go_simp
      try with_reducible rfl
    try simp only [Act.put, List.setIfInBounds_toArray, List.set_cons_zero, List.set_cons_succ]
    refine held_take (i := 39) (v := ?v54) rfl (by kernel_rfl) (by kernel_rfl) (by kernel_rfl) rfl (fun _ _ _ h => h) (Or.inl ⟨by rfl, ?y54⟩) (by assumption) ?r54
    case y54 =>
      intro u hSw
      obtain ⟨s0, s1, s2, s3, s4, sl⟩ := hSw
      go_simp
      try with_reducible rfl
    try simp only [Act.put, List.setIfInBounds_toArray, List.set_cons_zero, List.set_cons_succ]
    refine wpAnyH_done (by kernel_rfl) ?_ _
    exact hE.out q42 _ HB_52.out
    go_simp
    refine (CX2.out _ HB_41.out).mono ?_
    rintro e' w55 ⟨rfl, hb55⟩
    have HB_55 : Hid (Below W.heap.size W w55) := HB_41.out.trans (hb55.mono HB_41.out.size)
    refine hK.out _ _ (KS.out _ HB_55.out) (fun hHeld => ?_)
    clear hK K hb55
    try simp only [Act.put, List.setIfInBounds_toArray, List.set_cons_zero, List.set_cons_succ]
    refine held_two (i := 8) (j := 37) rfl rfl (by kernel_rfl) (fun K hK => ?_) (fun K hK => ?_)
    go_simp
    have HB_56 : Hid (Below W.heap.size W (w55.alloc (.cells #[.string ⟨#[60]⟩, .string ⟨#[61]⟩, .string ⟨#[62]⟩] 9))) := HB_55.out.alloc HB_55.out.size _
    have HL_56 : Hid ((w55.alloc (.cells #[.string ⟨#[60]⟩, .string ⟨#[61]⟩, .string ⟨#[62]⟩] 9)).cell? ⟨w55.heap.size, 2, none⟩ = some (.string ⟨#[62]⟩)) := by simp [Hid]
    have HZ_56 : Hid (w55.heap.size < (w55.alloc (.cells #[.string ⟨#[60]⟩, .string ⟨#[61]⟩, .string ⟨#[62]⟩] 9)).heap.size) := by simp [Hid]
    refine hK.out _ _ (KS.out _ HB_56.out) (fun hHeld => ?_)
    clear hK K hHeld
    generalize hq56 : w55.heap.size = q56 at *
    generalize w55.alloc (.cells #[.string ⟨#[60]⟩, .string ⟨#[61]⟩, .string ⟨#[62]⟩] 9) = w56 at *
    refine held_weaker (S' := fun u => u.cell? ⟨w.heap.size, 0, none⟩ = some (.int .i64 8) ∧ u.cell? ⟨h0, 0, none⟩ = some (.int .i64 (x0 : Int)) ∧ u.cell? ⟨h0, 1, none⟩ = some (.int .i64 (x1 : Int)) ∧ u.cell? ⟨h0, 2, none⟩ = some (.int .i64 (x2 : Int)) ∧ u.cell? ⟨h0, 3, none⟩ = some (.int .i64 (x3 : Int)) ∧ u.cell? ⟨q56, 2, none⟩ = some (.string ⟨#[62]⟩)) (fun u hu => ⟨hu.1, hu.2.1, hu.2.2.1, hu.2.2.2.1, hu.2.2.2.2.1⟩) _ _ _ _ ?_
    have hHeld : (fun u : World => u.cell? ⟨w.heap.size, 0, none⟩ = some (.int .i64 8) ∧ u.cell? ⟨h0, 0, none⟩ = some (.int .i64 (x0 : Int)) ∧ u.cell? ⟨h0, 1, none⟩ = some (.int .i64 (x1 : Int)) ∧ u.cell? ⟨h0, 2, none⟩ = some (.int .i64 (x2 : Int)) ∧ u.cell? ⟨h0, 3, none⟩ = some (.int .i64 (x3 : Int)) ∧ u.cell? ⟨q56, 2, none⟩ = some (.string ⟨#[62]⟩)) w56 := by
      obtain ⟨z0, z1, z2, z3, z4⟩ := KS.out _ HB_56.out
      exact ⟨z0, z1, z2, z3, z4, HL_56.out⟩
    have KL : Hid (∀ u, Below w56.heap.size w56 u → u.cell? ⟨q56, 2, none⟩ = some (.string ⟨#[62]⟩)) := fun u hu => (hu.cell (p := ⟨q56, 2, none⟩) HZ_56.out).trans HL_56.out
    have HM_56 : Hid (Below w56.heap.size w56 w56) := Below.refl _ _
    try simp only [Act.put, List.setIfInBounds_toArray, List.set_cons_zero, List.set_cons_succ]
    refine held_take (i := 12) (v := ?v57) rfl (by kernel_rfl) (by kernel_rfl) (by kernel_rfl) rfl (fun _ _ _ h => h) (Or.inl ⟨by rfl, ?y57⟩) (by assumption) ?r57
    case y57 =>
      intro u hSw
      obtain ⟨s0, s1, s2, s3, s4, sl⟩ := hSw
      go_simp
      try with_reducible rfl
    try simp only [Act.put, List.setIfInBounds_toArray, List.set_cons_zero, List.set_cons_succ]
    refine held_take (i := 13) (v := ?v58) rfl (by kernel_rfl) (by kernel_rfl) (by kernel_rfl) rfl (fun _ _ _ h => h) (Or.inl ⟨by rfl, ?y58⟩) (by assumption) ?r58
    case y58 =>
      intro u hSw
      obtain ⟨s0, s1, s2, s3, s4, sl⟩ := hSw
      go_simp
      try with_reducible rfl
    try simp only [Act.put, List.setIfInBounds_toArray, List.set_cons_zero, List.set_cons_succ]
    refine held_take (i := 14) (v := ?v59) rfl (by kernel_rfl) (by kernel_rfl) (by kernel_rfl) rfl (fun _ _ _ h => h) (Or.inl ⟨by rfl, ?y59⟩) (by assumption) ?r59
    case y59 =>
      intro u hSw
      obtain ⟨s0, s1, s2, s3, s4, sl⟩ := hSw
      go_simp
      try with_reducible rfl
    try simp only [Act.put, List.setIfInBounds_toArray, List.set_cons_zero, List.set_cons_succ]
    refine held_take (i := 15) (v := ?v60) rfl (by kernel_rfl) (by kernel_rfl) (by kernel_rfl) rfl (fun _ _ _ h => h) (Or.inl ⟨by rfl, ?y60⟩) (by assumption) ?r60
    case y60 =>
      intro u hSw
      obtain ⟨s0, s1, s2, s3, s4, sl⟩ := hSw
      go_simp
      try with_reducible rfl
    try simp only [Act.put, List.setIfInBounds_toArray, List.set_cons_zero, List.set_cons_succ]
    refine held_take (i := 22) (v := ?v61) rfl (by kernel_rfl) (by kernel_rfl) (by kernel_rfl) rfl (fun _ _ _ h => h) (Or.inl ⟨by rfl, ?y61⟩) (by assumption) ?r61
    case y61 =>
      intro u hSw
      obtain ⟨s0, s1, s2, s3, s4, sl⟩ := hSw
      go_simp
      try with_reducible rfl
    try simp only [Act.put, List.setIfInBounds_toArray, List.set_cons_zero, List.set_cons_succ]
    refine held_take (i := 23) (v := ?v62) rfl (by kernel_rfl) (by kernel_rfl) (by kernel_rfl) rfl (fun _ _ _ h => h) (Or.inl ⟨by rfl, ?y62⟩) (by assumption) ?r62
    case y62 =>
      intro u hSw
      obtain ⟨s0, s1, s2, s3, s4, sl⟩ := hSw
      go_simp
      try with_reducible rfl
    try simp only [Act.put, List.setIfInBounds_toArray, List.set_cons_zero, List.set_cons_succ]
    refine held_take (i := 30) (v := ?v63) rfl (by kernel_rfl) (by kernel_rfl) (by kernel_rfl) rfl (fun _ _ _ h => h) (Or.inl ⟨by rfl, ?y63⟩) (by assumption) ?r63
    case y63 =>
      intro u hSw
      obtain ⟨s0, s1, s2, s3, s4, sl⟩ := hSw
      go_simp
      try with_reducible rfl
    try simp only [Act.put, List.setIfInBounds_toArray, List.set_cons_zero, List.set_cons_succ]
    refine held_take (i := 31) (v := ?v64) rfl (by kernel_rfl) (by kernel_rfl) (by kernel_rfl) rfl (fun _ _ _ h => h) (Or.inl ⟨by rfl, ?y64⟩) (by assumption) ?r64
    case y64 =>
      intro u hSw
      obtain ⟨s0, s1, s2, s3, s4, sl⟩ := hSw
      go_simp
      try with_reducible rfl
    try simp only [Act.put, List.setIfInBounds_toArray, List.set_cons_zero, List.set_cons_succ]
    refine held_one (i := 37) rfl (by kernel_rfl) (fun K hK => ?_)
    go_simp
    refine (CX3.out _ HB_56.out).mono ?_
    rintro e' w65 ⟨rfl, hb65⟩
    have HB_65 : Hid (Below W.heap.size W w65) := HB_56.out.trans (hb65.mono HB_56.out.size)
    have HM_65 : Hid (Below w56.heap.size w56 w65) := HM_56.out.trans (hb65.mono HM_56.out.size)
    refine hK.out _ _ (by obtain ⟨z0, z1, z2, z3, z4⟩ := KS.out _ HB_65.out; exact ⟨z0, z1, z2, z3, z4, KL.out _ HM_65.out⟩) (fun hHeld => ?_)
    clear hK K hb65
    try simp only [Act.put, List.setIfInBounds_toArray, List.set_cons_zero, List.set_cons_succ]
    refine held_take (i := 38) (v := ?v66) rfl (by kernel_rfl) (by kernel_rfl) (by kernel_rfl) rfl (fun _ _ _ h => h) (Or.inl ⟨by rfl, ?y66⟩) (by assumption) ?r66
    case y66 =>
      intro u hSw
      obtain ⟨s0, s1, s2, s3, s4, sl⟩ := hSw
      go_simp
      try with_reducible rfl
    try simp only [Act.put, List.setIfInBounds_toArray, List.set_cons_zero, List.set_cons_succ]
    refine held_take (i := 39) (v := ?v67) rfl (by kernel_rfl) (by kernel_rfl) (by kernel_rfl) rfl (fun _ _ _ h => h) (Or.inl ⟨by rfl, ?y67⟩) (by assumption) ?r67
    case y67 =>
      intro u hSw
      obtain ⟨s0, s1, s2, s3, s4, sl⟩ := hSw
      go_simp
      try with_reducible rfl
    try simp only [Act.put, List.setIfInBounds_toArray, List.set_cons_zero, List.set_cons_succ]
    refine wpAnyH_done (by kernel_rfl) ?_ _
    exact hE.out q56 _ HB_65.out
    go_simp
    refine (CX3.out _ HB_55.out).mono ?_
    rintro e' w68 ⟨rfl, hb68⟩
    have HB_68 : Hid (Below W.heap.size W w68) := HB_55.out.trans (hb68.mono HB_55.out.size)
    refine hK.out _ _ (KS.out _ HB_68.out) (fun hHeld => ?_)
    clear hK K hb68
    try simp only [Act.put, List.setIfInBounds_toArray, List.set_cons_zero, List.set_cons_succ]
    refine held_one (i := 8) rfl (by kernel_rfl) (fun K hK => ?_)
    go_simp
    have HB_69 : Hid (Below W.heap.size W (w68.alloc (.cells #[.string ⟨#[60]⟩, .string ⟨#[61]⟩, .string ⟨#[62]⟩] 9))) := HB_68.out.alloc HB_68.out.size _
    have HL_69 : Hid ((w68.alloc (.cells #[.string ⟨#[60]⟩, .string ⟨#[61]⟩, .string ⟨#[62]⟩] 9)).cell? ⟨w68.heap.size, 2, none⟩ = some (.string ⟨#[62]⟩)) := by simp [Hid]
    have HZ_69 : Hid (w68.heap.size < (w68.alloc (.cells #[.string ⟨#[60]⟩, .string ⟨#[61]⟩, .string ⟨#[62]⟩] 9)).heap.size) := by simp [Hid]
    refine hK.out _ _ (KS.out _ HB_69.out) (fun hHeld => ?_)
    clear hK K hHeld
    generalize hq69 : w68.heap.size = q69 at *
    generalize w68.alloc (.cells #[.string ⟨#[60]⟩, .string ⟨#[61]⟩, .string ⟨#[62]⟩] 9) = w69 at *
    refine held_weaker (S' := fun u => u.cell? ⟨w.heap.size, 0, none⟩ = some (.int .i64 8) ∧ u.cell? ⟨h0, 0, none⟩ = some (.int .i64 (x0 : Int)) ∧ u.cell? ⟨h0, 1, none⟩ = some (.int .i64 (x1 : Int)) ∧ u.cell? ⟨h0, 2, none⟩ = some (.int .i64 (x2 : Int)) ∧ u.cell? ⟨h0, 3, none⟩ = some (.int .i64 (x3 : Int)) ∧ u.cell? ⟨q69, 2, none⟩ = some (.string ⟨#[62]⟩)) (fun u hu => ⟨hu.1, hu.2.1, hu.2.2.1, hu.2.2.2.1, hu.2.2.2.2.1⟩) _ _ _ _ ?_
    have hHeld : (fun u : World => u.cell? ⟨w.heap.size, 0, none⟩ = some (.int .i64 8) ∧ u.cell? ⟨h0, 0, none⟩ = some (.int .i64 (x0 : Int)) ∧ u.cell? ⟨h0, 1, none⟩ = some (.int .i64 (x1 : Int)) ∧ u.cell? ⟨h0, 2, none⟩ = some (.int .i64 (x2 : Int)) ∧ u.cell? ⟨h0, 3, none⟩ = some (.int .i64 (x3 : Int)) ∧ u.cell? ⟨q69, 2, none⟩ = some (.string ⟨#[62]⟩)) w69 := by
      obtain ⟨z0, z1, z2, z3, z4⟩ := KS.out _ HB_69.out
      exact ⟨z0, z1, z2, z3, z4, HL_69.out⟩
    have KL : Hid (∀ u, Below w69.heap.size w69 u → u.cell? ⟨q69, 2, none⟩ = some (.string ⟨#[62]⟩)) := fun u hu => (hu.cell (p := ⟨q69, 2, none⟩) HZ_69.out).trans HL_69.out
    have HM_69 : Hid (Below w69.heap.size w69 w69) := Below.refl _ _
    try simp only [Act.put, List.setIfInBounds_toArray, List.set_cons_zero, List.set_cons_succ]
    refine held_take (i := 12) (v := ?v70) rfl (by kernel_rfl) (by kernel_rfl) (by kernel_rfl) rfl (fun _ _ _ h => h) (Or.inl ⟨by rfl, ?y70⟩) (by assumption) ?r70
    case y70 =>
      intro u hSw
      obtain ⟨s0, s1, s2, s3, s4, sl⟩ := hSw
      go_simp
      try with_reducible rfl
    try simp only [Act.put, List.setIfInBounds_toArray, List.set_cons_zero, List.set_cons_succ]
    refine held_take (i := 13) (v := ?v71) rfl (by kernel_rfl) (by kernel_rfl) (by kernel_rfl) rfl (fun _ _ _ h => h) (Or.inl ⟨by rfl, ?y71⟩) (by assumption) ?r71
    case y71 =>
      intro u hSw
      obtain ⟨s0, s1, s2, s3, s4, sl⟩ := hSw
      go_simp
      try with_reducible rfl
    try simp only [Act.put, List.setIfInBounds_toArray, List.set_cons_zero, List.set_cons_succ]
    refine held_take (i := 14) (v := ?v72) rfl (by kernel_rfl) (by kernel_rfl) (by kernel_rfl) rfl (fun _ _ _ h => h) (Or.inl ⟨by rfl, ?y72⟩) (by assumption) ?r72
    case y72 =>
      intro u hSw
      obtain ⟨s0, s1, s2, s3, s4, sl⟩ := hSw
      go_simp
      try with_reducible rfl
    try simp only [Act.put, List.setIfInBounds_toArray, List.set_cons_zero, List.set_cons_succ]
    refine held_take (i := 15) (v := ?v73) rfl (by kernel_rfl) (by kernel_rfl) (by kernel_rfl) rfl (fun _ _ _ h => h) (Or.inl ⟨by rfl, ?y73⟩) (by assumption) ?r73
    case y73 =>
      intro u hSw
      obtain ⟨s0, s1, s2, s3, s4, sl⟩ := hSw
      go_simp
      try with_reducible rfl
    try simp only [Act.put, List.setIfInBounds_toArray, List.set_cons_zero, List.set_cons_succ]
    refine held_take (i := 22) (v := ?v74) rfl (by kernel_rfl) (by kernel_rfl) (by kernel_rfl) rfl (fun _ _ _ h => h) (Or.inl ⟨by rfl, ?y74⟩) (by assumption) ?r74
    case y74 =>
      intro u hSw
      obtain ⟨s0, s1, s2, s3, s4, sl⟩ := hSw
      go_simp
      try with_reducible rfl
    try simp only [Act.put, List.setIfInBounds_toArray, List.set_cons_zero, List.set_cons_succ]
    refine held_take (i := 23) (v := ?v75) rfl (by kernel_rfl) (by kernel_rfl) (by kernel_rfl) rfl (fun _ _ _ h => h) (Or.inl ⟨by rfl, ?y75⟩) (by assumption) ?r75
    case y75 =>
      intro u hSw
      obtain ⟨s0, s1, s2, s3, s4, sl⟩ := hSw
      go_simp
      try with_reducible rfl
    try simp only [Act.put, List.setIfInBounds_toArray, List.set_cons_zero, List.set_cons_succ]
    refine held_take (i := 30) (v := ?v76) rfl (by kernel_rfl) (by kernel_rfl) (by kernel_rfl) rfl (fun _ _ _ h => h) (Or.inl ⟨by rfl, ?y76⟩) (by assumption) ?r76
    case y76 =>
      intro u hSw
      obtain ⟨s0, s1, s2, s3, s4, sl⟩ := hSw
      go_simp
      try with_reducible rfl
    try simp only [Act.put, List.setIfInBounds_toArray, List.set_cons_zero, List.set_cons_succ]
    refine held_take (i := 31) (v := ?v77) rfl (by kernel_rfl) (by kernel_rfl) (by kernel_rfl) rfl (fun _ _ _ h => h) (Or.inl ⟨by rfl, ?y77⟩) (by assumption) ?r77
    case y77 =>
      intro u hSw
      obtain ⟨s0, s1, s2, s3, s4, sl⟩ := hSw
      go_simp
      try with_reducible rfl
    try simp only [Act.put, List.setIfInBounds_toArray, List.set_cons_zero, List.set_cons_succ]
    refine held_take (i := 38) (v := ?v78) rfl (by kernel_rfl) (by kernel_rfl) (by kernel_rfl) rfl (fun _ _ _ h => h) (Or.inl ⟨by rfl, ?y78⟩) (by assumption) ?r78
    case y78 =>
      intro u hSw
      obtain ⟨s0, s1, s2, s3, s4, sl⟩ := hSw
      go_simp
      try with_reducible rfl
    try simp only [Act.put, List.setIfInBounds_toArray, List.set_cons_zero, List.set_cons_succ]
    refine held_take (i := 39) (v := ?v79) rfl (by kernel_rfl) (by kernel_rfl) (by kernel_rfl) rfl (fun _ _ _ h => h) (Or.inl ⟨by rfl, ?y79⟩) (by assumption) ?r79
    case y79 =>
      intro u hSw
      obtain ⟨s0, s1, s2, s3, s4, sl⟩ := hSw
      go_simp
      try with_reducible rfl
    try simp only [Act.put, List.setIfInBounds_toArray, List.set_cons_zero, List.set_cons_succ]
    refine wpAnyH_done (by kernel_rfl) ?_ _
    exact hE.out q69 _ HB_69.out
    go_simp
    have HB_80 : Hid (Below W.heap.size W (WD.alloc (.cells #[.string ⟨#[60]⟩, .string ⟨#[61]⟩, .string ⟨#[62]⟩] 9))) := HBD.out.alloc HBD.out.size _
    have HL_80 : Hid ((WD.alloc (.cells #[.string ⟨#[60]⟩, .string ⟨#[61]⟩, .string ⟨#[62]⟩] 9)).cell? ⟨WD.heap.size, 2, none⟩ = some (.string ⟨#[62]⟩)) := by simp [Hid]
    have HZ_80 : Hid (WD.heap.size < (WD.alloc (.cells #[.string ⟨#[60]⟩, .string ⟨#[61]⟩, .string ⟨#[62]⟩] 9)).heap.size) := by simp [Hid]
    refine hK.out _ _ (KS.out _ HB_80.out) (fun hHeld => ?_)
    clear hK K hHeld
    generalize hq80 : WD.heap.size = q80 at *
    generalize WD.alloc (.cells #[.string ⟨#[60]⟩, .string ⟨#[61]⟩, .string ⟨#[62]⟩] 9) = w80 at *
    refine held_weaker (S' := fun u => u.cell? ⟨w.heap.size, 0, none⟩ = some (.int .i64 8) ∧ u.cell? ⟨h0, 0, none⟩ = some (.int .i64 (x0 : Int)) ∧ u.cell? ⟨h0, 1, none⟩ = some (.int .i64 (x1 : Int)) ∧ u.cell? ⟨h0, 2, none⟩ = some (.int .i64 (x2 : Int)) ∧ u.cell? ⟨h0, 3, none⟩ = some (.int .i64 (x3 : Int)) ∧ u.cell? ⟨q80, 2, none⟩ = some (.string ⟨#[62]⟩)) (fun u hu => ⟨hu.1, hu.2.1, hu.2.2.1, hu.2.2.2.1, hu.2.2.2.2.1⟩) _ _ _ _ ?_
    have hHeld : (fun u : World => u.cell? ⟨w.heap.size, 0, none⟩ = some (.int .i64 8) ∧ u.cell? ⟨h0, 0, none⟩ = some (.int .i64 (x0 : Int)) ∧ u.cell? ⟨h0, 1, none⟩ = some (.int .i64 (x1 : Int)) ∧ u.cell? ⟨h0, 2, none⟩ = some (.int .i64 (x2 : Int)) ∧ u.cell? ⟨h0, 3, none⟩ = some (.int .i64 (x3 : Int)) ∧ u.cell? ⟨q80, 2, none⟩ = some (.string ⟨#[62]⟩)) w80 := by
      obtain ⟨z0, z1, z2, z3, z4⟩ := KS.out _ HB_80.out
      exact ⟨z0, z1, z2, z3, z4, HL_80.out⟩
    have KL : Hid (∀ u, Below w80.heap.size w80 u → u.cell? ⟨q80, 2, none⟩ = some (.string ⟨#[62]⟩)) := fun u hu => (hu.cell (p := ⟨q80, 2, none⟩) HZ_80.out).trans HL_80.out
    have HM_80 : Hid (Below w80.heap.size w80 w80) := Below.refl _ _
    try simp only [Act.put, List.setIfInBounds_toArray, List.set_cons_zero, List.set_cons_succ]
    refine held_take (i := 12) (v := ?v81) rfl (by kernel_rfl) (by kernel_rfl) (by kernel_rfl) rfl (fun _ _ _ h => h) (Or.inl ⟨by rfl, ?y81⟩) (by assumption) ?r81
    case y81 =>
      intro u hSw
      obtain ⟨s0, s1, s2, s3, s4, sl⟩ := hSw
      go_simp
      try with_reducible rfl
    try simp only [Act.put, List.setIfInBounds_toArray, List.set_cons_zero, List.set_cons_succ]
    refine held_take (i := 13) (v := ?v82) rfl (by kernel_rfl) (by kernel_rfl) (by kernel_rfl) rfl (fun _ _ _ h => h) (Or.inl ⟨by rfl, ?y82⟩) (by assumption) ?r82
    case y82 =>
      intro u hSw
      obtain ⟨s0, s1, s2, s3, s4, sl⟩ := hSw
      go_simp
      try with_reducible rfl
    try simp only [Act.put, List.setIfInBounds_toArray, List.set_cons_zero, List.set_cons_succ]
    refine held_one (i := 5) rfl (by kernel_rfl) (fun K hK => ?_)
    go_simp
    refine (CX0.out _ HB_80.out).mono ?_
    rintro e' w83 ⟨rfl, hb83⟩
    have HB_83 : Hid (Below W.heap.size W w83) := HB_80.out.trans (hb83.mono HB_80.out.size)
    have HM_83 : Hid (Below w80.heap.size w80 w83) := HM_80.out.trans (hb83.mono HM_80.out.size)
    refine hK.out _ _ (by obtain ⟨z0, z1, z2, z3, z4⟩ := KS.out _ HB_83.out; exact ⟨z0, z1, z2, z3, z4, KL.out _ HM_83.out⟩) (fun hHeld => ?_)
    clear hK K hb83
    try simp only [Act.put, List.setIfInBounds_toArray, List.set_cons_zero, List.set_cons_succ]
    refine held_take (i := 6) (v := ?v84) rfl (by kernel_rfl) (by kernel_rfl) (by kernel_rfl) rfl (fun _ _ _ h => h) (Or.inl ⟨by rfl, ?y84⟩) (by assumption) ?r84
    case y84 =>
      intro u hSw
      obtain ⟨s0, s1, s2, s3, s4, sl⟩ := hSw
      go_simp
      try with_reducible rfl
    try simp only [Act.put, List.setIfInBounds_toArray, List.set_cons_zero, List.set_cons_succ]
    refine held_take (i := 7) (v := ?v85) rfl (by kernel_rfl) (by kernel_rfl) (by kernel_rfl) rfl (fun _ _ _ h => h) (Or.inl ⟨by rfl, ?y85⟩) (by assumption) ?r85
    case y85 =>
      intro u hSw
      obtain ⟨s0, s1, s2, s3, s4, sl⟩ := hSw
      go_simp
      try with_reducible rfl
    try simp only [Act.put, List.setIfInBounds_toArray, List.set_cons_zero, List.set_cons_succ]
    refine held_take (i := 14) (v := ?v86) rfl (by kernel_rfl) (by kernel_rfl) (by kernel_rfl) rfl (fun _ _ _ h => h) (Or.inl ⟨by rfl, ?y86⟩) (by assumption) ?r86
    case y86 =>
      intro u hSw
      obtain ⟨s0, s1, s2, s3, s4, sl⟩ := hSw
      go_simp
      try with_reducible rfl
    try simp only [Act.put, List.setIfInBounds_toArray, List.set_cons_zero, List.set_cons_succ]
    refine held_take (i := 15) (v := ?v87) rfl (by kernel_rfl) (by kernel_rfl) (by kernel_rfl) rfl (fun _ _ _ h => h) (Or.inl ⟨by rfl, ?y87⟩) (by assumption) ?r87
    case y87 =>
      intro u hSw
      obtain ⟨s0, s1, s2, s3, s4, sl⟩ := hSw
      go_simp
      try with_reducible rfl
    try simp only [Act.put, List.setIfInBounds_toArray, List.set_cons_zero, List.set_cons_succ]
    refine held_one (i := 21) rfl (by kernel_rfl) (fun K hK => ?_)
    go_simp
    refine (CX1.out _ HB_83.out).mono ?_
    rintro e' w88 ⟨rfl, hb88⟩
    have HB_88 : Hid (Below W.heap.size W w88) := HB_83.out.trans (hb88.mono HB_83.out.size)
    have HM_88 : Hid (Below w80.heap.size w80 w88) := HM_83.out.trans (hb88.mono HM_83.out.size)
    refine hK.out _ _ (by obtain ⟨z0, z1, z2, z3, z4⟩ := KS.out _ HB_88.out; exact ⟨z0, z1, z2, z3, z4, KL.out _ HM_88.out⟩) (fun hHeld => ?_)
    clear hK K hb88
    try simp only [Act.put, List.setIfInBounds_toArray, List.set_cons_zero, List.set_cons_succ]
    refine held_take (i := 22) (v := ?v89) rfl (by kernel_rfl) (by kernel_rfl) (by kernel_rfl) rfl (fun _ _ _ h => h) (Or.inl ⟨by rfl, ?y89⟩) (by assumption) ?r89
    case y89 =>
      intro u hSw
      obtain ⟨s0, s1, s2, s3, s4, sl⟩ := hSw
      go_simp
      try with_reducible rfl
    try simp only [Act.put, List.setIfInBounds_toArray, List.set_cons_zero, List.set_cons_succ]
    refine held_take (i := 23) (v := ?v90) rfl (by kernel_rfl) (by kernel_rfl) (by kernel_rfl) rfl (fun _ _ _ h => h) (Or.inl ⟨by rfl, ?y90⟩) (by assumption) ?r90
    case y90 =>
      intro u hSw
      obtain ⟨s0, s1, s2, s3, s4, sl⟩ := hSw
      go_simp
      try with_reducible rfl
    try simp only [Act.put, List.setIfInBounds_toArray, List.set_cons_zero, List.set_cons_succ]
    refine held_one (i := 29) rfl (by kernel_rfl) (fun K hK => ?_)
    go_simp
    refine (CX2.out _ HB_88.out).mono ?_
    rintro e' w91 ⟨rfl, hb91⟩
    have HB_91 : Hid (Below W.heap.size W w91) := HB_88.out.trans (hb91.mono HB_88.out.size)
    have HM_91 : Hid (Below w80.heap.size w80 w91) := HM_88.out.trans (hb91.mono HM_88.out.size)
    refine hK.out _ _ (by obtain ⟨z0, z1, z2, z3, z4⟩ := KS.out _ HB_91.out; exact ⟨z0, z1, z2, z3, z4, KL.out _ HM_91.out⟩) (fun hHeld => ?_)
    clear hK K hb91
    try simp only [Act.put, List.setIfInBounds_toArray, List.set_cons_zero, List.set_cons_succ]
    refine held_take (i := 30) (v := ?v92) rfl (by kernel_rfl) (by kernel_rfl) (by kernel_rfl) rfl (fun _ _ _ h => h) (Or.inl ⟨by rfl, ?y92⟩) (by assumption) ?r92
    case y92 =>
      intro u hSw
      obtain ⟨s0, s1, s2, s3, s4, sl⟩ := hSw
      go_simp
      try with_reducible rfl
    try simp only [Act.put, List.setIfInBounds_toArray, List.set_cons_zero, List.set_cons_succ]
    refine held_take (i := 31) (v := ?v93) rfl (by kernel_rfl) (by kernel_rfl) (by kernel_rfl) rfl (fun _ _ _ h => h) (Or.inl ⟨by rfl, ?y93⟩) (by assumption) ?r93
    case y93 =>
      intro u hSw
      obtain ⟨s0, s1, s2, s3, s4, sl⟩ := hSw
      go_simp
      try with_reducible rfl
    try simp only [Act.put, List.setIfInBounds_toArray, List.set_cons_zero, List.set_cons_succ]
    refine held_one (i := 37) rfl (by kernel_rfl) (fun K hK => ?_)
    go_simp
    refine (CX3.out _ HB_91.out).mono ?_
    rintro e' w94 ⟨rfl, hb94⟩
    have HB_94 : Hid (Below W.heap.size W w94) := HB_91.out.trans (hb94.mono HB_91.out.size)
    have HM_94 : Hid (Below w80.heap.size w80 w94) := HM_91.out.trans (hb94.mono HM_91.out.size)
    refine hK.out _ _ (by obtain ⟨z0, z1, z2, z3, z4⟩ := KS.out _ HB_94.out; exact ⟨z0, z1, z2, z3, z4, KL.out _ HM_94.out⟩) (fun hHeld => ?_)
    clear hK K hb94
    try simp only [Act.put, List.setIfInBounds_toArray, List.set_cons_zero, List.set_cons_succ]
    refine held_take (i := 38) (v := ?v95) rfl (by kernel_rfl) (by kernel_rfl) (by kernel_rfl) rfl (fun _ _ _ h => h) (Or.inl ⟨by rfl, ?y95⟩) (by assumption) ?r95
    case y95 =>
      intro u hSw
      obtain ⟨s0, s1, s2, s3, s4, sl⟩ := hSw
      go_simp
      try with_reducible rfl
    try simp only [Act.put, List.setIfInBounds_toArray, List.set_cons_zero, List.set_cons_succ]
    refine held_take (i := 39) (v := ?v96) rfl (by kernel_rfl) (by kernel_rfl) (by kernel_rfl) rfl (fun _ _ _ h => h) (Or.inl ⟨by rfl, ?y96⟩) (by assumption) ?r96
    case y96 =>
      intro u hSw
      obtain ⟨s0, s1, s2, s3, s4, sl⟩ := hSw
      go_simp
      try with_reducible rfl
    try simp only [Act.put, List.setIfInBounds_toArray, List.set_cons_zero, List.set_cons_succ]
    refine wpAnyH_done (by kernel_rfl) ?_ _
    exact hE.out q80 _ HB_94.out
  case hEnd =>
    intro blk u hu
    have HBu : Hid (Below w.heap.size w u) := HB0.out.trans (hu.mono HB0.out.size)
    clear hu
    by_cases hlv : (0 : Int) < lv
    · have E : Hid (par true TT = ⟨#[40, 32]⟩ ++ TT ++ ⟨#[32, 41]⟩) := rfl
      have a1 := addsT ⟨#[40, 32]⟩ TT (by show 2 + _ ≤ _; omega)
      have a2 := addsT (⟨#[40, 32]⟩ ++ TT) ⟨#[32, 41]⟩ (by rw [ByteArray.size_append]; show 2 + _ + 2 ≤ _; omega)
      go_wp2
      go_ret
      exact ⟨by rw [decide_eq_true hlv, E.out]; rfl, HBu.out⟩
    · go_wp2
      go_ret
      exact ⟨by rw [decide_eq_false (by omega)]; rfl, HBu.out⟩
end Go.Proofs.YtdgkgnlilcbggaaDoor
