/-
  Contract: the text of a part of kind 3 in the model, the texts of its parts given.
-/
import Derived.Test.YtdgkgnlilcbggaaDoorPB3
import Derived.Test.YtdgkgnlilcbggaaDoorPW
namespace Go.Proofs.YtdgkgnlilcbggaaDoor
open Go.RowKit
set_option linter.unusedVariables false
set_option linter.unusedSimpArgs false

set_option maxHeartbeats 16000000 in
set_option maxRecDepth 100000 in
theorem c_show3 (vv : Int) (n g gc b off c e c' h0 x0 x1 : Nat) (lv : Int) (XA XB : ByteArray) (w : World) (i1 : (0 : Int) ≤ (e : Int)) (i2 : (e : Int) < (n : Int))
    (q0 : w.cell? ⟨b, off + e * 2, none⟩ = some (.int .i64 3)) (q1 : w.cell? ⟨b, off + e * 2 + 1, none⟩ = some (.int .i64 vv)) (q2 : w.cell? ⟨g, e, none⟩ = some (.slice (some ⟨h0, 0, none⟩) 2 c'))
    (p0 : w.cell? ⟨h0, 0, none⟩ = some (.int .i64 (x0 : Int))) (p1 : w.cell? ⟨h0, 1, none⟩ = some (.int .i64 (x1 : Int))) (y0 : XA.size ≤ 2000) (y1 : XB.size ≤ 2000)
    (C0 : ∀ u, Below w.heap.size w u → Calls Tryd.prog 18 #[.slice (some ⟨b, off, none⟩) n c, .slice (some ⟨g, 0, none⟩) n gc, .int .i64 (x0 : Int), .int .i64 1] u fun e' w' => e' = .returned (.string XA) ∧ Below u.heap.size u w')
    (C1 : ∀ u, Below w.heap.size w u → Calls Tryd.prog 18 #[.slice (some ⟨b, off, none⟩) n c, .slice (some ⟨g, 0, none⟩) n gc, .int .i64 (x1 : Int), .int .i64 2] u fun e' w' => e' = .returned (.string XB) ∧ Below u.heap.size u w') :
    Calls Tryd.prog 18 #[.slice (some ⟨b, off, none⟩) n c, .slice (some ⟨g, 0, none⟩) n gc, .int .i64 (e : Int), .int .i64 lv] w fun e' w' => e' = .returned (.string (par (decide ((1 : Int) < lv)) (XA ++ ⟨#[32]⟩ ++ ⟨#[45]⟩ ++ ⟨#[32]⟩ ++ XB))) ∧ Below w.heap.size w w' := by
  have HB0 : Hid (Below w.heap.size w (w.alloc (.cells #[.int .i64 3, .int .i64 vv] 33)).drew) := ((Below.refl _ _).alloc (Nat.le_refl _) _).drew
  have HP0 : Hid ((w.alloc (.cells #[.int .i64 3, .int .i64 vv] 33)).drew.cell? ⟨w.heap.size, 0, none⟩ = some (.int .i64 3) ∧ (w.alloc (.cells #[.int .i64 3, .int .i64 vv] 33)).drew.cell? ⟨w.heap.size, 1, none⟩ = some (.int .i64 vv)) := ⟨by simp, by simp⟩
  have hgl := World.block_lt_of_cell? w _ q2
  have hbl := World.block_lt_of_cell? w _ q0
  have hw0 : IntKind.i64.wrap 0 = 0 := rfl
  have hw1 : IntKind.i64.wrap 1 = 1 := rfl
  have hw2 : IntKind.i64.wrap 2 = 2 := rfl
  have hw3 : IntKind.i64.wrap 3 = 3 := rfl
  have f1 := addsT (XA) ⟨#[32]⟩ (by show _ + 1 ≤ _; omega)
  have f2 := addsT (XA ++ ⟨#[32]⟩) ⟨#[45]⟩ (by rw [ByteArray.size_append]; show _ + 1 + 1 ≤ _; omega)
  have f3 := addsT (XA ++ ⟨#[32]⟩ ++ ⟨#[45]⟩) ⟨#[32]⟩ (by rw [ByteArray.size_append, ByteArray.size_append]; show _ + 1 + 1 + 1 ≤ _; omega)
  have f4 := addsT (XA ++ ⟨#[32]⟩ ++ ⟨#[45]⟩ ++ ⟨#[32]⟩) XB (by rw [ByteArray.size_append, ByteArray.size_append, ByteArray.size_append]; show _ + 1 + 1 + 1 + _ ≤ _; omega)
  have hTs : (XA ++ ⟨#[32]⟩ ++ ⟨#[45]⟩ ++ ⟨#[32]⟩ ++ XB).size ≤ 9000 := by
    rw [ByteArray.size_append, ByteArray.size_append, ByteArray.size_append, ByteArray.size_append]
    show _ + 1 + 1 + 1 + _ ≤ _
    omega
  obtain ⟨TT, hTT⟩ : ∃ TT, XA ++ ⟨#[32]⟩ ++ ⟨#[45]⟩ ++ ⟨#[32]⟩ ++ XB = TT := ⟨_, rfl⟩
  rw [hTT] at f4 hTs ⊢
  clear hTT
  have HC0 := Lib.hid C0
  have HC1 := Lib.hid C1
  clear C0 C1
  go_enter Tryd.func18, Tryd.ntmps18
  go_wp2_with fail
  go_region
  generalize (w.alloc (.cells #[.int .i64 3, .int .i64 vv] 33)).drew = W at *
  obtain ⟨d0, d1⟩ := HP0.out
  go_wp2_with fail
  refine (c_ruLevel _ _).mono ?_
  rintro e' w1 ⟨rfl, rfl⟩
  simp only [bindK]
  have P0 : Hid (W.cell? ⟨h0, 0, none⟩ = some (.int .i64 (x0 : Int)) ∧ W.cell? ⟨h0, 1, none⟩ = some (.int .i64 (x1 : Int))) := ⟨cell_up HB0.out p0, cell_up HB0.out p1⟩
  have CX0 : Hid (∀ u, Below W.heap.size W u → Calls Tryd.prog 18 #[.slice (some ⟨b, off, none⟩) n c, .slice (some ⟨g, 0, none⟩) n gc, .int .i64 (x0 : Int), .int .i64 1] u fun e' w' => e' = .returned (.string XA) ∧ Below u.heap.size u w') := fun u hu => HC0.out u (HB0.out.trans (hu.mono HB0.out.size))
  have CX1 : Hid (∀ u, Below W.heap.size W u → Calls Tryd.prog 18 #[.slice (some ⟨b, off, none⟩) n c, .slice (some ⟨g, 0, none⟩) n gc, .int .i64 (x1 : Int), .int .i64 2] u fun e' w' => e' = .returned (.string XB) ∧ Below u.heap.size u w') := fun u hu => HC1.out u (HB0.out.trans (hu.mono HB0.out.size))
  clear HC0 HC1
  have HBd : Hid (Below W.heap.size W W.drew) := (Below.refl _ _).drew
  have hbk0 := World.block_lt_of_cell? _ _ P0.out.1
  have hbk1 := World.block_lt_of_cell? _ _ d0
  have KS : Hid (∀ u : World, Below W.heap.size W u → u.cell? ⟨w.heap.size, 0, none⟩ = some (.int .i64 3) ∧ u.cell? ⟨h0, 0, none⟩ = some (.int .i64 (x0 : Int)) ∧ u.cell? ⟨h0, 1, none⟩ = some (.int .i64 (x1 : Int))) := fun u hu => ⟨(hu.cell (p := ⟨w.heap.size, 0, none⟩) hbk1).trans d0, (hu.cell (p := ⟨h0, 0, none⟩) hbk0).trans P0.out.1, (hu.cell (p := ⟨h0, 1, none⟩) hbk0).trans P0.out.2⟩
  go_wp2_with fail
  clear P0 d0 d1 q0 q1 q2 p0 p1
  refine' region_end (fun u => u.cell? ⟨w.heap.size, 0, none⟩ = some (.int .i64 3) ∧ u.cell? ⟨h0, 0, none⟩ = some (.int .i64 (x0 : Int)) ∧ u.cell? ⟨h0, 1, none⟩ = some (.int .i64 (x1 : Int))) _ (fun u => Below W.heap.size W u) (by kernel_rfl) (KS.out _ HBd.out) ?hEnd (fun R WD hE hbD hHeld => ?hRun)
  case hRun =>
    have HBD := Lib.hid hbD
    clear hbD
    refine held_take (i := 0) (v := ?v1) rfl (by kernel_rfl) (by kernel_rfl) (by kernel_rfl) rfl (fun _ _ _ h => h) (Or.inl ⟨by rfl, ?y1⟩) (by assumption) ?r1
    case y1 =>
      intro u hSw
      obtain ⟨s0, s1, s2⟩ := hSw
      go_simp
      try with_reducible rfl
    try simp only [Act.put, List.setIfInBounds_toArray, List.set_cons_zero, List.set_cons_succ]
    refine held_take (i := 1) (v := ?v2) rfl (by kernel_rfl) (by kernel_rfl) (by kernel_rfl) rfl (fun _ _ _ h => h) (Or.inl ⟨by rfl, ?y2⟩) (by assumption) ?r2
    case y2 =>
      intro u hSw
      obtain ⟨s0, s1, s2⟩ := hSw
      go_simp
      try with_reducible rfl
    try simp only [Act.put, List.setIfInBounds_toArray, List.set_cons_zero, List.set_cons_succ]
    refine held_take (i := 2) (v := ?v3) rfl (by kernel_rfl) (by kernel_rfl) (by kernel_rfl) rfl (fun _ _ _ h => h) (Or.inl ⟨by rfl, ?y3⟩) (by assumption) ?r3
    case y3 =>
      intro u hSw
      obtain ⟨s0, s1, s2⟩ := hSw
      go_simp
      try with_reducible rfl
    try simp only [Act.put, List.setIfInBounds_toArray, List.set_cons_zero, List.set_cons_succ]
    refine held_take (i := 3) (v := ?v4) rfl (by kernel_rfl) (by kernel_rfl) (by kernel_rfl) rfl (fun _ _ _ h => h) (Or.inl ⟨by rfl, ?y4⟩) (by assumption) ?r4
    case y4 =>
      intro u hSw
      obtain ⟨s0, s1, s2⟩ := hSw
      go_simp
      try with_reducible rfl
    try simp only [Act.put, List.setIfInBounds_toArray, List.set_cons_zero, List.set_cons_succ]
    refine held_take (i := 4) (v := ?v5) rfl (by kernel_rfl) (by kernel_rfl) (by kernel_rfl) rfl (fun _ _ _ h => h) (Or.inl ⟨by rfl, ?y5⟩) (by assumption) ?r5
    case y5 =>
      intro u hSw
      obtain ⟨s0, s1, s2⟩ := hSw
      go_simp
      try with_reducible rfl
    try simp only [Act.put, List.setIfInBounds_toArray, List.set_cons_zero, List.set_cons_succ]
    refine held_take (i := 5) (v := ?v6) rfl (by kernel_rfl) (by kernel_rfl) (by kernel_rfl) rfl (fun _ _ _ h => h) (Or.inl ⟨by rfl, ?y6⟩) (by assumption) ?r6
    case y6 =>
      intro u hSw
      obtain ⟨s0, s1, s2⟩ := hSw
      go_simp
      try with_reducible rfl
    try simp only [Act.put, List.setIfInBounds_toArray, List.set_cons_zero, List.set_cons_succ]
    refine held_take (i := 9) (v := ?v7) rfl (by kernel_rfl) (by kernel_rfl) (by kernel_rfl) rfl (fun _ _ _ h => h) (Or.inl ⟨by rfl, ?y7⟩) (by assumption) ?r7
    case y7 =>
      intro u hSw
      obtain ⟨s0, s1, s2⟩ := hSw
      go_simp
      try with_reducible rfl
    try simp only [Act.put, List.setIfInBounds_toArray, List.set_cons_zero, List.set_cons_succ]
    refine held_take (i := 10) (v := ?v8) rfl (by kernel_rfl) (by kernel_rfl) (by kernel_rfl) rfl (fun _ _ _ h => h) (Or.inl ⟨by rfl, ?y8⟩) (by assumption) ?r8
    case y8 =>
      intro u hSw
      obtain ⟨s0, s1, s2⟩ := hSw
      go_simp
      try with_reducible rfl
    try simp only [Act.put, List.setIfInBounds_toArray, List.set_cons_zero, List.set_cons_succ]
    refine held_take (i := 11) (v := ?v9) rfl (by kernel_rfl) (by kernel_rfl) (by kernel_rfl) rfl (fun _ _ _ h => h) (Or.inl ⟨by rfl, ?y9⟩) (by assumption) ?r9
    case y9 =>
      intro u hSw
      obtain ⟨s0, s1, s2⟩ := hSw
      go_simp
      try with_reducible rfl
    try simp only [Act.put, List.setIfInBounds_toArray, List.set_cons_zero, List.set_cons_succ]
    refine held_take (i := 16) (v := ?v10) rfl (by kernel_rfl) (by kernel_rfl) (by kernel_rfl) rfl (fun _ _ _ h => h) (Or.inl ⟨by rfl, ?y10⟩) (by assumption) ?r10
    case y10 =>
      intro u hSw
      obtain ⟨s0, s1, s2⟩ := hSw
      go_simp
      try with_reducible rfl
    try simp only [Act.put, List.setIfInBounds_toArray, List.set_cons_zero, List.set_cons_succ]
    refine held_take (i := 17) (v := ?v11) rfl (by kernel_rfl) (by kernel_rfl) (by kernel_rfl) rfl (fun _ _ _ h => h) (Or.inl ⟨by rfl, ?y11⟩) (by assumption) ?r11
    case y11 =>
      intro u hSw
      obtain ⟨s0, s1, s2⟩ := hSw
      go_simp
      try with_reducible rfl
    try simp only [Act.put, List.setIfInBounds_toArray, List.set_cons_zero, List.set_cons_succ]
    refine held_take (i := 18) (v := ?v12) rfl (by kernel_rfl) (by kernel_rfl) (by kernel_rfl) rfl (fun _ _ _ h => h) (Or.inl ⟨by rfl, ?y12⟩) (by assumption) ?r12
    case y12 =>
      intro u hSw
      obtain ⟨s0, s1, s2⟩ := hSw
      go_simp
      try with_reducible rfl
    try simp only [Act.put, List.setIfInBounds_toArray, List.set_cons_zero, List.set_cons_succ]
    refine held_take (i := 19) (v := ?v13) rfl (by kernel_rfl) (by kernel_rfl) (by kernel_rfl) rfl (fun _ _ _ h => h) (Or.inl ⟨by rfl, ?y13⟩) (by assumption) ?r13
    case y13 =>
      intro u hSw
      obtain ⟨s0, s1, s2⟩ := hSw
      go_simp
      try with_reducible rfl
    try simp only [Act.put, List.setIfInBounds_toArray, List.set_cons_zero, List.set_cons_succ]
    refine held_take (i := 20) (v := ?v14) rfl (by kernel_rfl) (by kernel_rfl) (by kernel_rfl) rfl (fun _ _ _ h => h) (Or.inl ⟨by rfl, ?y14⟩) (by assumption) ?r14
    case y14 =>
      intro u hSw
      obtain ⟨s0, s1, s2⟩ := hSw
      go_simp
      try with_reducible rfl
    try simp only [Act.put, List.setIfInBounds_toArray, List.set_cons_zero, List.set_cons_succ]
    refine held_take (i := 21) (v := ?v15) rfl (by kernel_rfl) (by kernel_rfl) (by kernel_rfl) rfl (fun _ _ _ h => h) (Or.inl ⟨by rfl, ?y15⟩) (by assumption) ?r15
    case y15 =>
      intro u hSw
      obtain ⟨s0, s1, s2⟩ := hSw
      go_simp
      try with_reducible rfl
    try simp only [Act.put, List.setIfInBounds_toArray, List.set_cons_zero, List.set_cons_succ]
    refine held_take (i := 22) (v := ?v16) rfl (by kernel_rfl) (by kernel_rfl) (by kernel_rfl) rfl (fun _ _ _ h => h) (Or.inl ⟨by rfl, ?y16⟩) (by assumption) ?r16
    case y16 =>
      intro u hSw
      obtain ⟨s0, s1, s2⟩ := hSw
      go_simp
      try with_reducible rfl
    try simp only [Act.put, List.setIfInBounds_toArray, List.set_cons_zero, List.set_cons_succ]
    refine held_two (i := 6) (j := 8) rfl rfl (by kernel_rfl) (fun K hK => ?_) (fun K hK => ?_)
    go_simp
    refine (CX0.out _ HBD.out).mono ?_
    rintro e' w17 ⟨rfl, hb17⟩
    have HB_17 : Hid (Below W.heap.size W w17) := HBD.out.trans (hb17.mono HBD.out.size)
    refine hK.out _ _ (KS.out _ HB_17.out) (fun hHeld => ?_)
    clear hK K hb17
    try simp only [Act.put, List.setIfInBounds_toArray, List.set_cons_zero, List.set_cons_succ]
    refine held_take (i := 7) (v := ?v18) rfl (by kernel_rfl) (by kernel_rfl) (by kernel_rfl) rfl (fun _ _ _ h => h) (Or.inl ⟨by rfl, ?y18⟩) (by assumption) ?r18
    case y18 =>
      intro u hSw
      obtain ⟨s0, s1, s2⟩ := hSw
      go_simp
      try with_reducible rfl
    try simp only [Act.put, List.setIfInBounds_toArray, List.set_cons_zero, List.set_cons_succ]
    refine held_two (i := 8) (j := 23) rfl rfl (by kernel_rfl) (fun K hK => ?_) (fun K hK => ?_)
    go_simp
    have HB_19 : Hid (Below W.heap.size W (w17.alloc (.cells #[.string ⟨#[43]⟩, .string ⟨#[45]⟩, .string ⟨#[42]⟩, .string ⟨#[47]⟩] 9))) := HB_17.out.alloc HB_17.out.size _
    have HL_19 : Hid ((w17.alloc (.cells #[.string ⟨#[43]⟩, .string ⟨#[45]⟩, .string ⟨#[42]⟩, .string ⟨#[47]⟩] 9)).cell? ⟨w17.heap.size, 1, none⟩ = some (.string ⟨#[45]⟩)) := by simp [Hid]
    have HZ_19 : Hid (w17.heap.size < (w17.alloc (.cells #[.string ⟨#[43]⟩, .string ⟨#[45]⟩, .string ⟨#[42]⟩, .string ⟨#[47]⟩] 9)).heap.size) := by simp [Hid]
    refine hK.out _ _ (KS.out _ HB_19.out) (fun hHeld => ?_)
    clear hK K hHeld
    generalize hq19 : w17.heap.size = q19 at *
    generalize w17.alloc (.cells #[.string ⟨#[43]⟩, .string ⟨#[45]⟩, .string ⟨#[42]⟩, .string ⟨#[47]⟩] 9) = w19 at *
    refine held_weaker (S' := fun u => u.cell? ⟨w.heap.size, 0, none⟩ = some (.int .i64 3) ∧ u.cell? ⟨h0, 0, none⟩ = some (.int .i64 (x0 : Int)) ∧ u.cell? ⟨h0, 1, none⟩ = some (.int .i64 (x1 : Int)) ∧ u.cell? ⟨q19, 1, none⟩ = some (.string ⟨#[45]⟩)) (fun u hu => ⟨hu.1, hu.2.1, hu.2.2.1⟩) _ _ _ _ ?_
    have hHeld : (fun u : World => u.cell? ⟨w.heap.size, 0, none⟩ = some (.int .i64 3) ∧ u.cell? ⟨h0, 0, none⟩ = some (.int .i64 (x0 : Int)) ∧ u.cell? ⟨h0, 1, none⟩ = some (.int .i64 (x1 : Int)) ∧ u.cell? ⟨q19, 1, none⟩ = some (.string ⟨#[45]⟩)) w19 := by
      obtain ⟨z0, z1, z2⟩ := KS.out _ HB_19.out
      exact ⟨z0, z1, z2, HL_19.out⟩
    have KL : Hid (∀ u, Below w19.heap.size w19 u → u.cell? ⟨q19, 1, none⟩ = some (.string ⟨#[45]⟩)) := fun u hu => (hu.cell (p := ⟨q19, 1, none⟩) HZ_19.out).trans HL_19.out
    have HM_19 : Hid (Below w19.heap.size w19 w19) := Below.refl _ _
    try simp only [Act.put, List.setIfInBounds_toArray, List.set_cons_zero, List.set_cons_succ]
    refine held_take (i := 12) (v := ?v20) rfl (by kernel_rfl) (by kernel_rfl) (by kernel_rfl) rfl (fun _ _ _ h => h) (Or.inl ⟨by rfl, ?y20⟩) (by assumption) ?r20
    case y20 =>
      intro u hSw
      obtain ⟨s0, s1, s2, sl⟩ := hSw
      go_simp
      try with_reducible rfl
    try simp only [Act.put, List.setIfInBounds_toArray, List.set_cons_zero, List.set_cons_succ]
    refine held_take (i := 13) (v := ?v21) rfl (by kernel_rfl) (by kernel_rfl) (by kernel_rfl) rfl (fun _ _ _ h => h) (Or.inl ⟨by rfl, ?y21⟩) (by assumption) ?r21
    case y21 =>
      intro u hSw
      obtain ⟨s0, s1, s2, sl⟩ := hSw
      go_simp
      try with_reducible rfl
    try simp only [Act.put, List.setIfInBounds_toArray, List.set_cons_zero, List.set_cons_succ]
    refine held_take (i := 14) (v := ?v22) rfl (by kernel_rfl) (by kernel_rfl) (by kernel_rfl) rfl (fun _ _ _ h => h) (Or.inl ⟨by rfl, ?y22⟩) (by assumption) ?r22
    case y22 =>
      intro u hSw
      obtain ⟨s0, s1, s2, sl⟩ := hSw
      go_simp
      try with_reducible rfl
    try simp only [Act.put, List.setIfInBounds_toArray, List.set_cons_zero, List.set_cons_succ]
    refine held_take (i := 15) (v := ?v23) rfl (by kernel_rfl) (by kernel_rfl) (by kernel_rfl) rfl (fun _ _ _ h => h) (Or.inl ⟨by rfl, ?y23⟩) (by assumption) ?r23
    case y23 =>
      intro u hSw
      obtain ⟨s0, s1, s2, sl⟩ := hSw
      go_simp
      try with_reducible rfl
    try simp only [Act.put, List.setIfInBounds_toArray, List.set_cons_zero, List.set_cons_succ]
    refine held_one (i := 23) rfl (by kernel_rfl) (fun K hK => ?_)
    go_simp
    refine (CX1.out _ HB_19.out).mono ?_
    rintro e' w24 ⟨rfl, hb24⟩
    have HB_24 : Hid (Below W.heap.size W w24) := HB_19.out.trans (hb24.mono HB_19.out.size)
    have HM_24 : Hid (Below w19.heap.size w19 w24) := HM_19.out.trans (hb24.mono HM_19.out.size)
    refine hK.out _ _ (by obtain ⟨z0, z1, z2⟩ := KS.out _ HB_24.out; exact ⟨z0, z1, z2, KL.out _ HM_24.out⟩) (fun hHeld => ?_)
    clear hK K hb24
    try simp only [Act.put, List.setIfInBounds_toArray, List.set_cons_zero, List.set_cons_succ]
    refine held_take (i := 24) (v := ?v25) rfl (by kernel_rfl) (by kernel_rfl) (by kernel_rfl) rfl (fun _ _ _ h => h) (Or.inl ⟨by rfl, ?y25⟩) (by assumption) ?r25
    case y25 =>
      intro u hSw
      obtain ⟨s0, s1, s2, sl⟩ := hSw
      go_simp
      try with_reducible rfl
    try simp only [Act.put, List.setIfInBounds_toArray, List.set_cons_zero, List.set_cons_succ]
    refine held_take (i := 25) (v := ?v26) rfl (by kernel_rfl) (by kernel_rfl) (by kernel_rfl) rfl (fun _ _ _ h => h) (Or.inl ⟨by rfl, ?y26⟩) (by assumption) ?r26
    case y26 =>
      intro u hSw
      obtain ⟨s0, s1, s2, sl⟩ := hSw
      go_simp
      try with_reducible rfl
    try simp only [Act.put, List.setIfInBounds_toArray, List.set_cons_zero, List.set_cons_succ]
    refine wpAnyH_done (by kernel_rfl) ?_ _
    exact hE.out q19 _ HB_24.out
    go_simp
    refine (CX1.out _ HB_17.out).mono ?_
    rintro e' w27 ⟨rfl, hb27⟩
    have HB_27 : Hid (Below W.heap.size W w27) := HB_17.out.trans (hb27.mono HB_17.out.size)
    refine hK.out _ _ (KS.out _ HB_27.out) (fun hHeld => ?_)
    clear hK K hb27
    try simp only [Act.put, List.setIfInBounds_toArray, List.set_cons_zero, List.set_cons_succ]
    refine held_one (i := 8) rfl (by kernel_rfl) (fun K hK => ?_)
    go_simp
    have HB_28 : Hid (Below W.heap.size W (w27.alloc (.cells #[.string ⟨#[43]⟩, .string ⟨#[45]⟩, .string ⟨#[42]⟩, .string ⟨#[47]⟩] 9))) := HB_27.out.alloc HB_27.out.size _
    have HL_28 : Hid ((w27.alloc (.cells #[.string ⟨#[43]⟩, .string ⟨#[45]⟩, .string ⟨#[42]⟩, .string ⟨#[47]⟩] 9)).cell? ⟨w27.heap.size, 1, none⟩ = some (.string ⟨#[45]⟩)) := by simp [Hid]
    have HZ_28 : Hid (w27.heap.size < (w27.alloc (.cells #[.string ⟨#[43]⟩, .string ⟨#[45]⟩, .string ⟨#[42]⟩, .string ⟨#[47]⟩] 9)).heap.size) := by simp [Hid]
    refine hK.out _ _ (KS.out _ HB_28.out) (fun hHeld => ?_)
    clear hK K hHeld
    generalize hq28 : w27.heap.size = q28 at *
    generalize w27.alloc (.cells #[.string ⟨#[43]⟩, .string ⟨#[45]⟩, .string ⟨#[42]⟩, .string ⟨#[47]⟩] 9) = w28 at *
    refine held_weaker (S' := fun u => u.cell? ⟨w.heap.size, 0, none⟩ = some (.int .i64 3) ∧ u.cell? ⟨h0, 0, none⟩ = some (.int .i64 (x0 : Int)) ∧ u.cell? ⟨h0, 1, none⟩ = some (.int .i64 (x1 : Int)) ∧ u.cell? ⟨q28, 1, none⟩ = some (.string ⟨#[45]⟩)) (fun u hu => ⟨hu.1, hu.2.1, hu.2.2.1⟩) _ _ _ _ ?_
    have hHeld : (fun u : World => u.cell? ⟨w.heap.size, 0, none⟩ = some (.int .i64 3) ∧ u.cell? ⟨h0, 0, none⟩ = some (.int .i64 (x0 : Int)) ∧ u.cell? ⟨h0, 1, none⟩ = some (.int .i64 (x1 : Int)) ∧ u.cell? ⟨q28, 1, none⟩ = some (.string ⟨#[45]⟩)) w28 := by
      obtain ⟨z0, z1, z2⟩ := KS.out _ HB_28.out
      exact ⟨z0, z1, z2, HL_28.out⟩
    have KL : Hid (∀ u, Below w28.heap.size w28 u → u.cell? ⟨q28, 1, none⟩ = some (.string ⟨#[45]⟩)) := fun u hu => (hu.cell (p := ⟨q28, 1, none⟩) HZ_28.out).trans HL_28.out
    have HM_28 : Hid (Below w28.heap.size w28 w28) := Below.refl _ _
    try simp only [Act.put, List.setIfInBounds_toArray, List.set_cons_zero, List.set_cons_succ]
    refine held_take (i := 12) (v := ?v29) rfl (by kernel_rfl) (by kernel_rfl) (by kernel_rfl) rfl (fun _ _ _ h => h) (Or.inl ⟨by rfl, ?y29⟩) (by assumption) ?r29
    case y29 =>
      intro u hSw
      obtain ⟨s0, s1, s2, sl⟩ := hSw
      go_simp
      try with_reducible rfl
    try simp only [Act.put, List.setIfInBounds_toArray, List.set_cons_zero, List.set_cons_succ]
    refine held_take (i := 13) (v := ?v30) rfl (by kernel_rfl) (by kernel_rfl) (by kernel_rfl) rfl (fun _ _ _ h => h) (Or.inl ⟨by rfl, ?y30⟩) (by assumption) ?r30
    case y30 =>
      intro u hSw
      obtain ⟨s0, s1, s2, sl⟩ := hSw
      go_simp
      try with_reducible rfl
    try simp only [Act.put, List.setIfInBounds_toArray, List.set_cons_zero, List.set_cons_succ]
    refine held_take (i := 14) (v := ?v31) rfl (by kernel_rfl) (by kernel_rfl) (by kernel_rfl) rfl (fun _ _ _ h => h) (Or.inl ⟨by rfl, ?y31⟩) (by assumption) ?r31
    case y31 =>
      intro u hSw
      obtain ⟨s0, s1, s2, sl⟩ := hSw
      go_simp
      try with_reducible rfl
    try simp only [Act.put, List.setIfInBounds_toArray, List.set_cons_zero, List.set_cons_succ]
    refine held_take (i := 15) (v := ?v32) rfl (by kernel_rfl) (by kernel_rfl) (by kernel_rfl) rfl (fun _ _ _ h => h) (Or.inl ⟨by rfl, ?y32⟩) (by assumption) ?r32
    case y32 =>
      intro u hSw
      obtain ⟨s0, s1, s2, sl⟩ := hSw
      go_simp
      try with_reducible rfl
    try simp only [Act.put, List.setIfInBounds_toArray, List.set_cons_zero, List.set_cons_succ]
    refine held_take (i := 24) (v := ?v33) rfl (by kernel_rfl) (by kernel_rfl) (by kernel_rfl) rfl (fun _ _ _ h => h) (Or.inl ⟨by rfl, ?y33⟩) (by assumption) ?r33
    case y33 =>
      intro u hSw
      obtain ⟨s0, s1, s2, sl⟩ := hSw
      go_simp
      try with_reducible rfl
    try simp only [Act.put, List.setIfInBounds_toArray, List.set_cons_zero, List.set_cons_succ]
    refine held_take (i := 25) (v := ?v34) rfl (by kernel_rfl) (by kernel_rfl) (by kernel_rfl) rfl (fun _ _ _ h => h) (Or.inl ⟨by rfl, ?y34⟩) (by assumption) ?r34
    case y34 =>
      intro u hSw
      obtain ⟨s0, s1, s2, sl⟩ := hSw
      go_simp
      try with_reducible rfl
    try simp only [Act.put, List.setIfInBounds_toArray, List.set_cons_zero, List.set_cons_succ]
    refine wpAnyH_done (by kernel_rfl) ?_ _
    exact hE.out q28 _ HB_28.out
    go_simp
    have HB_35 : Hid (Below W.heap.size W (WD.alloc (.cells #[.string ⟨#[43]⟩, .string ⟨#[45]⟩, .string ⟨#[42]⟩, .string ⟨#[47]⟩] 9))) := HBD.out.alloc HBD.out.size _
    have HL_35 : Hid ((WD.alloc (.cells #[.string ⟨#[43]⟩, .string ⟨#[45]⟩, .string ⟨#[42]⟩, .string ⟨#[47]⟩] 9)).cell? ⟨WD.heap.size, 1, none⟩ = some (.string ⟨#[45]⟩)) := by simp [Hid]
    have HZ_35 : Hid (WD.heap.size < (WD.alloc (.cells #[.string ⟨#[43]⟩, .string ⟨#[45]⟩, .string ⟨#[42]⟩, .string ⟨#[47]⟩] 9)).heap.size) := by simp [Hid]
    refine hK.out _ _ (KS.out _ HB_35.out) (fun hHeld => ?_)
    clear hK K hHeld
    generalize hq35 : WD.heap.size = q35 at *
    generalize WD.alloc (.cells #[.string ⟨#[43]⟩, .string ⟨#[45]⟩, .string ⟨#[42]⟩, .string ⟨#[47]⟩] 9) = w35 at *
    refine held_weaker (S' := fun u => u.cell? ⟨w.heap.size, 0, none⟩ = some (.int .i64 3) ∧ u.cell? ⟨h0, 0, none⟩ = some (.int .i64 (x0 : Int)) ∧ u.cell? ⟨h0, 1, none⟩ = some (.int .i64 (x1 : Int)) ∧ u.cell? ⟨q35, 1, none⟩ = some (.string ⟨#[45]⟩)) (fun u hu => ⟨hu.1, hu.2.1, hu.2.2.1⟩) _ _ _ _ ?_
    have hHeld : (fun u : World => u.cell? ⟨w.heap.size, 0, none⟩ = some (.int .i64 3) ∧ u.cell? ⟨h0, 0, none⟩ = some (.int .i64 (x0 : Int)) ∧ u.cell? ⟨h0, 1, none⟩ = some (.int .i64 (x1 : Int)) ∧ u.cell? ⟨q35, 1, none⟩ = some (.string ⟨#[45]⟩)) w35 := by
      obtain ⟨z0, z1, z2⟩ := KS.out _ HB_35.out
      exact ⟨z0, z1, z2, HL_35.out⟩
    have KL : Hid (∀ u, Below w35.heap.size w35 u → u.cell? ⟨q35, 1, none⟩ = some (.string ⟨#[45]⟩)) := fun u hu => (hu.cell (p := ⟨q35, 1, none⟩) HZ_35.out).trans HL_35.out
    have HM_35 : Hid (Below w35.heap.size w35 w35) := Below.refl _ _
    try simp only [Act.put, List.setIfInBounds_toArray, List.set_cons_zero, List.set_cons_succ]
    refine held_take (i := 12) (v := ?v36) rfl (by kernel_rfl) (by kernel_rfl) (by kernel_rfl) rfl (fun _ _ _ h => h) (Or.inl ⟨by rfl, ?y36⟩) (by assumption) ?r36
    case y36 =>
      intro u hSw
      obtain ⟨s0, s1, s2, sl⟩ := hSw
      go_simp
      try with_reducible rfl
    try simp only [Act.put, List.setIfInBounds_toArray, List.set_cons_zero, List.set_cons_succ]
    refine held_take (i := 13) (v := ?v37) rfl (by kernel_rfl) (by kernel_rfl) (by kernel_rfl) rfl (fun _ _ _ h => h) (Or.inl ⟨by rfl, ?y37⟩) (by assumption) ?r37
    case y37 =>
      intro u hSw
      obtain ⟨s0, s1, s2, sl⟩ := hSw
      go_simp
      try with_reducible rfl
    try simp only [Act.put, List.setIfInBounds_toArray, List.set_cons_zero, List.set_cons_succ]
    refine held_one (i := 6) rfl (by kernel_rfl) (fun K hK => ?_)
    go_simp
    refine (CX0.out _ HB_35.out).mono ?_
    rintro e' w38 ⟨rfl, hb38⟩
    have HB_38 : Hid (Below W.heap.size W w38) := HB_35.out.trans (hb38.mono HB_35.out.size)
    have HM_38 : Hid (Below w35.heap.size w35 w38) := HM_35.out.trans (hb38.mono HM_35.out.size)
    refine hK.out _ _ (by obtain ⟨z0, z1, z2⟩ := KS.out _ HB_38.out; exact ⟨z0, z1, z2, KL.out _ HM_38.out⟩) (fun hHeld => ?_)
    clear hK K hb38
    try simp only [Act.put, List.setIfInBounds_toArray, List.set_cons_zero, List.set_cons_succ]
    refine held_take (i := 7) (v := ?v39) rfl (by kernel_rfl) (by kernel_rfl) (by kernel_rfl) rfl (fun _ _ _ h => h) (Or.inl ⟨by rfl, ?y39⟩) (by assumption) ?r39
    case y39 =>
      intro u hSw
      obtain ⟨s0, s1, s2, sl⟩ := hSw
      go_simp
      try with_reducible rfl
    try simp only [Act.put, List.setIfInBounds_toArray, List.set_cons_zero, List.set_cons_succ]
    refine held_take (i := 14) (v := ?v40) rfl (by kernel_rfl) (by kernel_rfl) (by kernel_rfl) rfl (fun _ _ _ h => h) (Or.inl ⟨by rfl, ?y40⟩) (by assumption) ?r40
    case y40 =>
      intro u hSw
      obtain ⟨s0, s1, s2, sl⟩ := hSw
      go_simp
      try with_reducible rfl
    try simp only [Act.put, List.setIfInBounds_toArray, List.set_cons_zero, List.set_cons_succ]
    refine held_take (i := 15) (v := ?v41) rfl (by kernel_rfl) (by kernel_rfl) (by kernel_rfl) rfl (fun _ _ _ h => h) (Or.inl ⟨by rfl, ?y41⟩) (by assumption) ?r41
    case y41 =>
      intro u hSw
      obtain ⟨s0, s1, s2, sl⟩ := hSw
      go_simp
      try with_reducible rfl
    try simp only [Act.put, List.setIfInBounds_toArray, List.set_cons_zero, List.set_cons_succ]
    refine held_one (i := 23) rfl (by kernel_rfl) (fun K hK => ?_)
    go_simp
    refine (CX1.out _ HB_38.out).mono ?_
    rintro e' w42 ⟨rfl, hb42⟩
    have HB_42 : Hid (Below W.heap.size W w42) := HB_38.out.trans (hb42.mono HB_38.out.size)
    have HM_42 : Hid (Below w35.heap.size w35 w42) := HM_38.out.trans (hb42.mono HM_38.out.size)
    refine hK.out _ _ (by obtain ⟨z0, z1, z2⟩ := KS.out _ HB_42.out; exact ⟨z0, z1, z2, KL.out _ HM_42.out⟩) (fun hHeld => ?_)
    clear hK K hb42
    try simp only [Act.put, List.setIfInBounds_toArray, List.set_cons_zero, List.set_cons_succ]
    refine held_take (i := 24) (v := ?v43) rfl (by kernel_rfl) (by kernel_rfl) (by kernel_rfl) rfl (fun _ _ _ h => h) (Or.inl ⟨by rfl, ?y43⟩) (by assumption) ?r43
    case y43 =>
      intro u hSw
      obtain ⟨s0, s1, s2, sl⟩ := hSw
      go_simp
      try with_reducible rfl
    try simp only [Act.put, List.setIfInBounds_toArray, List.set_cons_zero, List.set_cons_succ]
    refine held_take (i := 25) (v := ?v44) rfl (by kernel_rfl) (by kernel_rfl) (by kernel_rfl) rfl (fun _ _ _ h => h) (Or.inl ⟨by rfl, ?y44⟩) (by assumption) ?r44
    case y44 =>
      intro u hSw
      obtain ⟨s0, s1, s2, sl⟩ := hSw
      go_simp
      try with_reducible rfl
    try simp only [Act.put, List.setIfInBounds_toArray, List.set_cons_zero, List.set_cons_succ]
    refine wpAnyH_done (by kernel_rfl) ?_ _
    exact hE.out q35 _ HB_42.out
  case hEnd =>
    intro blk u hu
    have HBu : Hid (Below w.heap.size w u) := HB0.out.trans (hu.mono HB0.out.size)
    clear hu
    by_cases hlv : (1 : Int) < lv
    · have E : Hid (par true TT = ⟨#[40, 32]⟩ ++ TT ++ ⟨#[32, 41]⟩) := rfl
      have a1 := addsT ⟨#[40, 32]⟩ TT (by show 2 + _ ≤ _; omega)
      have a2 := addsT (⟨#[40, 32]⟩ ++ TT) ⟨#[32, 41]⟩ (by rw [ByteArray.size_append]; show 2 + _ + 2 ≤ _; omega)
      go_wp2
      go_ret
      exact ⟨by rw [decide_eq_true hlv, E.out]; rfl, HBu.out⟩
    · go_wp2
      go_ret
      exact ⟨by rw [decide_eq_false (by omega)]; rfl, HBu.out⟩
end Go.Proofs.YtdgkgnlilcbggaaDoor
