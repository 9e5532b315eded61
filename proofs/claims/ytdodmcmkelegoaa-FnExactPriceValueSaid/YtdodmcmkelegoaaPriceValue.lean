/-
  The law FnExactPriceValue holds: for all arguments, PriceValue answers as its model does, and the arguments read as they did. No conditions.
-/
import Derived.Test.YtdodmcmkelegoaaRows
import Derived.Test.YtdodmcmkelegoaaW9
import Derived.Test.YtdodmcmkelegoaaOpenR
import Derived.Test.YtdodmcmkelegoaaOpen
import Derived.WalkKit
import Derived.Lib.Hide
import Derived.Deep.DeepCutAuto
import Derived.Deep.RegionHeld3
import Derived.ProofKit
import Derived.OpenShut
import Derived.ShutString
import Derived.ChangeOld
import Derived.Below
import Derived.Carry
import Derived.Deep.RegionWith
import Derived.Lib.SmallJoins
namespace Go.Proofs.Ytdodmcmkelegoaa.fnExactPriceValueProof
open Go.ChangeShapes Go.WideShapes Go.ChangeAt Go.RowKit Go.Joins
open Go.ChangeMaps (open_string shut_string)
set_option linter.unusedVariables false

theorem own : ownKnob Try.prog.godebug = none := by kernel_rfl

theorem Mod.drew {w : World} {B : Nat} {v1 v2 v3 : Value} {ts gs rs : List Int} (h : Mod w B v1 v2 v3 ts gs rs) : Mod w.drew B v1 v2 v3 ts gs rs := ⟨h.t.draws 1, h.g.draws 1, h.r.draws 1, h.tg, h.tr, h.gr⟩

/-! ### The walk -/
set_option maxHeartbeats 4000000 in
set_option maxRecDepth 100000 in
theorem walk (x y z : Int) (v1 v2 v3 : Value) (ts gs rs : List Int) (p q r s : Int) (a2 : Int) (w : World) (hL : Look w v1 v2 v3 ts gs rs) (wf2 : (Lit.int .i64 a2).wf = true) :
    Calls Try.prog 5 #[.agg #[.int .i64 x, .int .i64 y, .int .i64 z, v1, v2, v3], .agg #[.int .i64 p, .int .i64 q, .int .i64 r, .int .i64 s], .int .i64 a2] w fun e w' => e = .returned (.bool true) ∧ Below w.heap.size w w' := by
  have HL := Lib.hid hL
  have m1 := hL.t
  have m2 := hL.g
  have m3 := hL.r
  obtain ⟨A1, c1, rfl, t1, _⟩ := m1
  obtain ⟨A2, c2, rfl, t2, _⟩ := m2
  obtain ⟨A3, c3, rfl, t3, _⟩ := m3
  have b1 : ts.length ≤ 9223372036854775807 := by unfold maxLen at t1; omega
  have b2 : gs.length ≤ 9223372036854775807 := by unfold maxLen at t2; omega
  have b3 : rs.length ≤ 9223372036854775807 := by unfold maxLen at t3; omega
  clear hL t1 t2 t3
  have hne0 : (pvV x y z ts gs rs p q r s a2 != pvV x y z ts gs rs p q r s a2) = false := by simp
  have hne1 : (pvB x y z ts gs rs p q r s a2 != pvB x y z ts gs rs p q r s a2) = false := by simp
  have HB0 : Hid (Below w.heap.size w ((w.alloc (.cells #[.int .i64 x, .int .i64 y, .int .i64 z, .slice A1 ts.length c1, .slice A2 gs.length c2, .slice A3 rs.length c3] 26)).alloc (.cells #[.int .i64 p, .int .i64 q, .int .i64 r, .int .i64 s] 49))) := ((Below.refl _ _).alloc (Nat.le_refl _) _).alloc (by simp) _
  have AX_0 : Hid (Box6 ((w.alloc (.cells #[.int .i64 x, .int .i64 y, .int .i64 z, .slice A1 ts.length c1, .slice A2 gs.length c2, .slice A3 rs.length c3] 26)).alloc (.cells #[.int .i64 p, .int .i64 q, .int .i64 r, .int .i64 s] 49)) w.heap.size x y z (.slice A1 ts.length c1) (.slice A2 gs.length c2) (.slice A3 rs.length c3)) := (Box6.new _ _ _ _ _ _ _ _).below ((Below.refl _ _).alloc (Nat.le_refl _) _)
  have AR_0 : Hid (Box4 ((w.alloc (.cells #[.int .i64 x, .int .i64 y, .int .i64 z, .slice A1 ts.length c1, .slice A2 gs.length c2, .slice A3 rs.length c3] 26)).alloc (.cells #[.int .i64 p, .int .i64 q, .int .i64 r, .int .i64 s] 49)) (w.heap.size + 1) p q r s) := by
    have := Box4.new (w.alloc (.cells #[.int .i64 x, .int .i64 y, .int .i64 z, .slice A1 ts.length c1, .slice A2 gs.length c2, .slice A3 rs.length c3] 26)) p q r s 49
    simp at this
    exact this
  go_enter Try.func5, Try.ntmps5
  go_wp2_with fail
  refine (c_szModel x y z _ _ _ _ _ _ _ _ _ _ b1 b2 b3).mono ?_
  rintro e w1 ⟨⟨r0, rfl, hsz⟩, hb1⟩
  have HB1 : Hid (Below w.heap.size w w1) := HB0.out.trans (hb1.mono HB0.out.size)
  have AX_1 := Lib.hid (AX_0.out.below hb1)
  have AR_1 := Lib.hid (AR_0.out.below hb1)
  have lt_ax_1 := AX_1.out.lt
  have ax_1c0 := AX_1.out.c0
  have ax_1c1 := AX_1.out.c1
  have ax_1c2 := AX_1.out.c2
  have ax_1c3 := AX_1.out.c3
  have ax_1c4 := AX_1.out.c4
  have ax_1c5 := AX_1.out.c5
  have lt_ar_1 := AR_1.out.lt
  have ar_1c0 := AR_1.out.c0
  have ar_1c1 := AR_1.out.c1
  have ar_1c2 := AR_1.out.c2
  have ar_1c3 := AR_1.out.c3
  clear hb1
  rcases hsz with ⟨_, rfl⟩ | ⟨hsz, hr⟩
  · go_wp2
    go_ret
    exact ⟨rfl, HB1.out⟩
  · have hr0 : ¬ r0 < 0 := by omega
    have l1 : ts.length ≤ 4000000 := by omega
    have l2 : gs.length ≤ 4000000 := by omega
    have l3 : rs.length ≤ 4000000 := by omega
    clear hr
    have CS : Hid (∀ (p1 p2 p3 : Value) (u : World), Look u p1 p2 p3 ts gs rs → Calls Try.prog 26 #[.agg #[.int .i64 x, .int .i64 y, .int .i64 z, p1, p2, p3], .agg #[.int .i64 p, .int .i64 q, .int .i64 r, .int .i64 s], .int .i64 a2] u (fun e u' => e = .returned (.tuple #[.int .i64 (pvV x y z ts gs rs p q r s a2), .bool (pvB x y z ts gs rs p q r s a2)]) ∧ Below u.heap.size u u')) := fun p1 p2 p3 u hu => c_PriceValueS x y z _ _ _ ts gs rs p q r s a2 u l1 l2 l3 hu
    have CI : Hid (∀ (p1 p2 p3 : Value) (u : World), Look u p1 p2 p3 ts gs rs → Calls Try.prog 28 #[.agg #[.int .i64 x, .int .i64 y, .int .i64 z, p1, p2, p3], .agg #[.int .i64 p, .int .i64 q, .int .i64 r, .int .i64 s], .int .i64 a2] u (fun e u' => e = .returned (.tuple #[.int .i64 (pvV x y z ts gs rs p q r s a2), .bool (pvB x y z ts gs rs p q r s a2)]) ∧ Below u.heap.size u u')) := fun p1 p2 p3 u hu => c_PriceValue x y z _ _ _ ts gs rs p q r s a2 u l1 l2 l3 hu
    have KE4 : Hid (∀ u, Below w1.heap.size w1 u → (u.cell? ⟨w.heap.size, 0, none⟩ = some (.int .i64 x) ∧ u.cell? ⟨w.heap.size, 1, none⟩ = some (.int .i64 y) ∧ u.cell? ⟨w.heap.size, 2, none⟩ = some (.int .i64 z) ∧ u.cell? ⟨w.heap.size, 3, none⟩ = some (.slice A1 ts.length c1) ∧ u.cell? ⟨w.heap.size, 4, none⟩ = some (.slice A2 gs.length c2) ∧ u.cell? ⟨w.heap.size, 5, none⟩ = some (.slice A3 rs.length c3) ∧ u.cell? ⟨w.heap.size + 1, 0, none⟩ = some (.int .i64 p) ∧ u.cell? ⟨w.heap.size + 1, 1, none⟩ = some (.int .i64 q) ∧ u.cell? ⟨w.heap.size + 1, 2, none⟩ = some (.int .i64 r) ∧ u.cell? ⟨w.heap.size + 1, 3, none⟩ = some (.int .i64 s))) := fun u hu => by
      have h1 := AX_1.out.below hu
      have h2 := AR_1.out.below hu
      exact ⟨h1.c0, h1.c1, h1.c2, h1.c3, h1.c4, h1.c5, h2.c0, h2.c1, h2.c2, h2.c3⟩
    have KD4 : Hid (Below w1.heap.size w1 w1.drew) := (Below.refl _ _).drew
    go_wp2_with fail
    go_region_held3 (fun u => u.cell? ⟨w.heap.size, 0, none⟩ = some (.int .i64 x) ∧ u.cell? ⟨w.heap.size, 1, none⟩ = some (.int .i64 y) ∧ u.cell? ⟨w.heap.size, 2, none⟩ = some (.int .i64 z) ∧ u.cell? ⟨w.heap.size, 3, none⟩ = some (.slice A1 ts.length c1) ∧ u.cell? ⟨w.heap.size, 4, none⟩ = some (.slice A2 gs.length c2) ∧ u.cell? ⟨w.heap.size, 5, none⟩ = some (.slice A3 rs.length c3) ∧ u.cell? ⟨w.heap.size + 1, 0, none⟩ = some (.int .i64 p) ∧ u.cell? ⟨w.heap.size + 1, 1, none⟩ = some (.int .i64 q) ∧ u.cell? ⟨w.heap.size + 1, 2, none⟩ = some (.int .i64 r) ∧ u.cell? ⟨w.heap.size + 1, 3, none⟩ = some (.int .i64 s)) (first | with_reducible exact KE4.out _ KD4.out | with_reducible exact KE4.out _ HU2.out | with_reducible exact KE4.out _ HU3.out | with_reducible exact KE4.out _ HU4.out)
      (first
        | (go_at_call 14; (with_reducible refine (c_toModel x y z _ _ _ ts gs rs _ l1 l2 l3 (HL.out.t.below (by exact HB1.out.drew)) (HL.out.g.below (by exact HB1.out.drew)) (HL.out.r.below (by exact HB1.out.drew))).mono ?_); rintro e w2 ⟨Sa, Sb, Sc, rfl, hm2, hb2⟩; have HU2 : Hid (Below w1.heap.size w1 w2) := KD4.out.trans (hb2.mono KD4.out.size); have SM_2 := Lib.hid hm2; clear hm2 hb2)
        | (go_at_call 27; (with_reducible refine (c_toPrices p q r s _).mono ?_); rintro e w3 ⟨rfl, hb3⟩; have HU3 : Hid (Below w1.heap.size w1 w3) := HU2.out.trans (hb3.mono HU2.out.size); have SM_3 := Lib.hid (SM_2.out.below hb3); clear hb3)
        | (go_at_call 26; (with_reducible refine (CS.out _ _ _ _ SM_3.out.look).mono ?_); rintro e w4 ⟨rfl, hb4⟩; have HU4 : Hid (Below w1.heap.size w1 w4) := HU3.out.trans (hb4.mono HU3.out.size); clear hb4))
    have HB4 : Hid (Below w.heap.size w w4) := HB1.out.trans (HU4.out.mono HB1.out.size)
    have AX_4 := Lib.hid (AX_1.out.below HU4.out)
    have AR_4 := Lib.hid (AR_1.out.below HU4.out)
    have lt_ax_4 := AX_4.out.lt
    have ax_4c0 := AX_4.out.c0
    have ax_4c1 := AX_4.out.c1
    have ax_4c2 := AX_4.out.c2
    have ax_4c3 := AX_4.out.c3
    have ax_4c4 := AX_4.out.c4
    have ax_4c5 := AX_4.out.c5
    have lt_ar_4 := AR_4.out.lt
    have ar_4c0 := AR_4.out.c0
    have ar_4c1 := AR_4.out.c1
    have ar_4c2 := AR_4.out.c2
    have ar_4c3 := AR_4.out.c3
    clear KE4 KD4
    go_wp2_with fail
    refine (c_toModel x y z _ _ _ ts gs rs _ l1 l2 l3 (HL.out.t.below HB4.out) (HL.out.g.below HB4.out) (HL.out.r.below HB4.out)).mono ?_
    rintro e w5 ⟨Xa, Xb, Xc, rfl, hm, hb5⟩
    have HB5 : Hid (Below w.heap.size w w5) := HB4.out.trans (hb5.mono HB4.out.size)
    have AX_5 := Lib.hid (AX_4.out.below hb5)
    have AR_5 := Lib.hid (AR_4.out.below hb5)
    have lt_ax_5 := AX_5.out.lt
    have ax_5c0 := AX_5.out.c0
    have ax_5c1 := AX_5.out.c1
    have ax_5c2 := AX_5.out.c2
    have ax_5c3 := AX_5.out.c3
    have ax_5c4 := AX_5.out.c4
    have ax_5c5 := AX_5.out.c5
    have lt_ar_5 := AR_5.out.lt
    have ar_5c0 := AR_5.out.c0
    have ar_5c1 := AR_5.out.c1
    have ar_5c2 := AR_5.out.c2
    have ar_5c3 := AR_5.out.c3
    have XM_5 := Lib.hid hm
    clear hm
    clear hb5
    obtain ⟨Q1, k1, rfl⟩ := XM_5.out.t.shape
    obtain ⟨Q2, k2, rfl⟩ := XM_5.out.g.shape
    obtain ⟨Q3, k3, rfl⟩ := XM_5.out.r.shape
    go_wp2_with fail
    have hbx : Below w5.heap.size w5 (w5.alloc (Obj.cells #[.int .i64 x, .int .i64 y, .int .i64 z, .slice Q1 ts.length k1, .slice Q2 gs.length k2, .slice Q3 rs.length k3] 34)) := (Below.refl _ _).alloc (Nat.le_refl _) _
    have HB5x : Hid (Below w.heap.size w (w5.alloc (Obj.cells #[.int .i64 x, .int .i64 y, .int .i64 z, .slice Q1 ts.length k1, .slice Q2 gs.length k2, .slice Q3 rs.length k3] 34))) := HB5.out.trans (hbx.mono HB5.out.size)
    have AX_5x := Lib.hid (AX_5.out.below hbx)
    have AR_5x := Lib.hid (AR_5.out.below hbx)
    have XM_5x := Lib.hid (XM_5.out.below hbx)
    have ax_5xc0 := AX_5x.out.c0
    have ax_5xc1 := AX_5x.out.c1
    have ax_5xc2 := AX_5x.out.c2
    have ax_5xc3 := AX_5x.out.c3
    have ax_5xc4 := AX_5x.out.c4
    have ax_5xc5 := AX_5x.out.c5
    have ar_5xc0 := AR_5x.out.c0
    have ar_5xc1 := AR_5x.out.c1
    have ar_5xc2 := AR_5x.out.c2
    have ar_5xc3 := AR_5x.out.c3
    have XX_5x : Hid (Box6 (w5.alloc (Obj.cells #[.int .i64 x, .int .i64 y, .int .i64 z, .slice Q1 ts.length k1, .slice Q2 gs.length k2, .slice Q3 rs.length k3] 34)) w5.heap.size x y z (.slice Q1 ts.length k1) (.slice Q2 gs.length k2) (.slice Q3 rs.length k3)) := Box6.new _ _ _ _ _ _ _ _
    clear hbx
    go_wp2_with fail
    generalize w5.alloc (Obj.cells #[.int .i64 x, .int .i64 y, .int .i64 z, .slice Q1 ts.length k1, .slice Q2 gs.length k2, .slice Q3 rs.length k3] 34) = w5x at *
    have KE8 : Hid (∀ u, Below w5x.heap.size w5x u → (u.cell? ⟨w5.heap.size, 0, none⟩ = some (.int .i64 x) ∧ u.cell? ⟨w5.heap.size, 1, none⟩ = some (.int .i64 y) ∧ u.cell? ⟨w5.heap.size, 2, none⟩ = some (.int .i64 z) ∧ u.cell? ⟨w5.heap.size, 3, none⟩ = some (.slice Q1 ts.length k1) ∧ u.cell? ⟨w5.heap.size, 4, none⟩ = some (.slice Q2 gs.length k2) ∧ u.cell? ⟨w5.heap.size, 5, none⟩ = some (.slice Q3 rs.length k3) ∧ u.cell? ⟨w.heap.size + 1, 0, none⟩ = some (.int .i64 p) ∧ u.cell? ⟨w.heap.size + 1, 1, none⟩ = some (.int .i64 q) ∧ u.cell? ⟨w.heap.size + 1, 2, none⟩ = some (.int .i64 r) ∧ u.cell? ⟨w.heap.size + 1, 3, none⟩ = some (.int .i64 s))) := fun u hu => by
      have h1 := XX_5x.out.below hu
      have h2 := AR_5x.out.below hu
      exact ⟨h1.c0, h1.c1, h1.c2, h1.c3, h1.c4, h1.c5, h2.c0, h2.c1, h2.c2, h2.c3⟩
    have KD8 : Hid (Below w5x.heap.size w5x w5x.drew) := (Below.refl _ _).drew
    go_region_held3 (fun u => u.cell? ⟨w5.heap.size, 0, none⟩ = some (.int .i64 x) ∧ u.cell? ⟨w5.heap.size, 1, none⟩ = some (.int .i64 y) ∧ u.cell? ⟨w5.heap.size, 2, none⟩ = some (.int .i64 z) ∧ u.cell? ⟨w5.heap.size, 3, none⟩ = some (.slice Q1 ts.length k1) ∧ u.cell? ⟨w5.heap.size, 4, none⟩ = some (.slice Q2 gs.length k2) ∧ u.cell? ⟨w5.heap.size, 5, none⟩ = some (.slice Q3 rs.length k3) ∧ u.cell? ⟨w.heap.size + 1, 0, none⟩ = some (.int .i64 p) ∧ u.cell? ⟨w.heap.size + 1, 1, none⟩ = some (.int .i64 q) ∧ u.cell? ⟨w.heap.size + 1, 2, none⟩ = some (.int .i64 r) ∧ u.cell? ⟨w.heap.size + 1, 3, none⟩ = some (.int .i64 s)) (first | with_reducible exact KE8.out _ KD8.out | with_reducible exact KE8.out _ HU7.out | with_reducible exact KE8.out _ HU8.out)
      (first
        | (go_at_call 27; (with_reducible refine (c_toPrices p q r s _).mono ?_); rintro e w7 ⟨rfl, hb7⟩; have HU7 : Hid (Below w5x.heap.size w5x w7) := KD8.out.trans (hb7.mono KD8.out.size); have XM_7 := Lib.hid (XM_5x.out.below HU7.out); clear hb7)
        | (go_at_call 28; (with_reducible refine (CI.out _ _ _ _ XM_7.out.look).mono ?_); rintro e w8 ⟨rfl, hb8⟩; have HU8 : Hid (Below w5x.heap.size w5x w8) := HU7.out.trans (hb8.mono HU7.out.size); clear hb8))
    have HB8 : Hid (Below w.heap.size w w8) := HB5x.out.trans (HU8.out.mono HB5x.out.size)
    have AX_8 := Lib.hid (AX_5x.out.below HU8.out)
    have AR_8 := Lib.hid (AR_5x.out.below HU8.out)
    have XM_8 := Lib.hid (XM_5x.out.below HU8.out)
    have XX_8 := Lib.hid (XX_5x.out.below HU8.out)
    have lt_ax_8 := AX_8.out.lt
    have ax_8c0 := AX_8.out.c0
    have ax_8c1 := AX_8.out.c1
    have ax_8c2 := AX_8.out.c2
    have ax_8c3 := AX_8.out.c3
    have ax_8c4 := AX_8.out.c4
    have ax_8c5 := AX_8.out.c5
    have lt_ar_8 := AR_8.out.lt
    have ar_8c0 := AR_8.out.c0
    have ar_8c1 := AR_8.out.c1
    have ar_8c2 := AR_8.out.c2
    have ar_8c3 := AR_8.out.c3
    have lt_xx_8 := XX_8.out.lt
    have xx_8c0 := XX_8.out.c0
    have xx_8c1 := XX_8.out.c1
    have xx_8c2 := XX_8.out.c2
    have xx_8c3 := XX_8.out.c3
    have xx_8c4 := XX_8.out.c4
    have xx_8c5 := XX_8.out.c5
    clear KE8 KD8
    go_upto_region 10 with fail
    go_cut [49] (fun s wx => s = .bool false ∧ Below w8.heap.size w8 wx)
    case first =>
      go_region_with (first
        | (go_at_call 14
           refine (c_toModel x y z _ _ _ ts gs rs _ l1 l2 l3 (HL.out.t.below (by exact HB8.out.drew)) (HL.out.g.below (by exact HB8.out.drew)) (HL.out.r.below (by exact HB8.out.drew))).mono ?_
           rintro e wy ⟨r1, r2, r3, rfl, hmy, hby⟩
           obtain ⟨hcy, hfy⟩ := bcell hby
           have sy := hby.size
           simp at sy hcy hfy
           have pxy := XX_8.out.lt
           have HMY := Lib.hid hmy
           have HNY : Hid (Mod wy _ (.slice Q1 ts.length k1) (.slice Q2 gs.length k2) (.slice Q3 rs.length k3) ts gs rs) := Mod.below (Mod.drew XM_8.out) hby
           have HBY : Hid (Below w8.heap.size w8 wy) := (Below.refl _ _).drew.trans hby
           clear hby hmy)
        | (go_at_call 17
           refine (c_eqModel x y z _ _ _ _ _ _ ts gs rs _ _ _ l1 l2 l3 HNY.out HMY.out).mono ?_
           rintro e wz ⟨rfl, hbz⟩
           have HBZ : Hid (Below w8.heap.size w8 wz) := HBY.out.trans (hbz.mono HBY.out.size)
           clear hbz))
      all_goals
        go_wp2_with fail
        go_meet
        exact ⟨rfl, HBZ.out⟩
    case rest =>
      obtain ⟨rfl, hb9⟩ := hcut
      have HB9 : Hid (Below w.heap.size w wc) := HB8.out.trans (hb9.mono HB8.out.size)
      have AX_9 := Lib.hid (AX_8.out.below hb9)
      have AR_9 := Lib.hid (AR_8.out.below hb9)
      have XM_9 := Lib.hid (XM_8.out.below hb9)
      have XX_9 := Lib.hid (XX_8.out.below hb9)
      have lt_ax_9 := AX_9.out.lt
      have ax_9c0 := AX_9.out.c0
      have ax_9c1 := AX_9.out.c1
      have ax_9c2 := AX_9.out.c2
      have ax_9c3 := AX_9.out.c3
      have ax_9c4 := AX_9.out.c4
      have ax_9c5 := AX_9.out.c5
      have lt_ar_9 := AR_9.out.lt
      have ar_9c0 := AR_9.out.c0
      have ar_9c1 := AR_9.out.c1
      have ar_9c2 := AR_9.out.c2
      have ar_9c3 := AR_9.out.c3
      have lt_xx_9 := XX_9.out.lt
      have xx_9c0 := XX_9.out.c0
      have xx_9c1 := XX_9.out.c1
      have xx_9c2 := XX_9.out.c2
      have xx_9c3 := XX_9.out.c3
      have xx_9c4 := XX_9.out.c4
      have xx_9c5 := XX_9.out.c5
      clear hb9
      go_wp2
      go_ret
      exact ⟨rfl, HB9.out⟩

/-! ### The row's step -/
theorem laid : laidOutB Try.prog = true := by kernel_rfl
set_option maxRecDepth 100000 in
theorem lifted (os : Os) (started : os.Started) (H : Type) (enc : TypeId × Value → H) :
    ReturnsInHanded {} Try.checked os 5 .any (Rows.fnExactPriceValueSpec.pre6 enc Try.prog Try.f5 Rows.fnExactPriceValueRow.domain false) (Rows.fnExactPriceValueSpec.post enc Try.prog Try.f5 false true false false) := by
  refine returnsInHanded_of_change (C := Try.checked) own started (by kernel_rfl) Try.func5
    (ChangeSpec.witness6 (enc := enc) (C := Try.checked) false ⟨#[], #[.agg #[.int .i64 0, .int .i64 0, .int .i64 0, .slice none 0 0, .slice none 0 0, .slice none 0 0], .agg #[.int .i64 0, .int .i64 0, .int .i64 0, .int .i64 0], .int .i64 0], []⟩ 8 (by kernel_rfl) (by kernel_rfl) (by kernel_rfl) (by kernel_rfl)) ?_
  intro W base args ds gs before hval0 hW hcnd _
  have hval : ∀ (j : Nat) t v, Try.f5.params[j]? = some t → args[j]? = some v → Value.okWide Try.prog W .any base t v := hval0
  have hW' := hW
  have lts : ∀ x ∈ before, x.block < W.heap.size := fun x hx => by simpa using hW'.lt x hx
  obtain ⟨p, q, hA0, hV, rfl, hfz, hnd⟩ := hW
  have hA : DataW.TrodAll enc Try.prog W 0 (fun _ => true) true Try.f5.params.toList args.toList ds p := hA0
  rw [Try.params5] at hA hval
  obtain ⟨v0, vs0, d0, ds0, p0, q0, hargs, rfl, rfl, h0, r0⟩ := trodAll_cons hA
  obtain ⟨v1, vs1, d1, ds1, p1, q1, rfl, rfl, rfl, h1, r1⟩ := trodAll_cons r0
  obtain ⟨v2, vs2, d2, ds2, p2, q2, rfl, rfl, rfl, h2, r2⟩ := trodAll_cons r1
  obtain ⟨rfl, rfl, rfl⟩ := trodAll_nil r2
  obtain rfl : args = #[v0, v1, v2] := by cases args; simp_all
  obtain ⟨rfl, rfl⟩ := trodVars_none hV
  have k0 := h0
  obtain ⟨x, y, z, m1, m2, m3, ts, gs, rs, rfl, hL⟩ := open_model (hval 0 26 v0 rfl rfl) h0
  have k1 := h1
  obtain ⟨p, q, r, s, rfl⟩ := open_prices (hval 1 49 v1 rfl rfl) h1
  have k2 := h2
  obtain ⟨a2, rfl, _, _, w2⟩ := open_int Try.underlying3 (hval 2 3 v2 rfl rfl) h2
  clear hA0 hval0
  simp only [List.append_nil] at hW' lts
  refine (walk x y z m1 m2 m3 ts gs rs p q r s a2 W hL w2).mono fun e W' ⟨he, bel⟩ => ?_
  subst he
  exact ⟨_, rfl, _, _, _, [], _, [], hW', trodAll_mk1 (shut_bool Try.underlying4 _), (trodAll_cons_mk (Below.trod laid (by kernel_rfl) (of_decide_eq_true (by kernel_rfl)) k0 bel (fun x hx => lts x (by simp [hx]))) (trodAll_cons_mk (Below.trod laid (by kernel_rfl) (of_decide_eq_true (by kernel_rfl)) k1 bel (fun x hx => lts x (by simp [hx]))) (trodAll_cons_mk (Below.trod laid (by kernel_rfl) (of_decide_eq_true (by kernel_rfl)) k2 bel (fun x hx => lts x (by simp [hx]))) trodAll_mk0))), rfl, bel.frame _, fun h => by cases h⟩

theorem over : Rows.fnExactPriceValueRow.holds Try.pinned (OpenSpec.ofChange Rows.fnExactPriceValueSpec) :=
  OpenClaim.holds_of_wide 5 Try.f5 rfl rfl rfl rfl rfl rfl rfl ⟨rfl, rfl, rfl, rfl, rfl⟩ rfl rfl rfl rfl rfl (by kernel_rfl) Try.func5 (by kernel_rfl)
    (of_decide_eq_true (by kernel_rfl)) (by unfold Func.isWrapper; first | (rw [if_pos (by decide +kernel)]; kernel_rfl) | (rw [if_neg (by decide +kernel)]; exact ⟨rfl, rfl⟩))
    (fun os started H enc _ => lifted os started H enc)

end Go.Proofs.Ytdodmcmkelegoaa.fnExactPriceValueProof
namespace Go.Proofs.Ytdodmcmkelegoaa
theorem fnExactPriceValue_holds : Rows.FnExactPriceValueSaid := fnExactPriceValueProof.over
#print axioms fnExactPriceValue_holds
end Go.Proofs.Ytdodmcmkelegoaa
