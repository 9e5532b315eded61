/-
  The law FnExactPriceValues holds: for all arguments, PriceValues answers as its model does, its answer owns its memory, and the arguments read as they did. No conditions.
-/
import Derived.Test.YtdodmcmkelegoaaRows
import Derived.Test.YtdodmcmkelegoaaW10
import Derived.Test.YtdodmcmkelegoaaM11
import Derived.Test.YtdodmcmkelegoaaOpenR
import Derived.Test.YtdodmcmkelegoaaOpen
import Derived.WalkKit
import Derived.Lib.Hide
import Derived.Deep.DeepCutAuto
import Derived.Deep.RegionHeld3
import Derived.ProofKit
import Derived.OpenShut
import Derived.ShutString
import Derived.ChangeOld
import Derived.Below
import Derived.Carry
import Derived.Deep.RegionWith
import Derived.Lib.SmallJoins
namespace Go.Proofs.Ytdodmcmkelegoaa.fnExactPriceValuesProof
open Go.ChangeShapes Go.WideShapes Go.ChangeAt Go.RowKit Go.Joins
open Go.ChangeMaps (open_string shut_string)
set_option linter.unusedVariables false

theorem own : ownKnob Try.prog.godebug = none := by kernel_rfl

theorem Mod.drew {w : World} {B : Nat} {v1 v2 v3 : Value} {ts gs rs : List Int} (h : Mod w B v1 v2 v3 ts gs rs) : Mod w.drew B v1 v2 v3 ts gs rs := ⟨h.t.draws 1, h.g.draws 1, h.r.draws 1, h.tg, h.tr, h.gr⟩

/-! ### The walk -/
set_option maxHeartbeats 4000000 in
set_option maxRecDepth 100000 in
theorem walk (x y z : Int) (v1 v2 v3 : Value) (ts gs rs : List Int) (p q r s : Int) (w : World) (hL : Look w v1 v2 v3 ts gs rs) :
    Calls Try.prog 6 #[.agg #[.int .i64 x, .int .i64 y, .int .i64 z, v1, v2, v3], .agg #[.int .i64 p, .int .i64 q, .int .i64 r, .int .i64 s]] w fun e w' => e = .returned (.bool true) ∧ Below w.heap.size w w' := by
  have HL := Lib.hid hL
  have m1 := hL.t
  have m2 := hL.g
  have m3 := hL.r
  obtain ⟨A1, c1, rfl, t1, _⟩ := m1
  obtain ⟨A2, c2, rfl, t2, _⟩ := m2
  obtain ⟨A3, c3, rfl, t3, _⟩ := m3
  have b1 : ts.length ≤ 9223372036854775807 := by unfold maxLen at t1; omega
  have b2 : gs.length ≤ 9223372036854775807 := by unfold maxLen at t2; omega
  have b3 : rs.length ≤ 9223372036854775807 := by unfold maxLen at t3; omega
  clear hL t1 t2 t3
  have HB0 : Hid (Below w.heap.size w ((w.alloc (.cells #[.int .i64 x, .int .i64 y, .int .i64 z, .slice A1 ts.length c1, .slice A2 gs.length c2, .slice A3 rs.length c3] 26)).alloc (.cells #[.int .i64 p, .int .i64 q, .int .i64 r, .int .i64 s] 49))) := ((Below.refl _ _).alloc (Nat.le_refl _) _).alloc (by simp) _
  have AX_0 : Hid (Box6 ((w.alloc (.cells #[.int .i64 x, .int .i64 y, .int .i64 z, .slice A1 ts.length c1, .slice A2 gs.length c2, .slice A3 rs.length c3] 26)).alloc (.cells #[.int .i64 p, .int .i64 q, .int .i64 r, .int .i64 s] 49)) w.heap.size x y z (.slice A1 ts.length c1) (.slice A2 gs.length c2) (.slice A3 rs.length c3)) := (Box6.new _ _ _ _ _ _ _ _).below ((Below.refl _ _).alloc (Nat.le_refl _) _)
  have AR_0 : Hid (Box4 ((w.alloc (.cells #[.int .i64 x, .int .i64 y, .int .i64 z, .slice A1 ts.length c1, .slice A2 gs.length c2, .slice A3 rs.length c3] 26)).alloc (.cells #[.int .i64 p, .int .i64 q, .int .i64 r, .int .i64 s] 49)) (w.heap.size + 1) p q r s) := by
    have := Box4.new (w.alloc (.cells #[.int .i64 x, .int .i64 y, .int .i64 z, .slice A1 ts.length c1, .slice A2 gs.length c2, .slice A3 rs.length c3] 26)) p q r s 49
    simp at this
    exact this
  go_enter Try.func6, Try.ntmps6
  go_wp2_with fail
  refine (c_szModel x y z _ _ _ _ _ _ _ _ _ _ b1 b2 b3).mono ?_
  rintro e w1 ⟨⟨r0, rfl, hsz⟩, hb1⟩
  have HB1 : Hid (Below w.heap.size w w1) := HB0.out.trans (hb1.mono HB0.out.size)
  have AX_1 := Lib.hid (AX_0.out.below hb1)
  have AR_1 := Lib.hid (AR_0.out.below hb1)
  have lt_ax_1 := AX_1.out.lt
  have ax_1c0 := AX_1.out.c0
  have ax_1c1 := AX_1.out.c1
  have ax_1c2 := AX_1.out.c2
  have ax_1c3 := AX_1.out.c3
  have ax_1c4 := AX_1.out.c4
  have ax_1c5 := AX_1.out.c5
  have lt_ar_1 := AR_1.out.lt
  have ar_1c0 := AR_1.out.c0
  have ar_1c1 := AR_1.out.c1
  have ar_1c2 := AR_1.out.c2
  have ar_1c3 := AR_1.out.c3
  clear hb1
  rcases hsz with ⟨_, rfl⟩ | ⟨hsz, hr⟩
  · go_wp2
    go_ret
    exact ⟨rfl, HB1.out⟩
  · have hr0 : ¬ r0 < 0 := by omega
    have l1 : ts.length ≤ 4000000 := by omega
    have l2 : gs.length ≤ 4000000 := by omega
    have l3 : rs.length ≤ 4000000 := by omega
    clear hr
    obtain ⟨ys, bb, hyl, CS, CI⟩ : ∃ (ys : List Int) (bb : Bool), ys.length ≤ 4000000 ∧ Hid (∀ (p1 p2 p3 : Value) (u : World), Look u p1 p2 p3 ts gs rs → Calls Try.prog 29 #[.agg #[.int .i64 x, .int .i64 y, .int .i64 z, p1, p2, p3], .agg #[.int .i64 p, .int .i64 q, .int .i64 r, .int .i64 s]] u (GivesRow2 u ys bb)) ∧ Hid (∀ (p1 p2 p3 : Value) (u : World), Look u p1 p2 p3 ts gs rs → Calls Try.prog 30 #[.agg #[.int .i64 x, .int .i64 y, .int .i64 z, p1, p2, p3], .agg #[.int .i64 p, .int .i64 q, .int .i64 r, .int .i64 s]] u (GivesRow2 u ys bb)) :=
      ⟨pvL x y z ts gs rs p q r s, pvG x y z ts gs rs p q r s, pvL_len x y z ts gs rs p q r s l1, fun p1 p2 p3 u hu => c_PriceValuesS x y z _ _ _ ts gs rs p q r s u l1 l2 l3 hu, fun p1 p2 p3 u hu => c_PriceValues x y z _ _ _ ts gs rs p q r s u l1 l2 l3 hu⟩
    have hnb : (bb != bb) = false := by simp
    have hnq : ((1 + (ys.length : Int)) != (1 + (ys.length : Int))) = false := by simp
    have hpq : ¬ (1 + (ys.length : Int)) < 0 := by omega
    have hkq : ¬ (1 + (ts.length : Int) + (gs.length : Int) + (rs.length : Int)) < 0 := by omega
    have KE4 : Hid (∀ u, Below w1.heap.size w1 u → (u.cell? ⟨w.heap.size, 0, none⟩ = some (.int .i64 x) ∧ u.cell? ⟨w.heap.size, 1, none⟩ = some (.int .i64 y) ∧ u.cell? ⟨w.heap.size, 2, none⟩ = some (.int .i64 z) ∧ u.cell? ⟨w.heap.size, 3, none⟩ = some (.slice A1 ts.length c1) ∧ u.cell? ⟨w.heap.size, 4, none⟩ = some (.slice A2 gs.length c2) ∧ u.cell? ⟨w.heap.size, 5, none⟩ = some (.slice A3 rs.length c3) ∧ u.cell? ⟨w.heap.size + 1, 0, none⟩ = some (.int .i64 p) ∧ u.cell? ⟨w.heap.size + 1, 1, none⟩ = some (.int .i64 q) ∧ u.cell? ⟨w.heap.size + 1, 2, none⟩ = some (.int .i64 r) ∧ u.cell? ⟨w.heap.size + 1, 3, none⟩ = some (.int .i64 s))) := fun u hu => by
      have h1 := AX_1.out.below hu
      have h2 := AR_1.out.below hu
      exact ⟨h1.c0, h1.c1, h1.c2, h1.c3, h1.c4, h1.c5, h2.c0, h2.c1, h2.c2, h2.c3⟩
    have KD4 : Hid (Below w1.heap.size w1 w1.drew) := (Below.refl _ _).drew
    go_wp2_with fail
    go_region_held3 (fun u => u.cell? ⟨w.heap.size, 0, none⟩ = some (.int .i64 x) ∧ u.cell? ⟨w.heap.size, 1, none⟩ = some (.int .i64 y) ∧ u.cell? ⟨w.heap.size, 2, none⟩ = some (.int .i64 z) ∧ u.cell? ⟨w.heap.size, 3, none⟩ = some (.slice A1 ts.length c1) ∧ u.cell? ⟨w.heap.size, 4, none⟩ = some (.slice A2 gs.length c2) ∧ u.cell? ⟨w.heap.size, 5, none⟩ = some (.slice A3 rs.length c3) ∧ u.cell? ⟨w.heap.size + 1, 0, none⟩ = some (.int .i64 p) ∧ u.cell? ⟨w.heap.size + 1, 1, none⟩ = some (.int .i64 q) ∧ u.cell? ⟨w.heap.size + 1, 2, none⟩ = some (.int .i64 r) ∧ u.cell? ⟨w.heap.size + 1, 3, none⟩ = some (.int .i64 s)) (first | with_reducible exact KE4.out _ KD4.out | with_reducible exact KE4.out _ HU2.out | with_reducible exact KE4.out _ HU3.out | with_reducible exact KE4.out _ HU4.out)
      (first
        | (go_at_call 14; (with_reducible refine (c_toModel x y z _ _ _ ts gs rs _ l1 l2 l3 (HL.out.t.below (by exact HB1.out.drew)) (HL.out.g.below (by exact HB1.out.drew)) (HL.out.r.below (by exact HB1.out.drew))).mono ?_); rintro e w2 ⟨Sa, Sb, Sc, rfl, hm2, hb2⟩; have HU2 : Hid (Below w1.heap.size w1 w2) := KD4.out.trans (hb2.mono KD4.out.size); have SM_2 := Lib.hid hm2; clear hm2 hb2)
        | (go_at_call 27; (with_reducible refine (c_toPrices p q r s _).mono ?_); rintro e w3 ⟨rfl, hb3⟩; have HU3 : Hid (Below w1.heap.size w1 w3) := HU2.out.trans (hb3.mono HU2.out.size); have SM_3 := Lib.hid (SM_2.out.below hb3); clear hb3)
        | (go_at_call 29; (with_reducible refine (CS.out _ _ _ _ SM_3.out.look).mono ?_); rintro e w4 ⟨Wv, rfl, hs4, hb4⟩; have HU4 : Hid (Below w1.heap.size w1 w4) := HU3.out.trans (hb4.mono HU3.out.size); have WS_4 := Lib.hid hs4; clear hs4; clear hb4))
    have HB4 : Hid (Below w.heap.size w w4) := HB1.out.trans (HU4.out.mono HB1.out.size)
    have AX_4 := Lib.hid (AX_1.out.below HU4.out)
    have AR_4 := Lib.hid (AR_1.out.below HU4.out)
    have lt_ax_4 := AX_4.out.lt
    have ax_4c0 := AX_4.out.c0
    have ax_4c1 := AX_4.out.c1
    have ax_4c2 := AX_4.out.c2
    have ax_4c3 := AX_4.out.c3
    have ax_4c4 := AX_4.out.c4
    have ax_4c5 := AX_4.out.c5
    have lt_ar_4 := AR_4.out.lt
    have ar_4c0 := AR_4.out.c0
    have ar_4c1 := AR_4.out.c1
    have ar_4c2 := AR_4.out.c2
    have ar_4c3 := AR_4.out.c3
    clear KE4 KD4
    go_wp2_with fail
    refine (c_toModel x y z _ _ _ ts gs rs _ l1 l2 l3 (HL.out.t.below HB4.out) (HL.out.g.below HB4.out) (HL.out.r.below HB4.out)).mono ?_
    rintro e w5 ⟨Xa, Xb, Xc, rfl, hm, hb5⟩
    have HB5 : Hid (Below w.heap.size w w5) := HB4.out.trans (hb5.mono HB4.out.size)
    have AX_5 := Lib.hid (AX_4.out.below hb5)
    have AR_5 := Lib.hid (AR_4.out.below hb5)
    have WS_5 := Lib.hid (WS_4.out.below hb5)
    have lt_ax_5 := AX_5.out.lt
    have ax_5c0 := AX_5.out.c0
    have ax_5c1 := AX_5.out.c1
    have ax_5c2 := AX_5.out.c2
    have ax_5c3 := AX_5.out.c3
    have ax_5c4 := AX_5.out.c4
    have ax_5c5 := AX_5.out.c5
    have lt_ar_5 := AR_5.out.lt
    have ar_5c0 := AR_5.out.c0
    have ar_5c1 := AR_5.out.c1
    have ar_5c2 := AR_5.out.c2
    have ar_5c3 := AR_5.out.c3
    have XM_5 := Lib.hid hm
    clear hm
    clear hb5
    obtain ⟨Q1, k1, rfl⟩ := XM_5.out.t.shape
    obtain ⟨Q2, k2, rfl⟩ := XM_5.out.g.shape
    obtain ⟨Q3, k3, rfl⟩ := XM_5.out.r.shape
    go_wp2_with fail
    have hbx : Below w5.heap.size w5 (w5.alloc (Obj.cells #[.int .i64 x, .int .i64 y, .int .i64 z, .slice Q1 ts.length k1, .slice Q2 gs.length k2, .slice Q3 rs.length k3] 34)) := (Below.refl _ _).alloc (Nat.le_refl _) _
    have HB5x : Hid (Below w.heap.size w (w5.alloc (Obj.cells #[.int .i64 x, .int .i64 y, .int .i64 z, .slice Q1 ts.length k1, .slice Q2 gs.length k2, .slice Q3 rs.length k3] 34))) := HB5.out.trans (hbx.mono HB5.out.size)
    have AX_5x := Lib.hid (AX_5.out.below hbx)
    have AR_5x := Lib.hid (AR_5.out.below hbx)
    have WS_5x := Lib.hid (WS_5.out.below hbx)
    have XM_5x := Lib.hid (XM_5.out.below hbx)
    have ax_5xc0 := AX_5x.out.c0
    have ax_5xc1 := AX_5x.out.c1
    have ax_5xc2 := AX_5x.out.c2
    have ax_5xc3 := AX_5x.out.c3
    have ax_5xc4 := AX_5x.out.c4
    have ax_5xc5 := AX_5x.out.c5
    have ar_5xc0 := AR_5x.out.c0
    have ar_5xc1 := AR_5x.out.c1
    have ar_5xc2 := AR_5x.out.c2
    have ar_5xc3 := AR_5x.out.c3
    have XX_5x : Hid (Box6 (w5.alloc (Obj.cells #[.int .i64 x, .int .i64 y, .int .i64 z, .slice Q1 ts.length k1, .slice Q2 gs.length k2, .slice Q3 rs.length k3] 34)) w5.heap.size x y z (.slice Q1 ts.length k1) (.slice Q2 gs.length k2) (.slice Q3 rs.length k3)) := Box6.new _ _ _ _ _ _ _ _
    clear hbx
    go_wp2_with fail
    generalize w5.alloc (Obj.cells #[.int .i64 x, .int .i64 y, .int .i64 z, .slice Q1 ts.length k1, .slice Q2 gs.length k2, .slice Q3 rs.length k3] 34) = w5x at *
    have KE8 : Hid (∀ u, Below w5x.heap.size w5x u → (u.cell? ⟨w5.heap.size, 0, none⟩ = some (.int .i64 x) ∧ u.cell? ⟨w5.heap.size, 1, none⟩ = some (.int .i64 y) ∧ u.cell? ⟨w5.heap.size, 2, none⟩ = some (.int .i64 z) ∧ u.cell? ⟨w5.heap.size, 3, none⟩ = some (.slice Q1 ts.length k1) ∧ u.cell? ⟨w5.heap.size, 4, none⟩ = some (.slice Q2 gs.length k2) ∧ u.cell? ⟨w5.heap.size, 5, none⟩ = some (.slice Q3 rs.length k3) ∧ u.cell? ⟨w.heap.size + 1, 0, none⟩ = some (.int .i64 p) ∧ u.cell? ⟨w.heap.size + 1, 1, none⟩ = some (.int .i64 q) ∧ u.cell? ⟨w.heap.size + 1, 2, none⟩ = some (.int .i64 r) ∧ u.cell? ⟨w.heap.size + 1, 3, none⟩ = some (.int .i64 s))) := fun u hu => by
      have h1 := XX_5x.out.below hu
      have h2 := AR_5x.out.below hu
      exact ⟨h1.c0, h1.c1, h1.c2, h1.c3, h1.c4, h1.c5, h2.c0, h2.c1, h2.c2, h2.c3⟩
    have KD8 : Hid (Below w5x.heap.size w5x w5x.drew) := (Below.refl _ _).drew
    go_region_held3 (fun u => u.cell? ⟨w5.heap.size, 0, none⟩ = some (.int .i64 x) ∧ u.cell? ⟨w5.heap.size, 1, none⟩ = some (.int .i64 y) ∧ u.cell? ⟨w5.heap.size, 2, none⟩ = some (.int .i64 z) ∧ u.cell? ⟨w5.heap.size, 3, none⟩ = some (.slice Q1 ts.length k1) ∧ u.cell? ⟨w5.heap.size, 4, none⟩ = some (.slice Q2 gs.length k2) ∧ u.cell? ⟨w5.heap.size, 5, none⟩ = some (.slice Q3 rs.length k3) ∧ u.cell? ⟨w.heap.size + 1, 0, none⟩ = some (.int .i64 p) ∧ u.cell? ⟨w.heap.size + 1, 1, none⟩ = some (.int .i64 q) ∧ u.cell? ⟨w.heap.size + 1, 2, none⟩ = some (.int .i64 r) ∧ u.cell? ⟨w.heap.size + 1, 3, none⟩ = some (.int .i64 s)) (first | with_reducible exact KE8.out _ KD8.out | with_reducible exact KE8.out _ HU7.out | with_reducible exact KE8.out _ HU8.out)
      (first
        | (go_at_call 27; (with_reducible refine (c_toPrices p q r s _).mono ?_); rintro e w7 ⟨rfl, hb7⟩; have HU7 : Hid (Below w5x.heap.size w5x w7) := KD8.out.trans (hb7.mono KD8.out.size); have XM_7 := Lib.hid (XM_5x.out.below HU7.out); clear hb7)
        | (go_at_call 30; (with_reducible refine (CI.out _ _ _ _ XM_7.out.look).mono ?_); rintro e w8 ⟨Gv, rfl, hs8, hb8⟩; have HU8 : Hid (Below w5x.heap.size w5x w8) := HU7.out.trans (hb8.mono HU7.out.size); have GS_8 := Lib.hid hs8; clear hs8; clear hb8))
    have HB8 : Hid (Below w.heap.size w w8) := HB5x.out.trans (HU8.out.mono HB5x.out.size)
    have AX_8 := Lib.hid (AX_5x.out.below HU8.out)
    have AR_8 := Lib.hid (AR_5x.out.below HU8.out)
    have WS_8 := Lib.hid (WS_5x.out.below HU8.out)
    have XM_8 := Lib.hid (XM_5x.out.below HU8.out)
    have XX_8 := Lib.hid (XX_5x.out.below HU8.out)
    have lt_ax_8 := AX_8.out.lt
    have ax_8c0 := AX_8.out.c0
    have ax_8c1 := AX_8.out.c1
    have ax_8c2 := AX_8.out.c2
    have ax_8c3 := AX_8.out.c3
    have ax_8c4 := AX_8.out.c4
    have ax_8c5 := AX_8.out.c5
    have lt_ar_8 := AR_8.out.lt
    have ar_8c0 := AR_8.out.c0
    have ar_8c1 := AR_8.out.c1
    have ar_8c2 := AR_8.out.c2
    have ar_8c3 := AR_8.out.c3
    have lt_xx_8 := XX_8.out.lt
    have xx_8c0 := XX_8.out.c0
    have xx_8c1 := XX_8.out.c1
    have xx_8c2 := XX_8.out.c2
    have xx_8c3 := XX_8.out.c3
    have xx_8c4 := XX_8.out.c4
    have xx_8c5 := XX_8.out.c5
    clear KE8 KD8
    go_wp2_with fail
    refine (c_eqIntS ys _ _ _ _ _ hyl GS_8.out WS_8.out).mono ?_
    rintro e w9 ⟨rfl, hb9⟩
    have HB9 : Hid (Below w.heap.size w w9) := HB8.out.trans (hb9.mono HB8.out.size)
    have AX_9 := Lib.hid (AX_8.out.below hb9)
    have AR_9 := Lib.hid (AR_8.out.below hb9)
    have WS_9 := Lib.hid (WS_8.out.below hb9)
    have XM_9 := Lib.hid (XM_8.out.below hb9)
    have XX_9 := Lib.hid (XX_8.out.below hb9)
    have GS_9 := Lib.hid (GS_8.out.below hb9)
    have lt_ax_9 := AX_9.out.lt
    have ax_9c0 := AX_9.out.c0
    have ax_9c1 := AX_9.out.c1
    have ax_9c2 := AX_9.out.c2
    have ax_9c3 := AX_9.out.c3
    have ax_9c4 := AX_9.out.c4
    have ax_9c5 := AX_9.out.c5
    have lt_ar_9 := AR_9.out.lt
    have ar_9c0 := AR_9.out.c0
    have ar_9c1 := AR_9.out.c1
    have ar_9c2 := AR_9.out.c2
    have ar_9c3 := AR_9.out.c3
    have lt_xx_9 := XX_9.out.lt
    have xx_9c0 := XX_9.out.c0
    have xx_9c1 := XX_9.out.c1
    have xx_9c2 := XX_9.out.c2
    have xx_9c3 := XX_9.out.c3
    have xx_9c4 := XX_9.out.c4
    have xx_9c5 := XX_9.out.c5
    clear hb9
    go_upto_region 10 with fail
    go_cut [51] (fun s wx => s = .bool false ∧ Below w9.heap.size w9 wx)
    case first =>
      go_region_with (first
        | (go_at_call 14
           refine (c_toModel x y z _ _ _ ts gs rs _ l1 l2 l3 (HL.out.t.below (by exact HB9.out.drew)) (HL.out.g.below (by exact HB9.out.drew)) (HL.out.r.below (by exact HB9.out.drew))).mono ?_
           rintro e wy ⟨r1, r2, r3, rfl, hmy, hby⟩
           obtain ⟨hcy, hfy⟩ := bcell hby
           have sy := hby.size
           simp at sy hcy hfy
           have pxy := XX_9.out.lt
           have HMY := Lib.hid hmy
           have HNY : Hid (Mod wy _ (.slice Q1 ts.length k1) (.slice Q2 gs.length k2) (.slice Q3 rs.length k3) ts gs rs) := Mod.below (Mod.drew XM_9.out) hby
           have HBY : Hid (Below w9.heap.size w9 wy) := (Below.refl _ _).drew.trans hby
           clear hby hmy)
        | (go_at_call 17
           refine (c_eqModel x y z _ _ _ _ _ _ ts gs rs _ _ _ l1 l2 l3 HNY.out HMY.out).mono ?_
           rintro e wz ⟨rfl, hbz⟩
           have HBZ : Hid (Below w9.heap.size w9 wz) := HBY.out.trans (hbz.mono HBY.out.size)
           clear hbz))
      all_goals
        go_wp2_with fail
        go_meet
        exact ⟨rfl, HBZ.out⟩
    case rest =>
      obtain ⟨rfl, hb10⟩ := hcut
      have HB10 : Hid (Below w.heap.size w wc) := HB9.out.trans (hb10.mono HB9.out.size)
      have AX_10 := Lib.hid (AX_9.out.below hb10)
      have AR_10 := Lib.hid (AR_9.out.below hb10)
      have WS_10 := Lib.hid (WS_9.out.below hb10)
      have XM_10 := Lib.hid (XM_9.out.below hb10)
      have XX_10 := Lib.hid (XX_9.out.below hb10)
      have GS_10 := Lib.hid (GS_9.out.below hb10)
      have lt_ax_10 := AX_10.out.lt
      have ax_10c0 := AX_10.out.c0
      have ax_10c1 := AX_10.out.c1
      have ax_10c2 := AX_10.out.c2
      have ax_10c3 := AX_10.out.c3
      have ax_10c4 := AX_10.out.c4
      have ax_10c5 := AX_10.out.c5
      have lt_ar_10 := AR_10.out.lt
      have ar_10c0 := AR_10.out.c0
      have ar_10c1 := AR_10.out.c1
      have ar_10c2 := AR_10.out.c2
      have ar_10c3 := AR_10.out.c3
      have lt_xx_10 := XX_10.out.lt
      have xx_10c0 := XX_10.out.c0
      have xx_10c1 := XX_10.out.c1
      have xx_10c2 := XX_10.out.c2
      have xx_10c3 := XX_10.out.c3
      have xx_10c4 := XX_10.out.c4
      have xx_10c5 := XX_10.out.c5
      clear hb10
      have OW : Hid (w.heap.size < w4.heap.size) := AX_4.out.lt
      have PA1 : Hid (Apart Wv.ownBlock (Value.slice Q1 ts.length k1).ownBlock) := apart_of WS_4.out XM_5.out.t (Nat.le_refl _)
      have PA2 : Hid (Apart Wv.ownBlock (Value.slice Q2 gs.length k2).ownBlock) := apart_of WS_4.out XM_5.out.g (Nat.le_refl _)
      have PA3 : Hid (Apart Wv.ownBlock (Value.slice Q3 rs.length k3).ownBlock) := apart_of WS_4.out XM_5.out.r (Nat.le_refl _)
      have PB1 : Hid (Apart Gv.ownBlock (Value.slice Q1 ts.length k1).ownBlock) := (apart_of XM_5x.out.t GS_8.out HU7.out.size).symm
      have PB2 : Hid (Apart Gv.ownBlock (Value.slice Q2 gs.length k2).ownBlock) := (apart_of XM_5x.out.g GS_8.out HU7.out.size).symm
      have PB3 : Hid (Apart Gv.ownBlock (Value.slice Q3 rs.length k3).ownBlock) := (apart_of XM_5x.out.r GS_8.out HU7.out.size).symm
      have PC : Hid (Apart Wv.ownBlock Gv.ownBlock) := apart_of WS_5x.out GS_8.out HU7.out.size
      go_wp2_with fail
      refine (c_markModel x y z _ _ _ ts gs rs _ 1 _ hsz (by omega) (by omega) XM_10.out).mono ?_
      rintro e w11 ⟨rfl, _, ht⟩
      have HT11 := Lib.hid ht
      clear ht
      have HB11 : Hid (Below w.heap.size w w11) := HT11.out.below HB10.out HB10.out.size (fun k hk => Nat.le_of_lt (Nat.lt_of_lt_of_le OW.out (XM_10.out.own1 k hk))) (fun k hk => Nat.le_of_lt (Nat.lt_of_lt_of_le OW.out (XM_10.out.own2 k hk))) (fun k hk => Nat.le_of_lt (Nat.lt_of_lt_of_le OW.out (XM_10.out.own3 k hk)))
      have AX_11 := Lib.hid (AX_10.out.turned HT11.out (own_ne XM_10.out.own1 OW.out) (own_ne XM_10.out.own2 OW.out) (own_ne XM_10.out.own3 OW.out))
      have WS_11 := Lib.hid (HT11.out.row WS_10.out PA1.out PA2.out PA3.out)
      have GS_11 := Lib.hid (HT11.out.row GS_10.out PB1.out PB2.out PB3.out)
      have ax_11c0 := AX_11.out.c0
      have ax_11c1 := AX_11.out.c1
      have ax_11c2 := AX_11.out.c2
      have ax_11c3 := AX_11.out.c3
      have ax_11c4 := AX_11.out.c4
      have ax_11c5 := AX_11.out.c5
      have OR : Hid (w.heap.size + 1 < w4.heap.size) := AR_4.out.lt
      have AR_11 := Lib.hid (Box4.turned AR_10.out HT11.out (own_ne XM_10.out.own1 OR.out) (own_ne XM_10.out.own2 OR.out) (own_ne XM_10.out.own3 OR.out))
      have ar_11c0 := AR_11.out.c0
      have ar_11c1 := AR_11.out.c1
      have ar_11c2 := AR_11.out.c2
      have ar_11c3 := AR_11.out.c3
      go_wp2_with fail
      refine (c_eqIntS ys _ _ _ _ _ hyl GS_11.out WS_11.out).mono ?_
      rintro e w12 ⟨rfl, hb12⟩
      have HB12 : Hid (Below w.heap.size w w12) := HB11.out.trans (hb12.mono HB11.out.size)
      have AX_12 := Lib.hid (AX_11.out.below hb12)
      have WS_12 := Lib.hid (WS_11.out.below hb12)
      have GS_12 := Lib.hid (GS_11.out.below hb12)
      have AR_12 := Lib.hid (AR_11.out.below hb12)
      have lt_ax_12 := AX_12.out.lt
      have ax_12c0 := AX_12.out.c0
      have ax_12c1 := AX_12.out.c1
      have ax_12c2 := AX_12.out.c2
      have ax_12c3 := AX_12.out.c3
      have ax_12c4 := AX_12.out.c4
      have ax_12c5 := AX_12.out.c5
      have lt_ar_12 := AR_12.out.lt
      have ar_12c0 := AR_12.out.c0
      have ar_12c1 := AR_12.out.c1
      have ar_12c2 := AR_12.out.c2
      have ar_12c3 := AR_12.out.c3
      clear hb12
      go_wp2_with fail
      refine (c_markIntS ys _ _ 1 _ hyl (by omega) (by omega) GS_12.out).mono ?_
      rintro e w13 ⟨rfl, hr, hg⟩
      have GS_13 := Lib.hid hr
      have HG13 := Lib.hid hg
      clear hr hg
      have OG : Hid (∀ k, Gv.ownBlock = some k → w5.heap.size < k) := fun k hk => Nat.lt_of_lt_of_le (by have := XX_5x.out.lt; exact this) (Nat.le_trans HU7.out.size (World.ownsRow.lt GS_8.out k hk).1)
      have OX : Hid (w.heap.size < w5.heap.size) := AX_5.out.lt
      have HB13 : Hid (Below w.heap.size w w13) := HB12.out.grown HG13.out HB12.out.size (fun k hk => by have := OG.out k hk; have := OX.out; omega)
      have AX_13 := Lib.hid (AX_12.out.grown HG13.out (fun e => by have := OG.out _ e; have := OX.out; omega))
      have WS_13 : Hid (Row w13 _ Wv ys) := World.ownsRow.kept WS_12.out HG13.out PC.out
      have ax_13c0 := AX_13.out.c0
      have ax_13c1 := AX_13.out.c1
      have ax_13c2 := AX_13.out.c2
      have ax_13c3 := AX_13.out.c3
      have ax_13c4 := AX_13.out.c4
      have ax_13c5 := AX_13.out.c5
      have OY : Hid (w.heap.size + 1 < w5.heap.size) := AR_5.out.lt
      have AR_13 := Lib.hid (Box4.grown AR_12.out HG13.out (fun e => by have := OG.out _ e; have := OY.out; omega))
      have ar_13c0 := AR_13.out.c0
      have ar_13c1 := AR_13.out.c1
      have ar_13c2 := AR_13.out.c2
      have ar_13c3 := AR_13.out.c3
      go_wp2_with fail
      refine (c_heldIntS Gv _ ys.length 1 _ hyl (by omega) (by omega) GS_13.out).mono ?_
      rintro e w' ⟨rfl, rfl⟩
      have KE16 : Hid (∀ u, Below w13.heap.size w13 u → (u.cell? ⟨w.heap.size, 0, none⟩ = some (.int .i64 x) ∧ u.cell? ⟨w.heap.size, 1, none⟩ = some (.int .i64 y) ∧ u.cell? ⟨w.heap.size, 2, none⟩ = some (.int .i64 z) ∧ u.cell? ⟨w.heap.size, 3, none⟩ = some (.slice A1 ts.length c1) ∧ u.cell? ⟨w.heap.size, 4, none⟩ = some (.slice A2 gs.length c2) ∧ u.cell? ⟨w.heap.size, 5, none⟩ = some (.slice A3 rs.length c3) ∧ u.cell? ⟨w.heap.size + 1, 0, none⟩ = some (.int .i64 p) ∧ u.cell? ⟨w.heap.size + 1, 1, none⟩ = some (.int .i64 q) ∧ u.cell? ⟨w.heap.size + 1, 2, none⟩ = some (.int .i64 r) ∧ u.cell? ⟨w.heap.size + 1, 3, none⟩ = some (.int .i64 s))) := fun u hu => by
        have h1 := AX_13.out.below hu
        have h2 := AR_13.out.below hu
        exact ⟨h1.c0, h1.c1, h1.c2, h1.c3, h1.c4, h1.c5, h2.c0, h2.c1, h2.c2, h2.c3⟩
      have KD16 : Hid (Below w13.heap.size w13 w13.drew) := (Below.refl _ _).drew
      go_wp2_with fail
      go_region_held3 (fun u => u.cell? ⟨w.heap.size, 0, none⟩ = some (.int .i64 x) ∧ u.cell? ⟨w.heap.size, 1, none⟩ = some (.int .i64 y) ∧ u.cell? ⟨w.heap.size, 2, none⟩ = some (.int .i64 z) ∧ u.cell? ⟨w.heap.size, 3, none⟩ = some (.slice A1 ts.length c1) ∧ u.cell? ⟨w.heap.size, 4, none⟩ = some (.slice A2 gs.length c2) ∧ u.cell? ⟨w.heap.size, 5, none⟩ = some (.slice A3 rs.length c3) ∧ u.cell? ⟨w.heap.size + 1, 0, none⟩ = some (.int .i64 p) ∧ u.cell? ⟨w.heap.size + 1, 1, none⟩ = some (.int .i64 q) ∧ u.cell? ⟨w.heap.size + 1, 2, none⟩ = some (.int .i64 r) ∧ u.cell? ⟨w.heap.size + 1, 3, none⟩ = some (.int .i64 s)) (first | with_reducible exact KE16.out _ KD16.out | with_reducible exact KE16.out _ HU14.out | with_reducible exact KE16.out _ HU15.out | with_reducible exact KE16.out _ HU16.out)
        (first
          | (go_at_call 14; (with_reducible refine (c_toModel x y z _ _ _ ts gs rs _ l1 l2 l3 (HL.out.t.below (by exact HB13.out.drew)) (HL.out.g.below (by exact HB13.out.drew)) (HL.out.r.below (by exact HB13.out.drew))).mono ?_); rintro e w14 ⟨Ya, Yb, Yc, rfl, hm14, hb14⟩; have HU14 : Hid (Below w13.heap.size w13 w14) := KD16.out.trans (hb14.mono KD16.out.size); have YM_14 := Lib.hid hm14; clear hm14 hb14)
          | (go_at_call 27; (with_reducible refine (c_toPrices p q r s _).mono ?_); rintro e w15 ⟨rfl, hb15⟩; have HU15 : Hid (Below w13.heap.size w13 w15) := HU14.out.trans (hb15.mono HU14.out.size); have YM_15 := Lib.hid (YM_14.out.below hb15); clear hb15)
          | (go_at_call 30; (with_reducible refine (CI.out _ _ _ _ YM_15.out.look).mono ?_); rintro e w16 ⟨Yv, rfl, hs16, hb16⟩; have HU16 : Hid (Below w13.heap.size w13 w16) := HU15.out.trans (hb16.mono HU15.out.size); have YS_16 := Lib.hid hs16; clear hs16; clear hb16))
      have HB16 : Hid (Below w.heap.size w w16) := HB13.out.trans (HU16.out.mono HB13.out.size)
      have AX_16 := Lib.hid (AX_13.out.below HU16.out)
      have WS_16 := Lib.hid (WS_13.out.below HU16.out)
      have GS_16 := Lib.hid (GS_13.out.below HU16.out)
      have AR_16 := Lib.hid (AR_13.out.below HU16.out)
      have lt_ax_16 := AX_16.out.lt
      have ax_16c0 := AX_16.out.c0
      have ax_16c1 := AX_16.out.c1
      have ax_16c2 := AX_16.out.c2
      have ax_16c3 := AX_16.out.c3
      have ax_16c4 := AX_16.out.c4
      have ax_16c5 := AX_16.out.c5
      have lt_ar_16 := AR_16.out.lt
      have ar_16c0 := AR_16.out.c0
      have ar_16c1 := AR_16.out.c1
      have ar_16c2 := AR_16.out.c2
      have ar_16c3 := AR_16.out.c3
      clear KE16 KD16
      go_wp2_with fail
      refine (c_eqIntS ys _ _ _ _ _ hyl YS_16.out WS_16.out).mono ?_
      rintro e w17 ⟨rfl, hb17⟩
      have HB17 : Hid (Below w.heap.size w w17) := HB16.out.trans (hb17.mono HB16.out.size)
      have AX_17 := Lib.hid (AX_16.out.below hb17)
      have WS_17 := Lib.hid (WS_16.out.below hb17)
      have GS_17 := Lib.hid (GS_16.out.below hb17)
      have AR_17 := Lib.hid (AR_16.out.below hb17)
      have YS_17 := Lib.hid (YS_16.out.below hb17)
      have lt_ax_17 := AX_17.out.lt
      have ax_17c0 := AX_17.out.c0
      have ax_17c1 := AX_17.out.c1
      have ax_17c2 := AX_17.out.c2
      have ax_17c3 := AX_17.out.c3
      have ax_17c4 := AX_17.out.c4
      have ax_17c5 := AX_17.out.c5
      have lt_ar_17 := AR_17.out.lt
      have ar_17c0 := AR_17.out.c0
      have ar_17c1 := AR_17.out.c1
      have ar_17c2 := AR_17.out.c2
      have ar_17c3 := AR_17.out.c3
      clear hb17
      go_wp2_with fail
      refine (c_heldIntS Gv _ ys.length 1 _ hyl (by omega) (by omega) GS_17.out).mono ?_
      rintro e w' ⟨rfl, rfl⟩
      go_wp2
      go_ret
      exact ⟨rfl, HB17.out⟩

/-! ### The row's step -/
theorem laid : laidOutB Try.prog = true := by kernel_rfl
set_option maxRecDepth 100000 in
theorem lifted (os : Os) (started : os.Started) (H : Type) (enc : TypeId × Value → H) :
    ReturnsInHanded {} Try.checked os 6 .any (Rows.fnExactPriceValuesSpec.pre6 enc Try.prog Try.f6 Rows.fnExactPriceValuesRow.domain false) (Rows.fnExactPriceValuesSpec.post enc Try.prog Try.f6 false true false false) := by
  refine returnsInHanded_of_change (C := Try.checked) own started (by kernel_rfl) Try.func6
    (ChangeSpec.witness6 (enc := enc) (C := Try.checked) false ⟨#[], #[.agg #[.int .i64 0, .int .i64 0, .int .i64 0, .slice none 0 0, .slice none 0 0, .slice none 0 0], .agg #[.int .i64 0, .int .i64 0, .int .i64 0, .int .i64 0]], []⟩ 8 (by kernel_rfl) (by kernel_rfl) (by kernel_rfl) (by kernel_rfl)) ?_
  intro W base args ds gs before hval0 hW hcnd _
  have hval : ∀ (j : Nat) t v, Try.f6.params[j]? = some t → args[j]? = some v → Value.okWide Try.prog W .any base t v := hval0
  have hW' := hW
  have lts : ∀ x ∈ before, x.block < W.heap.size := fun x hx => by simpa using hW'.lt x hx
  obtain ⟨p, q, hA0, hV, rfl, hfz, hnd⟩ := hW
  have hA : DataW.TrodAll enc Try.prog W 0 (fun _ => true) true Try.f6.params.toList args.toList ds p := hA0
  rw [Try.params6] at hA hval
  obtain ⟨v0, vs0, d0, ds0, p0, q0, hargs, rfl, rfl, h0, r0⟩ := trodAll_cons hA
  obtain ⟨v1, vs1, d1, ds1, p1, q1, rfl, rfl, rfl, h1, r1⟩ := trodAll_cons r0
  obtain ⟨rfl, rfl, rfl⟩ := trodAll_nil r1
  obtain rfl : args = #[v0, v1] := by cases args; simp_all
  obtain ⟨rfl, rfl⟩ := trodVars_none hV
  have k0 := h0
  obtain ⟨x, y, z, m1, m2, m3, ts, gs, rs, rfl, hL⟩ := open_model (hval 0 26 v0 rfl rfl) h0
  have k1 := h1
  obtain ⟨p, q, r, s, rfl⟩ := open_prices (hval 1 49 v1 rfl rfl) h1
  clear hA0 hval0
  simp only [List.append_nil] at hW' lts
  refine (walk x y z m1 m2 m3 ts gs rs p q r s W hL).mono fun e W' ⟨he, bel⟩ => ?_
  subst he
  exact ⟨_, rfl, _, _, _, [], _, [], hW', trodAll_mk1 (shut_bool Try.underlying4 _), (trodAll_cons_mk (Below.trod laid (by kernel_rfl) (of_decide_eq_true (by kernel_rfl)) k0 bel (fun x hx => lts x (by simp [hx]))) (trodAll_cons_mk (Below.trod laid (by kernel_rfl) (of_decide_eq_true (by kernel_rfl)) k1 bel (fun x hx => lts x (by simp [hx]))) trodAll_mk0)), rfl, bel.frame _, fun h => by cases h⟩

theorem over : Rows.fnExactPriceValuesRow.holds Try.pinned (OpenSpec.ofChange Rows.fnExactPriceValuesSpec) :=
  OpenClaim.holds_of_wide 6 Try.f6 rfl rfl rfl rfl rfl rfl rfl ⟨rfl, rfl, rfl, rfl, rfl⟩ rfl rfl rfl rfl rfl (by kernel_rfl) Try.func6 (by kernel_rfl)
    (of_decide_eq_true (by kernel_rfl)) (by unfold Func.isWrapper; first | (rw [if_pos (by decide +kernel)]; kernel_rfl) | (rw [if_neg (by decide +kernel)]; exact ⟨rfl, rfl⟩))
    (fun os started H enc _ => lifted os started H enc)

end Go.Proofs.Ytdodmcmkelegoaa.fnExactPriceValuesProof
namespace Go.Proofs.Ytdodmcmkelegoaa
theorem fnExactPriceValues_holds : Rows.FnExactPriceValuesSaid := fnExactPriceValuesProof.over
#print axioms fnExactPriceValues_holds
end Go.Proofs.Ytdodmcmkelegoaa
