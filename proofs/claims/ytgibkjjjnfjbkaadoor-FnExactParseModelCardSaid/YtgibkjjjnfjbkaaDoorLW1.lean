/-
  The law FnExactParseModel holds: for all strings, ParseModel answers as its model does, and its answer owns its memory. No conditions.
-/
import Derived.Test.YtgibkjjjnfjbkaaDoorLQ1
import Derived.Test.YtgibkjjjnfjbkaaDoorM11
import Derived.Test.YtgibkjjjnfjbkaaDoorM15P
namespace Go.Proofs.YtgibkjjjnfjbkaaDoor
open Go.RowKit
set_option linter.unusedVariables false

theorem ppL_120 (j : Nat) (l : List UInt8) : (ppL j l).length ≤ 120 := by
  unfold ppL rmL
  split
  · split
    · rename_i h
      rw [thr_len]
      unfold rmB at h
      simp only [Bool.and_eq_true] at h
      have hg := good_true h.2.2.2.1
      have : rmN (wsP l) ≤ 120 := hg.2.2.2.2.2.2
      omega
    · simp
  · simp

set_option maxHeartbeats 8000000 in
set_option maxRecDepth 100000 in
theorem walk (s : ByteArray) (w : World) (hb : LB w) :
    Calls Tryd.prog 3 #[.string s] w fun e w' => e = .returned (.bool true) ∧ Below w.heap.size w w' := by
  have HLB := Lib.hid hb
  clear hb
  by_cases hs : s.size ≤ 1048576
  · have hs' : ¬ (s.size : Int) > 1048576 := by omega
    obtain ⟨X, Y, Z, T, G, R, bb, hTs, CS, CI⟩ : ∃ (X Y Z : Int) (T G R : List Int) (bb : Bool), T.length + G.length + R.length ≤ 1048576 ∧ Hid (∀ u : World, Calls Tryd.prog 4 #[.string s] u (GivesMB u X Y Z T G R bb)) ∧ Hid (∀ u : World, LB u → Calls Tryd.prog 5 #[.string s] u (GivesMB u X Y Z T G R bb)) :=
      ⟨ppX 0 s.data.toList, ppX 1 s.data.toList, ppX 2 s.data.toList, ppL 0 s.data.toList, ppL 1 s.data.toList, ppL 2 s.data.toList, ppB s.data.toList, by have h0 := ppL_120 0 s.data.toList; have h1 := ppL_120 1 s.data.toList; have h2 := ppL_120 2 s.data.toList; omega, fun u => c_ParseModelT s u hs, fun u hu => c_ParseModel s u hs hu⟩
    have hnb : (bb != bb) = false := by simp
    have hnq : ((1 + (T.length : Int) + (G.length : Int) + (R.length : Int)) != (1 + (T.length : Int) + (G.length : Int) + (R.length : Int))) = false := by simp
    have hpq : ¬ (1 + (T.length : Int) + (G.length : Int) + (R.length : Int)) < 0 := by omega
    have lT : T.length ≤ 4000000 := by omega
    have lG : G.length ≤ 4000000 := by omega
    have lR : R.length ≤ 4000000 := by omega
    have HB0 : Hid (Below w.heap.size w w) := Below.refl _ _
    go_enter Tryd.func3, Tryd.ntmps3
    go_wp2_with fail
    refine (CS.out _).mono ?_
    rintro e w1 ⟨Wa, Wb, Wc, rfl, hm, hb1⟩
    have HB1 : Hid (Below w.heap.size w w1) := HB0.out.trans (hb1.mono HB0.out.size)
    obtain ⟨K1, K4, rfl⟩ := hm.t.shape
    obtain ⟨K2, K5, rfl⟩ := hm.g.shape
    obtain ⟨K3, K6, rfl⟩ := hm.r.shape
    have WM_1 := Lib.hid hm
    clear hm hb1
    have hbx : Below w1.heap.size w1 (w1.alloc (.cells #[.int .i64 X, .int .i64 Y, .int .i64 Z, .slice K1 T.length K4, .slice K2 G.length K5, .slice K3 R.length K6] 26)) := (Below.refl _ _).alloc (Nat.le_refl _) _
    have HB1x : Hid (Below w.heap.size w (w1.alloc (.cells #[.int .i64 X, .int .i64 Y, .int .i64 Z, .slice K1 T.length K4, .slice K2 G.length K5, .slice K3 R.length K6] 26))) := HB1.out.trans (hbx.mono HB1.out.size)
    have WM_1x := Lib.hid (WM_1.out.below hbx)
    have WX_1x : Hid (Box6 (w1.alloc (.cells #[.int .i64 X, .int .i64 Y, .int .i64 Z, .slice K1 T.length K4, .slice K2 G.length K5, .slice K3 R.length K6] 26)) w1.heap.size X Y Z (.slice K1 T.length K4) (.slice K2 G.length K5) (.slice K3 R.length K6)) := Box6.new _ _ _ _ _ _ _ _
    clear hbx
    go_wp2_with fail
    refine (CI.out _ (HLB.out.below HB1x.out)).mono ?_
    rintro e w2 ⟨Va, Vb, Vc, rfl, hm, hb2⟩
    have HB2 : Hid (Below w.heap.size w w2) := HB1x.out.trans (hb2.mono HB1x.out.size)
    have WM_2 := Lib.hid (WM_1x.out.below hb2)
    have WX_2 := Lib.hid (WX_1x.out.below hb2)
    obtain ⟨P1, P4, rfl⟩ := hm.t.shape
    obtain ⟨P2, P5, rfl⟩ := hm.g.shape
    obtain ⟨P3, P6, rfl⟩ := hm.r.shape
    have GM_2 := Lib.hid hm
    clear hm hb2
    have hbx : Below w2.heap.size w2 (w2.alloc (.cells #[.int .i64 X, .int .i64 Y, .int .i64 Z, .slice P1 T.length P4, .slice P2 G.length P5, .slice P3 R.length P6] 26)) := (Below.refl _ _).alloc (Nat.le_refl _) _
    have HB2x : Hid (Below w.heap.size w (w2.alloc (.cells #[.int .i64 X, .int .i64 Y, .int .i64 Z, .slice P1 T.length P4, .slice P2 G.length P5, .slice P3 R.length P6] 26))) := HB2.out.trans (hbx.mono HB2.out.size)
    have WM_2x := Lib.hid (WM_2.out.below hbx)
    have WX_2x := Lib.hid (WX_2.out.below hbx)
    have GM_2x := Lib.hid (GM_2.out.below hbx)
    have GX_2x : Hid (Box6 (w2.alloc (.cells #[.int .i64 X, .int .i64 Y, .int .i64 Z, .slice P1 T.length P4, .slice P2 G.length P5, .slice P3 R.length P6] 26)) w2.heap.size X Y Z (.slice P1 T.length P4) (.slice P2 G.length P5) (.slice P3 R.length P6)) := Box6.new _ _ _ _ _ _ _ _
    clear hbx
    have OW : Hid (w.heap.size ≤ w1.heap.size) := HB1.out.size
    have OX := Lib.hid WX_1x.out.lt
    have s1x : Hid (w1.heap.size < w2.heap.size) := by have := WX_2.out.lt; exact this
    have lt_wx_2 := WX_2.out.lt
    have wx_2c0 := WX_2.out.c0
    have wx_2c1 := WX_2.out.c1
    have wx_2c2 := WX_2.out.c2
    have wx_2c3 := WX_2.out.c3
    have wx_2c4 := WX_2.out.c4
    have wx_2c5 := WX_2.out.c5
    go_wp2_with fail
    clear lt_wx_2 wx_2c0 wx_2c1 wx_2c2 wx_2c3 wx_2c4 wx_2c5
    have wx_2xc0 := WX_2x.out.c0
    have wx_2xc1 := WX_2x.out.c1
    have wx_2xc2 := WX_2x.out.c2
    have wx_2xc3 := WX_2x.out.c3
    have wx_2xc4 := WX_2x.out.c4
    have wx_2xc5 := WX_2x.out.c5
    have gx_2xc0 := GX_2x.out.c0
    have gx_2xc1 := GX_2x.out.c1
    have gx_2xc2 := GX_2x.out.c2
    have gx_2xc3 := GX_2x.out.c3
    have gx_2xc4 := GX_2x.out.c4
    have gx_2xc5 := GX_2x.out.c5
    go_wp2_with fail
    refine (c_eqModel X Y Z _ _ _ _ _ _ T G R _ _ _ lT lG lR GM_2x.out WM_2x.out).mono ?_
    rintro e w3 ⟨rfl, hb3⟩
    have HB3 : Hid (Below w.heap.size w w3) := HB2x.out.trans (hb3.mono HB2x.out.size)
    have WM_3 := Lib.hid (WM_2x.out.below hb3)
    have WX_3 := Lib.hid (WX_2x.out.below hb3)
    have GM_3 := Lib.hid (GM_2x.out.below hb3)
    have GX_3 := Lib.hid (GX_2x.out.below hb3)
    clear hb3
    clear wx_2xc0 wx_2xc1 wx_2xc2 wx_2xc3 wx_2xc4 wx_2xc5 gx_2xc0 gx_2xc1 gx_2xc2 gx_2xc3 gx_2xc4 gx_2xc5
    have lt_wx_3 := WX_3.out.lt
    have wx_3c0 := WX_3.out.c0
    have wx_3c1 := WX_3.out.c1
    have wx_3c2 := WX_3.out.c2
    have wx_3c3 := WX_3.out.c3
    have wx_3c4 := WX_3.out.c4
    have wx_3c5 := WX_3.out.c5
    have lt_gx_3 := GX_3.out.lt
    have gx_3c0 := GX_3.out.c0
    have gx_3c1 := GX_3.out.c1
    have gx_3c2 := GX_3.out.c2
    have gx_3c3 := GX_3.out.c3
    have gx_3c4 := GX_3.out.c4
    have gx_3c5 := GX_3.out.c5
    go_wp2_with fail
    refine (c_markModel X Y Z _ _ _ T G R _ 1 _ hTs (by omega) (by omega) GM_3.out).mono ?_
    rintro e w4 ⟨rfl, hm, ht⟩
    have HU := Lib.hid ht
    have GM_4 := Lib.hid hm
    clear ht hm
    have OG : Hid (∀ k, (Value.slice P1 T.length P4).ownBlock = some k ∨ (Value.slice P2 G.length P5).ownBlock = some k ∨ (Value.slice P3 R.length P6).ownBlock = some k → w1.heap.size < k) := fun k hk => by
      have hs := OX.out
      rcases hk with hk | hk | hk
      · exact Nat.lt_of_lt_of_le hs (GM_2.out.own1 k hk)
      · exact Nat.lt_of_lt_of_le hs (GM_2.out.own2 k hk)
      · exact Nat.lt_of_lt_of_le hs (GM_2.out.own3 k hk)
    have HB4 : Hid (Below w.heap.size w w4) := HU.out.below HB3.out HB3.out.size (fun k hk => by have := OG.out k (.inl hk); have := OW.out; omega) (fun k hk => by have := OG.out k (.inr (.inl hk)); have := OW.out; omega) (fun k hk => by have := OG.out k (.inr (.inr hk)); have := OW.out; omega)
    have WX_4 := Lib.hid (WX_3.out.turned HU.out (fun e => Nat.lt_irrefl _ (OG.out _ (.inl e))) (fun e => Nat.lt_irrefl _ (OG.out _ (.inr (.inl e)))) (fun e => Nat.lt_irrefl _ (OG.out _ (.inr (.inr e)))))
    have GX_4 := Lib.hid (GX_3.out.turned HU.out GM_2.out.top1 GM_2.out.top2 GM_2.out.top3)
    have WM_4 := Lib.hid (Mod.before WM_3.out WM_1x.out GM_2.out (Nat.le_refl _) HU.out)
    clear lt_wx_3 wx_3c0 wx_3c1 wx_3c2 wx_3c3 wx_3c4 wx_3c5 lt_gx_3 gx_3c0 gx_3c1 gx_3c2 gx_3c3 gx_3c4 gx_3c5
    have lt_wx_4 := WX_4.out.lt
    have wx_4c0 := WX_4.out.c0
    have wx_4c1 := WX_4.out.c1
    have wx_4c2 := WX_4.out.c2
    have wx_4c3 := WX_4.out.c3
    have wx_4c4 := WX_4.out.c4
    have wx_4c5 := WX_4.out.c5
    have lt_gx_4 := GX_4.out.lt
    have gx_4c0 := GX_4.out.c0
    have gx_4c1 := GX_4.out.c1
    have gx_4c2 := GX_4.out.c2
    have gx_4c3 := GX_4.out.c3
    have gx_4c4 := GX_4.out.c4
    have gx_4c5 := GX_4.out.c5
    go_wp2_with fail
    refine (c_heldModel X Y Z _ _ _ T.length G.length R.length _ 1 _ hTs (by omega) (by omega) GM_4.out).mono ?_
    rintro e w5 ⟨rfl, hb5⟩
    have HB5 : Hid (Below w.heap.size w w5) := HB4.out.trans (hb5.mono HB4.out.size)
    have WM_5 := Lib.hid (WM_4.out.below hb5)
    have WX_5 := Lib.hid (WX_4.out.below hb5)
    have GM_5 := Lib.hid (GM_4.out.below hb5)
    have GX_5 := Lib.hid (GX_4.out.below hb5)
    clear hb5
    clear lt_wx_4 wx_4c0 wx_4c1 wx_4c2 wx_4c3 wx_4c4 wx_4c5 lt_gx_4 gx_4c0 gx_4c1 gx_4c2 gx_4c3 gx_4c4 gx_4c5
    have lt_wx_5 := WX_5.out.lt
    have wx_5c0 := WX_5.out.c0
    have wx_5c1 := WX_5.out.c1
    have wx_5c2 := WX_5.out.c2
    have wx_5c3 := WX_5.out.c3
    have wx_5c4 := WX_5.out.c4
    have wx_5c5 := WX_5.out.c5
    have lt_gx_5 := GX_5.out.lt
    have gx_5c0 := GX_5.out.c0
    have gx_5c1 := GX_5.out.c1
    have gx_5c2 := GX_5.out.c2
    have gx_5c3 := GX_5.out.c3
    have gx_5c4 := GX_5.out.c4
    have gx_5c5 := GX_5.out.c5
    go_wp2_with fail
    refine (CI.out _ (HLB.out.below HB5.out)).mono ?_
    rintro e w6 ⟨Ua, Ub, Uc, rfl, hm, hb6⟩
    have HB6 : Hid (Below w.heap.size w w6) := HB5.out.trans (hb6.mono HB5.out.size)
    have WM_6 := Lib.hid (WM_5.out.below hb6)
    have WX_6 := Lib.hid (WX_5.out.below hb6)
    have GM_6 := Lib.hid (GM_5.out.below hb6)
    have GX_6 := Lib.hid (GX_5.out.below hb6)
    obtain ⟨J1, J4, rfl⟩ := hm.t.shape
    obtain ⟨J2, J5, rfl⟩ := hm.g.shape
    obtain ⟨J3, J6, rfl⟩ := hm.r.shape
    have HM_6 := Lib.hid hm
    clear hm hb6
    have hbx : Below w6.heap.size w6 (w6.alloc (.cells #[.int .i64 X, .int .i64 Y, .int .i64 Z, .slice J1 T.length J4, .slice J2 G.length J5, .slice J3 R.length J6] 26)) := (Below.refl _ _).alloc (Nat.le_refl _) _
    have HB6x : Hid (Below w.heap.size w (w6.alloc (.cells #[.int .i64 X, .int .i64 Y, .int .i64 Z, .slice J1 T.length J4, .slice J2 G.length J5, .slice J3 R.length J6] 26))) := HB6.out.trans (hbx.mono HB6.out.size)
    have WM_6x := Lib.hid (WM_6.out.below hbx)
    have WX_6x := Lib.hid (WX_6.out.below hbx)
    have GM_6x := Lib.hid (GM_6.out.below hbx)
    have GX_6x := Lib.hid (GX_6.out.below hbx)
    have HM_6x := Lib.hid (HM_6.out.below hbx)
    have HX_6x : Hid (Box6 (w6.alloc (.cells #[.int .i64 X, .int .i64 Y, .int .i64 Z, .slice J1 T.length J4, .slice J2 G.length J5, .slice J3 R.length J6] 26)) w6.heap.size X Y Z (.slice J1 T.length J4) (.slice J2 G.length J5) (.slice J3 R.length J6)) := Box6.new _ _ _ _ _ _ _ _
    clear hbx
    clear lt_wx_5 wx_5c0 wx_5c1 wx_5c2 wx_5c3 wx_5c4 wx_5c5 lt_gx_5 gx_5c0 gx_5c1 gx_5c2 gx_5c3 gx_5c4 gx_5c5
    have lt_wx_6 := WX_6.out.lt
    have wx_6c0 := WX_6.out.c0
    have wx_6c1 := WX_6.out.c1
    have wx_6c2 := WX_6.out.c2
    have wx_6c3 := WX_6.out.c3
    have wx_6c4 := WX_6.out.c4
    have wx_6c5 := WX_6.out.c5
    have lt_gx_6 := GX_6.out.lt
    have gx_6c0 := GX_6.out.c0
    have gx_6c1 := GX_6.out.c1
    have gx_6c2 := GX_6.out.c2
    have gx_6c3 := GX_6.out.c3
    have gx_6c4 := GX_6.out.c4
    have gx_6c5 := GX_6.out.c5
    go_wp2_with fail
    clear lt_wx_6 wx_6c0 wx_6c1 wx_6c2 wx_6c3 wx_6c4 wx_6c5 lt_gx_6 gx_6c0 gx_6c1 gx_6c2 gx_6c3 gx_6c4 gx_6c5
    have wx_6xc0 := WX_6x.out.c0
    have wx_6xc1 := WX_6x.out.c1
    have wx_6xc2 := WX_6x.out.c2
    have wx_6xc3 := WX_6x.out.c3
    have wx_6xc4 := WX_6x.out.c4
    have wx_6xc5 := WX_6x.out.c5
    have gx_6xc0 := GX_6x.out.c0
    have gx_6xc1 := GX_6x.out.c1
    have gx_6xc2 := GX_6x.out.c2
    have gx_6xc3 := GX_6x.out.c3
    have gx_6xc4 := GX_6x.out.c4
    have gx_6xc5 := GX_6x.out.c5
    have hx_6xc0 := HX_6x.out.c0
    have hx_6xc1 := HX_6x.out.c1
    have hx_6xc2 := HX_6x.out.c2
    have hx_6xc3 := HX_6x.out.c3
    have hx_6xc4 := HX_6x.out.c4
    have hx_6xc5 := HX_6x.out.c5
    go_wp2_with fail
    refine (c_eqModel X Y Z _ _ _ _ _ _ T G R _ _ _ lT lG lR HM_6x.out WM_6x.out).mono ?_
    rintro e w7 ⟨rfl, hb7⟩
    have HB7 : Hid (Below w.heap.size w w7) := HB6x.out.trans (hb7.mono HB6x.out.size)
    have WM_7 := Lib.hid (WM_6x.out.below hb7)
    have WX_7 := Lib.hid (WX_6x.out.below hb7)
    have GM_7 := Lib.hid (GM_6x.out.below hb7)
    have GX_7 := Lib.hid (GX_6x.out.below hb7)
    have HX_7 := Lib.hid (HX_6x.out.below hb7)
    clear hb7
    clear wx_6xc0 wx_6xc1 wx_6xc2 wx_6xc3 wx_6xc4 wx_6xc5 gx_6xc0 gx_6xc1 gx_6xc2 gx_6xc3 gx_6xc4 gx_6xc5 hx_6xc0 hx_6xc1 hx_6xc2 hx_6xc3 hx_6xc4 hx_6xc5
    have lt_wx_7 := WX_7.out.lt
    have wx_7c0 := WX_7.out.c0
    have wx_7c1 := WX_7.out.c1
    have wx_7c2 := WX_7.out.c2
    have wx_7c3 := WX_7.out.c3
    have wx_7c4 := WX_7.out.c4
    have wx_7c5 := WX_7.out.c5
    have lt_gx_7 := GX_7.out.lt
    have gx_7c0 := GX_7.out.c0
    have gx_7c1 := GX_7.out.c1
    have gx_7c2 := GX_7.out.c2
    have gx_7c3 := GX_7.out.c3
    have gx_7c4 := GX_7.out.c4
    have gx_7c5 := GX_7.out.c5
    have lt_hx_7 := HX_7.out.lt
    have hx_7c0 := HX_7.out.c0
    have hx_7c1 := HX_7.out.c1
    have hx_7c2 := HX_7.out.c2
    have hx_7c3 := HX_7.out.c3
    have hx_7c4 := HX_7.out.c4
    have hx_7c5 := HX_7.out.c5
    go_wp2_with fail
    refine (c_heldModel X Y Z _ _ _ T.length G.length R.length _ 1 _ hTs (by omega) (by omega) GM_7.out).mono ?_
    rintro e w8 ⟨rfl, hb8⟩
    have HB8 : Hid (Below w.heap.size w w8) := HB7.out.trans (hb8.mono HB7.out.size)
    have WX_8 := Lib.hid (WX_7.out.below hb8)
    have GX_8 := Lib.hid (GX_7.out.below hb8)
    have HX_8 := Lib.hid (HX_7.out.below hb8)
    clear hb8
    clear lt_wx_7 wx_7c0 wx_7c1 wx_7c2 wx_7c3 wx_7c4 wx_7c5 lt_gx_7 gx_7c0 gx_7c1 gx_7c2 gx_7c3 gx_7c4 gx_7c5 lt_hx_7 hx_7c0 hx_7c1 hx_7c2 hx_7c3 hx_7c4 hx_7c5
    have lt_wx_8 := WX_8.out.lt
    have wx_8c0 := WX_8.out.c0
    have wx_8c1 := WX_8.out.c1
    have wx_8c2 := WX_8.out.c2
    have wx_8c3 := WX_8.out.c3
    have wx_8c4 := WX_8.out.c4
    have wx_8c5 := WX_8.out.c5
    have lt_gx_8 := GX_8.out.lt
    have gx_8c0 := GX_8.out.c0
    have gx_8c1 := GX_8.out.c1
    have gx_8c2 := GX_8.out.c2
    have gx_8c3 := GX_8.out.c3
    have gx_8c4 := GX_8.out.c4
    have gx_8c5 := GX_8.out.c5
    have lt_hx_8 := HX_8.out.lt
    have hx_8c0 := HX_8.out.c0
    have hx_8c1 := HX_8.out.c1
    have hx_8c2 := HX_8.out.c2
    have hx_8c3 := HX_8.out.c3
    have hx_8c4 := HX_8.out.c4
    have hx_8c5 := HX_8.out.c5
    go_wp2
    go_ret
    exact ⟨rfl, HB8.out⟩
  · have hs' : (s.size : Int) > 1048576 := by omega
    go_enter Tryd.func3, Tryd.ntmps3
    go_wp2
    go_ret
    exact ⟨rfl, Below.refl _ _⟩
end Go.Proofs.YtgibkjjjnfjbkaaDoor
