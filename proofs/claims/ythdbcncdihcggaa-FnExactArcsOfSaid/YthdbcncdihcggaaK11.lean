/-
  Contracts: the blocks above a block, marked (program).
-/
import Derived.Test.YthdbcncdihcggaaK10
import Derived.Test.YthdbcncdihcggaaC3
import Derived.Test.YthdbcncdihcggaaO5
import Derived.Deep.CutBlock
namespace Go.Proofs.Ythdbcncdihcggaa
open Go.RowKit
set_option linter.unusedVariables false

/-- The marks behind the first j offsets. -/
def hitL (x y z : Int) (i : Nat) (ys : List Int) (N j : Nat) : List Bool := (List.range N).map fun (k : Nat) => hitB x y z i ys j (k : Int)
theorem hitL_len (x y z : Int) (i : Nat) (ys : List Int) (N j : Nat) : (hitL x y z i ys N j).length = N := by simp [hitL]
theorem hitL_zero (x y z : Int) (i : Nat) (ys : List Int) (N : Nat) : hitL x y z i ys N 0 = List.replicate N false := by
  unfold hitL hitB
  apply List.ext_getElem
  · simp
  · intro a b c; simp
theorem hitL_miss (x y z : Int) (i : Nat) (ys : List Int) (N j : Nat) (h : arcK x y z i ys j = -1) : hitL x y z i ys N (j + 1) = hitL x y z i ys N j := by
  unfold hitL
  apply List.map_congr_left
  intro k _
  rw [hitB, h, show ((-1 : Int) == (k : Int)) = false from beq_eq_false_iff_ne.2 (by omega), Bool.or_false]
theorem hitL_set (x y z : Int) (i : Nat) (ys : List Int) (N j m : Nat) (h : arcK x y z i ys j = (m : Int)) : (hitL x y z i ys N j).set m true = hitL x y z i ys N (j + 1) := by
  unfold hitL
  apply List.ext_getElem
  · simp
  · intro a h1 h2
    simp only [List.getElem_set, List.getElem_map, List.getElem_range, hitB, h]
    by_cases e : m = a
    · subst e; simp
    · rw [if_neg e, show ((m : Int) == (a : Int)) = false from beq_eq_false_iff_ne.2 (by omega), Bool.or_false]
theorem hitL_sel (x y z : Int) (i : Nat) (ys : List Int) (N j : Nat) : sel (bAt (hitL x y z i ys N j)) N = sel (hitB x y z i ys j) N := sel_congr fun k hk => by
  unfold bAt hitL
  simp [List.getD_eq_getElem?_getD, hk]
theorem at_case {x y z a b c : Int} (hg : goodB x y z = true) : (inB x y z a b c = true ∧ atB x y z a b c = true ∧ atW x y z a b c = atV x y z a b c) ∨ (atV x y z a b c = -1 ∧ atB x y z a b c = false) := by
  unfold atW atB atV
  rw [hg]
  cases inB x y z a b c
  · exact .inr ⟨rfl, rfl⟩
  · exact .inl ⟨rfl, rfl, rfl⟩
theorem Mine2.grown {w w' : World} {b : Nat} {u0 u1 : Value} {o : Option Nat} (h : Mine2 w b u0 u1) (hg : w.grownBy w' o) (hne : o ≠ some b) : Mine2 w' b u0 u1 := by
  have e := hg.block b h.lt (fun e => hne (by first | exact e | exact e.symm))
  have k : ∀ j, w'.cell? ⟨b, j, none⟩ = w.cell? ⟨b, j, none⟩ := fun j => by simp only [World.cell?, e]
  have kf : ∀ j, w'.frozen? ⟨b, j, none⟩ = w.frozen? ⟨b, j, none⟩ := fun j => by simp only [World.frozen?, e]
  exact ⟨Nat.lt_of_lt_of_le h.lt hg.size, by rw [k]; exact h.c0, by rw [k]; exact h.c1, fun o => by rw [kf]; exact h.f o⟩
theorem Box3.grownB {w w' : World} {b : Nat} {x y z : Int} {o : Option Nat} (h : Box3 w b x y z) (hg : w.grownBy w' o) (hne : o ≠ some b) : Box3 w' b x y z := by
  have e := hg.block b h.lt (fun e => hne (by first | exact e | exact e.symm))
  have k : ∀ j, w'.cell? ⟨b, j, none⟩ = w.cell? ⟨b, j, none⟩ := fun j => by simp only [World.cell?, e]
  exact ⟨Nat.lt_of_lt_of_le h.lt hg.size, by rw [k]; exact h.c0, by rw [k]; exact h.c1, by rw [k]; exact h.c2⟩

set_option maxHeartbeats 4000000 in
theorem c_markAbove (x y z : Int) (v1 v2 : Value) (ss : List Int) (tss : List (List Int)) (i g c N B : Nat) (W0 w : World) (h : Good x y z ss tss) (hi : i < blkN x y z) (hN : N = blkN x y z) (hL : LookS W0 v1 v2 ss tss) (hw : Below W0.heap.size W0 w) (hB : W0.heap.size ≤ B) (hr : RowB w B (.slice (some ⟨g, 0, none⟩) N c) (hitL x y z i (tmpL x y ss tss i) N 0)) :
    Calls Try.prog 62 #[.agg #[.int .i64 x, .int .i64 y, .int .i64 z], .agg #[v1, v2], .int .i64 i, .slice (some ⟨g, 0, none⟩) N c] w fun e w' => e = .returned (.tuple #[]) ∧ RowB w' B (.slice (some ⟨g, 0, none⟩) N c) (hitL x y z i (tmpL x y ss tss i) N ((tmpL x y ss tss i).length / 3)) ∧ w.grownBy w' (some g) := by
  obtain ⟨x1, x2, y1, y2, z1, z2, p1, p2, q1, q2⟩ := good_box h.g
  have HG := Lib.hid h.g
  have n2 : N ≤ 120 := by have := h.n2; omega
  have n1 : 1 ≤ N := by have := h.n1; omega
  have hi' : i < N := by omega
  obtain ⟨hsec, hslt⟩ := sec_lt h i
  obtain ⟨k, hk, hkl, htm, htb⟩ := tmp_good h i
  have HL := Lib.hid hL
  obtain ⟨A1, c1, rfl, m1, hA1⟩ := hL.s
  obtain ⟨A2, c2, rfl, m2, hA2⟩ := hL.t
  obtain ⟨b1, o1, rfl, hb1, hc1⟩ := hA1 (by omega)
  obtain ⟨b2, o2, rfl, hb2, hc2⟩ := hA2 (by omega)
  obtain ⟨tu, htu, hts⟩ := hc2 k hkl
  rw [htm] at hr ⊢
  obtain ⟨t1', t2', _⟩ := tem_true htb
  have HO : Hid (∀ j : Nat, j < (tss.getD k []).length / 3 → -2 ≤ (tss.getD k []).getD (j * 3) 0 ∧ (tss.getD k []).getD (j * 3) 0 ≤ 2 ∧ -2 ≤ (tss.getD k []).getD (j * 3 + 1) 0 ∧ (tss.getD k []).getD (j * 3 + 1) 0 ≤ 2 ∧ 1 ≤ (tss.getD k []).getD (j * 3 + 2) 0 ∧ (tss.getD k []).getD (j * 3 + 2) 0 ≤ 2) := fun j hj => tem_off htb hj
  generalize tss.getD k [] = ys at *
  obtain ⟨b3, o3, A3, c3, rfl, hA3⟩ : ∃ b3 o3 A3 c3, tu = .slice (some ⟨b3, o3, none⟩) (ys.length / 3) c3 ∧ (A3 = b3 ∧ b3 < W0.heap.size ∧ ∀ j : Nat, j < ys.length / 3 * 3 → W0.cell? ⟨b3, o3 + j, none⟩ = some (.int .i64 (ys.getD j 0))) := by
    obtain ⟨A3, c3, rfl, _, _, hA3⟩ := hts
    obtain ⟨b3, o3, rfl, hlt, hc⟩ := hA3 (by omega)
    exact ⟨b3, o3, b3, c3, rfl, rfl, hlt, hc⟩
  obtain ⟨_, hb3, hc3⟩ := hA3
  have E1 : Hid (∀ u, Below W0.heap.size W0 u → u.cell? ⟨b1, o1 + secN x y i, none⟩ = some (.int .i64 k) ∧ b1 < u.heap.size ∧ u.cell? ⟨b2, o2 + k, none⟩ = some (.slice (some ⟨b3, o3, none⟩) (ys.length / 3) c3)) := fun u hu => ⟨by rw [hu.cell (p := ⟨b1, o1 + secN x y i, none⟩) hb1, hc1 _ hslt, hk], Nat.lt_of_lt_of_le hb1 hu.size, by rw [hu.cell (p := ⟨b2, o2 + k, none⟩) hb2]; exact htu⟩
  have E3 : Hid (∀ u, Below W0.heap.size W0 u → ∀ j : Nat, j < ys.length / 3 * 3 → u.cell? ⟨b3, o3 + j, none⟩ = some (.int .i64 (ys.getD j 0))) := fun u hu j hj => by rw [hu.cell (p := ⟨b3, o3 + j, none⟩) hb3]; exact hc3 j hj
  have HW := Lib.hid hw
  have HR := Lib.hid hr
  have hgB : Hid (B ≤ g ∧ g < w.heap.size) := by
    obtain ⟨g', c', e, hg1, hg2⟩ := World.ownsRow.form hr (by rw [hitL_len]; omega)
    simp at e
    rw [e.1]
    exact ⟨hg1, hg2⟩
  have HLn : Hid (∀ j, (hitL x y z i ys N j).length = N) := hitL_len _ _ _ _ _ _
  have HK : Hid (∀ j, arcK x y z i ys j = atV x y z ((i : Int) % x + ys.getD (j * 3) 0) ((i : Int) / x % y + ys.getD (j * 3 + 1) 0) ((i : Int) / x / y - ys.getD (j * 3 + 2) 0)) := fun j => rfl
  have HM1 : Hid (∀ j, arcK x y z i ys j = -1 → hitL x y z i ys N (j + 1) = hitL x y z i ys N j) := hitL_miss _ _ _ _ _ _
  have HM2 : Hid (∀ j m : Nat, arcK x y z i ys j = (m : Int) → (hitL x y z i ys N j).set m true = hitL x y z i ys N (j + 1)) := hitL_set _ _ _ _ _ _
  have HlN : Hid (x * y * z = (N : Int)) := by rw [hN]; exact h.n
  generalize hitL x y z i ys N = HT at *
  generalize arcK x y z i ys = K at *
  have d1 := mod_box (i := (i : Int)) x1
  have d2 := mod_box (i := (i : Int) / x) y1
  have d3 := div_box (i := (i : Int)) x1 (by omega)
  have d4 := div_box (i := (i : Int) / x) y1 d3.1
  have CF : Hid (∀ u, Calls Try.prog 84 #[.agg #[.int .i64 x, .int .i64 y, .int .i64 z], .int .i64 i] u fun e w' => e = .returned (.agg #[.int .i64 ((i : Int) % x), .int .i64 ((i : Int) / x % y), .int .i64 ((i : Int) / x / y)]) ∧ Below u.heap.size u w') := fun u => c_findPlace x y z i u x1 x2 y1 y2 (by omega) (by omega)
  have CL : Hid (∀ u, Calls Try.prog 54 #[.agg #[.int .i64 x, .int .i64 y, .int .i64 z]] u fun e w' => e = .returned (.int .i64 (x * y)) ∧ Below u.heap.size u w') := fun u => c_levelSize x y z u HG.out
  have CB : Hid (∀ (a b c : Int) (u : World), Calls Try.prog 85 #[.agg #[.int .i64 x, .int .i64 y, .int .i64 z], .int .i64 a, .int .i64 b, .int .i64 c] u fun e w' => e = .returned (.tuple #[.int .i64 (atW x y z a b c), .bool (atB x y z a b c)]) ∧ Below u.heap.size u w') := fun a b c u => c_BlockAt x y z a b c u
  have hsl : (ss.length : Int) = x * y := h.l
  have hxy : 1 ≤ x * y := by omega
  have tl4 := h.t2
  clear hA1 hA2 hb1 hb2 hb3 hc1 hc2 hc3 htu hts htb hr hw hk htm h m1 m2 hL hN hi
  obtain ⟨px, hpx⟩ : ∃ px, (i : Int) % x = px := ⟨_, rfl⟩
  obtain ⟨py, hpy⟩ : ∃ py, (i : Int) / x % y = py := ⟨_, rfl⟩
  obtain ⟨pz, hpz⟩ : ∃ pz, (i : Int) / x / y = pz := ⟨_, rfl⟩
  rw [hpx, hpy, hpz] at CF
  rw [hpx] at d1
  rw [hpy] at d2
  have d5 : 0 ≤ pz ∧ pz ≤ 1000 := by omega
  have HK' : Hid (∀ j, K j = atV x y z (px + ys.getD (j * 3) 0) (py + ys.getD (j * 3 + 1) 0) (pz - ys.getD (j * 3 + 2) 0)) := fun j => by rw [HK.out, hpx, hpy, hpz]
  clear HK d3 d4 hpx hpy hpz
  have HX0 : Hid (Box3 ((w.alloc (.cells #[.int .i64 x, .int .i64 y, .int .i64 z] 38)).alloc (.cells #[.slice (some ⟨b1, o1, none⟩) ss.length c1, .slice (some ⟨b2, o2, none⟩) tss.length c2] 42)) w.heap.size x y z) := (Box3.new _ _ _ _ _).below ((Below.refl _ _).alloc (Nat.le_refl _) _)
  have HY0 : Hid (Mine2 ((w.alloc (.cells #[.int .i64 x, .int .i64 y, .int .i64 z] 38)).alloc (.cells #[.slice (some ⟨b1, o1, none⟩) ss.length c1, .slice (some ⟨b2, o2, none⟩) tss.length c2] 42)) (w.heap.size + 1) (.slice (some ⟨b1, o1, none⟩) ss.length c1) (.slice (some ⟨b2, o2, none⟩) tss.length c2)) := by
    have := Mine2.new (w.alloc (.cells #[.int .i64 x, .int .i64 y, .int .i64 z] 38)) (.slice (some ⟨b1, o1, none⟩) ss.length c1) (.slice (some ⟨b2, o2, none⟩) tss.length c2) 42
    simp at this
    exact this
  have HB0 : Hid (Below w.heap.size w ((w.alloc (.cells #[.int .i64 x, .int .i64 y, .int .i64 z] 38)).alloc (.cells #[.slice (some ⟨b1, o1, none⟩) ss.length c1, .slice (some ⟨b2, o2, none⟩) tss.length c2] 42))) := ((Below.refl _ _).alloc (Nat.le_refl _) _).alloc (by simp) _
  have HS0 : Hid (((w.alloc (.cells #[.int .i64 x, .int .i64 y, .int .i64 z] 38)).alloc (.cells #[.slice (some ⟨b1, o1, none⟩) ss.length c1, .slice (some ⟨b2, o2, none⟩) tss.length c2] 42)).heap.size = w.heap.size + 2) := by simp [Hid]
  go_enter Try.func62, Try.ntmps62
  go_wp2_with fail
  generalize ((w.alloc (.cells #[.int .i64 x, .int .i64 y, .int .i64 z] 38)).alloc (.cells #[.slice (some ⟨b1, o1, none⟩) ss.length c1, .slice (some ⟨b2, o2, none⟩) tss.length c2] 42)) = wa at *
  refine (CF.out _).mono ?_
  rintro e w1 ⟨rfl, hb1⟩
  have HB1 : Hid (Below w.heap.size w (w1.alloc (.cells #[.int .i64 px, .int .i64 py, .int .i64 pz] 95))) := (HB0.out.trans (hb1.mono HB0.out.size)).alloc (HB0.out.trans (hb1.mono HB0.out.size)).size _
  have HX1 := Lib.hid ((HX0.out.below hb1).below (w' := w1.alloc (.cells #[.int .i64 px, .int .i64 py, .int .i64 pz] 95)) ((Below.refl _ _).alloc (Nat.le_refl _) _))
  have HY1 := Lib.hid ((HY0.out.below hb1).below (w' := w1.alloc (.cells #[.int .i64 px, .int .i64 py, .int .i64 pz] 95)) ((Below.refl _ _).alloc (Nat.le_refl _) _))
  have HZ1 : Hid (Box3 (w1.alloc (.cells #[.int .i64 px, .int .i64 py, .int .i64 pz] 95)) w1.heap.size px py pz) := Box3.new _ _ _ _ _
  have HS1 : Hid (w.heap.size + 2 ≤ w1.heap.size) := by rw [← HS0.out]; exact hb1.size
  clear hb1
  go_upto_region 2 with fail
  generalize (w1.alloc (.cells #[.int .i64 px, .int .i64 py, .int .i64 pz] 95)) = w2 at *
  have HW2 : Hid (Below W0.heap.size W0 w2) := HW.out.trans (HB1.out.mono HW.out.size)
  obtain ⟨s0, s1, s2⟩ := E1.out _ HW2.out
  have g0 := HX1.out.c0
  have g1 := HX1.out.c1
  have g2 := HX1.out.c2
  have g3 := HX1.out.lt
  have l0 := HY1.out.c0
  have l1 := HY1.out.c1
  have l2 := HY1.out.lt
  have i0 : (0 : Int) ≤ (i : Int) := by omega
  have i1 : (0 : Int) ≤ (secN x y i : Int) := by omega
  have i2 : (secN x y i : Int) < (ss.length : Int) := by omega
  have i3 : (0 : Int) ≤ (i : Int) % (x * y) := by omega
  have i4 : (i : Int) % (x * y) < x * y := by omega
  generalize secN x y i = q at *
  refine wp_region_grow (by kernel_rfl) (by kernel_rfl) ?_
  repeat (go_big_quiet_step ((go_at_call 54; exact grow_of (CL.out _))))
  refine wpQuiet_nil ?_
  intro _ hw'
  obtain ⟨u, hw''⟩ := hw'
  subst hw''
  have hb3 := wOf_below w2 u
  generalize wOf w2 u = w3 at hb3 ⊢
  have HB3 : Hid (Below w.heap.size w w3) := HB1.out.trans (hb3.mono HB1.out.size)
  have HX3 := Lib.hid (HX1.out.below hb3)
  have HY3 := Lib.hid (HY1.out.below hb3)
  have HZ3 := Lib.hid (HZ1.out.below hb3)
  have HR3 := Lib.hid (HR.out.below HB3.out)
  have HG3 : Hid (w.grownBy w3 (some g)) := grow_below HB3.out (some g)
  have hs3 := hb3.size
  clear hb3 g0 g1 g2 g3 l0 l1 l2 s0 s1 s2 i0 i1 i2 i3 i4 hsec hslt hxy
  have HW3 : Hid (Below W0.heap.size W0 w3) := HW.out.trans (HB3.out.mono HW.out.size)
  obtain ⟨_, _, s2⟩ := E1.out _ HW3.out
  have l1 := HY3.out.c1
  have gz : g < w.heap.size := hgB.out.2
  have k1 : (0 : Int) ≤ (k : Int) := by omega
  have k2 : (k : Int) < (tss.length : Int) := by omega
  go_wp2_with fail
  go_loopw [31] (fun t wr => ∃ j : Nat, j ≤ ys.length / 3 ∧ t = .int .i64 j ∧ RowB wr B (.slice (some ⟨g, 0, none⟩) N c) (HT j) ∧ w3.grownBy wr (some g)) (fun t _ => ys.length / 3 - (intOf t).toNat)
  case atStart => exact ⟨0, Nat.zero_le _, rfl, HR3.out, World.grownBy.refl _ _⟩
  case round =>
    obtain ⟨j, hj, rfl, hrb, hgb⟩ := hrel
    have HRB := Lib.hid hrb
    have HGB := Lib.hid hgb
    have hsw := hgb.size
    clear hrb hgb
    have HWr : Hid (Below W0.heap.size W0 wr) := HW3.out.grown HGB.out HW3.out.size (fun m hm => by simp at hm; have := hgB.out.1; omega)
    have hne1 : (some g : Option Nat) ≠ some w.heap.size := by simp; omega
    have hne2 : (some g : Option Nat) ≠ some (w.heap.size + 1) := by simp; omega
    have hne3 : (some g : Option Nat) ≠ some w1.heap.size := by have := HS1.out; simp; omega
    have HXr := Lib.hid (HX3.out.grownB HGB.out hne1)
    have HYr := Lib.hid (HY3.out.grown HGB.out hne2)
    have HZr := Lib.hid (HZ3.out.grownB HGB.out hne3)
    clear hne1 hne2 hne3
    by_cases hlt : j < ys.length / 3
    · have q0 := E3.out wr HWr.out (j * 3) (by omega)
      have q1 := E3.out wr HWr.out (j * 3 + 1) (by omega)
      have q2 := E3.out wr HWr.out (j * 3 + 2) (by omega)
      rw [← Nat.add_assoc] at q1 q2
      obtain ⟨f0, f1, f2, f3, f4, f5⟩ := HO.out j hlt
      have hk := HK'.out j
      have hm1 := HM1.out j
      have hm2 := HM2.out j
      generalize ys.getD (j * 3) 0 = t at *
      generalize ys.getD (j * 3 + 1) 0 = m at *
      generalize ys.getD (j * 3 + 2) 0 = r at *
      have b1 : (0 : Int) ≤ (j : Int) := by omega
      have b2 : (j : Int) < ((ys.length / 3 : Nat) : Int) := by omega
      have y0 := HXr.out.c0
      have y1 := HXr.out.c1
      have y2 := HXr.out.c2
      have y3 := HXr.out.lt
      have z0 := HZr.out.c0
      have z1 := HZr.out.c1
      have z2 := HZr.out.c2
      have z3 := HZr.out.lt
      have w1' : IntKind.i64.wrap (px + t) = px + t := IntWalk.i64_in _ (by omega)
      have w2' : IntKind.i64.wrap (py + m) = py + m := IntWalk.i64_in _ (by omega)
      have w3' : IntKind.i64.wrap (pz - r) = pz - r := IntWalk.i64_in _ (by omega)
      have hba : Below wr.heap.size wr (wr.alloc (.cells #[.int .i64 t, .int .i64 m, .int .i64 r] 64)) := (Below.refl _ _).alloc (Nat.le_refl _) _
      have HBa := Lib.hid hba
      clear hba
      have HKj := Lib.hid hk
      have HMa := Lib.hid hm1
      have HMb := Lib.hid hm2
      clear hk hm1 hm2
      go_wp2_with fail
      refine (CB.out _ _ _ _).mono ?_
      rintro e w4 ⟨rfl, hb4⟩
      have HB4 : Hid (Below wr.heap.size wr w4) := HBa.out.trans (hb4.mono HBa.out.size)
      clear hb4
      have HR4 := Lib.hid (HRB.out.below HB4.out)
      have HG4 : Hid (w3.grownBy w4 (some g)) := HGB.out.trans (grow_below HB4.out (some g))
      rcases at_case (a := px + t) (b := py + m) (c := pz - r) HG.out with ⟨hin, hb, hv⟩ | ⟨hv, hb⟩
      · obtain ⟨a1, a2⟩ := at_lt hin
        have hav : atV x y z (px + t) (py + m) (pz - r) = ((pz - r) * y + (py + m)) * x + (px + t) := by unfold atV; rw [if_pos hin]
        rw [hv, hb, hav]
        rw [hav] at HKj
        obtain ⟨mm, hmm⟩ := Int.eq_ofNat_of_zero_le a1
        rw [hmm] at HKj ⊢
        have hmN : mm < N := by have := HlN.out; omega
        have HS := Lib.hid (HMb.out mm HKj.out)
        clear hin hb hv hav a1 a2 hmm
        have HLj : Hid ((HT j).length = N) := HLn.out j
        have p1 : w4.cell? ⟨g, mm, none⟩ = some (.bool ((HT j).getD mm false)) := by
          have := HR4.out
          rw [← HLj.out] at this
          exact this.cell mm (by rw [HLj.out]; exact hmN)
        have p2 : w4.frozen? ⟨g, mm, none⟩ = false := by
          have := HR4.out
          rw [← HLj.out] at this
          exact this.frozen mm
        have N1 := Lib.hid (RowB.set_ HLj.out.symm HR4.out mm true)
        rw [HS.out] at N1
        have e1 : (0 : Int) ≤ (mm : Int) := by omega
        have e2 : (mm : Int) < (N : Int) := by omega
        generalize (HT j).getD mm false = old at *
        go_wp2_with fail
        go_roundw
        case rel => exact ⟨j + 1, by omega, by go_num, N1.out.1, HG4.out.trans N1.out.2⟩
        case measure => simp [intOf]; omega
      · rw [hb]
        rw [hv] at HKj
        have HS := Lib.hid (HMa.out HKj.out)
        clear hb hv
        go_wp2_with fail
        go_roundw
        case rel => exact ⟨j + 1, by omega, by go_num, by rw [HS.out]; exact HR4.out, HG4.out⟩
        case measure => simp [intOf]; omega
    · obtain rfl : j = ys.length / 3 := by omega
      go_wp2
      refine bodyPost_end (v := .tuple #[]) (by simp [results, Try.results62, go_sem]) rfl ?_
      exact ⟨rfl, HRB.out, HG3.out.trans HGB.out⟩
end Go.Proofs.Ythdbcncdihcggaa
