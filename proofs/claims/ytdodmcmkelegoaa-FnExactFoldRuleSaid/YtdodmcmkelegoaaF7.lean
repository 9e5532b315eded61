/-
  Contracts: the value of a part for given fields, in the model.
-/
import Derived.Test.YtdodmcmkelegoaaF4
import Derived.Deep.RegionHeld3
import Derived.Test.YtdodmcmkelegoaaE10
import Derived.Test.YtdodmcmkelegoaaOpen
namespace Go.Proofs.Ytdodmcmkelegoaa
open Go.RowKit
set_option linter.unusedVariables false
set_option linter.unusedSimpArgs false

theorem dn_box {a b : Int} (h0 : -1000000000 ≤ a) (h1 : a ≤ 1000000000) : -1000000001 ≤ dn a b ∧ dn a b ≤ 1000000000 := by
  obtain ⟨q0, q1⟩ := tdiv_box (a := a) (b := b) (M := 1000000000) (by omega)
  unfold dn
  split <;> omega
/-- A number and whether it is told. -/
def GivesO (w : World) (o : Option Int) (e : Ending) (w' : World) : Prop := (∃ x, e = .returned (.tuple #[.int .i64 x, .bool o.isSome]) ∧ ∀ y, o = some y → x = y) ∧ Below w.heap.size w w'
theorem GivesO.no {w w' : World} {e : Ending} (h : GivesO w none e w') : (∃ x, e = .returned (.tuple #[.int .i64 x, .bool false])) ∧ Below w.heap.size w w' := ⟨by obtain ⟨x, hx, _⟩ := h.1; exact ⟨x, hx⟩, h.2⟩
theorem GivesO.yes {w w' : World} {e : Ending} {a : Int} (h : GivesO w (some a) e w') : e = .returned (.tuple #[.int .i64 a, .bool true]) ∧ Below w.heap.size w w' := ⟨by obtain ⟨x, hx, hy⟩ := h.1; rw [hx, hy a rfl]; rfl, h.2⟩
theorem GivesO.any {w w' : World} {o : Option Int} {e : Ending} (h : GivesO w o e w') : (∃ x y, e = .returned (.tuple #[.int .i64 x, .bool y])) ∧ Below w.heap.size w w' := ⟨by obtain ⟨x, hx, _⟩ := h.1; exact ⟨x, _, hx⟩, h.2⟩
/-- A rule, what its parts take, and fields, in memory. -/
structure RuAt (ks vs : Nat → Int) (fs : List Int) (n g b off fb fo : Nat) (w : World) : Prop where
  l0 : ∀ j, j < n → w.cell? ⟨b, off + j * 2, none⟩ = some (.int .i64 (ks j))
  l1 : ∀ j, j < n → w.cell? ⟨b, off + j * 2 + 1, none⟩ = some (.int .i64 (vs j))
  tr : ∀ i, i < n → ∃ A c' m, m = (kidI ks i).length ∧ w.cell? ⟨g, i, none⟩ = some (.slice A m c') ∧ ∀ j, j < m → ∃ g', A = some ⟨g', 0, none⟩ ∧ w.cell? ⟨g', j, none⟩ = some (.int .i64 ((kidI ks i).getD j 0))
  fl : ∀ j, j < 5 → w.cell? ⟨fb, fo + j, none⟩ = some (.int .i64 (fs.getD j 0))
theorem RuAt.below {ks vs : Nat → Int} {fs : List Int} {n g b off fb fo : Nat} {w u : World} (h : RuAt ks vs fs n g b off fb fo w) (hu : Below w.heap.size w u) : RuAt ks vs fs n g b off fb fo u :=
  ⟨fun j hj => cell_at hu (h.l0 j hj), fun j hj => cell_at hu (h.l1 j hj), fun i hi => by
    obtain ⟨A, c', m, e, q, hq⟩ := h.tr i hi
    refine ⟨A, c', m, e, cell_at hu q, fun j hj => ?_⟩
    obtain ⟨g', e', q'⟩ := hq j hj
    exact ⟨g', e', cell_at hu q'⟩, fun j hj => cell_at hu (h.fl j hj)⟩

set_option maxHeartbeats 400000 in
theorem c_l1Abs (n : Int) (w : World) (h0 : -1000000000000000000 ≤ n) (h1 : n ≤ 1000000000000000000) : Calls Try.prog 149 #[.int .i64 n] w fun e w' => e = .returned (.int .i64 (max n (-n))) ∧ w = w' := by
  go_enter Try.func149, Try.ntmps149
  go_wp2_with fail
  refine (c_l1Most _ _ _).mono ?_
  rintro e w1 ⟨rfl, rfl⟩
  go_wp2
  go_ret
  exact ⟨rfl, rfl⟩
def sgn (n : Int) : Int := if 0 < n then 1 else if n < 0 then -1 else 0
set_option maxHeartbeats 400000 in
theorem c_l1Sign (n : Int) (w : World) : Calls Try.prog 148 #[.int .i64 n] w fun e w' => e = .returned (.int .i64 (sgn n)) ∧ w = w' := by
  by_cases h1 : 0 < n
  · have e : sgn n = 1 := if_pos h1
    rw [e]
    go_enter Try.func148, Try.ntmps148
    go_wp2
    go_ret
    exact ⟨rfl, rfl⟩
  · by_cases h2 : n < 0
    · have e : sgn n = -1 := by unfold sgn; rw [if_neg h1, if_pos h2]
      rw [e]
      go_enter Try.func148, Try.ntmps148
      go_wp2
      go_ret
      exact ⟨rfl, rfl⟩
    · have e : sgn n = 0 := by unfold sgn; rw [if_neg h1, if_neg h2]
      rw [e]
      go_enter Try.func148, Try.ntmps148
      go_wp2
      go_ret
      exact ⟨rfl, rfl⟩

set_option maxHeartbeats 4000000 in
set_option maxRecDepth 100000 in
theorem c_ruValue (ks vs : Nat → Int) (fs : List Int) (n g gc b off c fb fo fc K : Nat) (hn : n ≤ 39) (hk : ∀ j, j < n → 0 ≤ ks j ∧ ks j ≤ 8)
    (hV : ∀ j, j < n → (ks j = 0 → 0 ≤ vs j ∧ vs j ≤ 1000000) ∧ (ks j = 1 → 0 ≤ vs j ∧ vs j ≤ 4)) (hF : ∀ j : Nat, 0 ≤ fs.getD j 0 ∧ fs.getD j 0 ≤ 10000000) : ∀ (t : Tr) (e : Nat) (w : World), t.size ≤ K → At ks t e → e < n →
    RuAt ks vs fs n g b off fb fo w →
    Calls Try.prog 111 #[.slice (some ⟨b, off, none⟩) n c, .slice (some ⟨g, 0, none⟩) n gc, .int .i64 (e : Int), .slice (some ⟨fb, fo, none⟩) 5 fc] w (GivesO w (ev ks vs fs t e)) := by
  induction K with
  | zero =>
    intro t e w hK
    have := t.size_pos
    omega
  | succ K IHK =>
    intro t e w hK hA he hR
    have hse := hA.size_le
    obtain ⟨m, kd, of, S, hm4, hsm, _, hsz, hkid, hev⟩ := ev_split (vs := vs) (lo := e + 1 - t.size) hA (by omega)
    have hki : kidI ks e = (List.range m).map (fun j => (((e + 1 - t.size) + of (j + 1) - 1 : Nat) : Int)) := by unfold kidI; rw [hkid, List.map_map]; rfl
    obtain ⟨A, c', m', hm', q2, hc⟩ := hR.tr e he
    have hmm : m' = m := by rw [hm', hki]; simp
    subst hmm
    have q0 := hR.l0 e he
    have q1 := hR.l1 e he
    have HR := Lib.hid hR
    obtain ⟨R, hRR⟩ : ∃ R : Nat → Option Int, ∀ j, R j = kidV ks vs fs (e + 1 - t.size) kd of j := ⟨_, fun _ => rfl⟩
    have HE : Hid (∀ j, j < m' → ∃ x : Nat, (∃ g', A = some ⟨g', 0, none⟩ ∧ w.cell? ⟨g', j, none⟩ = some (.int .i64 (x : Int))) ∧ (∀ u, Below w.heap.size w u → Calls Try.prog 111 #[.slice (some ⟨b, off, none⟩) n c, .slice (some ⟨g, 0, none⟩) n gc, .int .i64 (x : Int), .slice (some ⟨fb, fo, none⟩) 5 fc] u (GivesO u (R j))) ∧ In9 (R j)) := fun j hj => by
      have h1 := hsm j hj
      have h2 := S.next j hj
      have h3 := S.le (j := j + 1) (by omega)
      have h4 := (kd j).size_pos
      rw [hRR]
      refine ⟨(e + 1 - t.size) + of (j + 1) - 1, ?_, fun u hu => IHK (kd j) _ u (by omega) (S.at_ j hj) (by omega) (hR.below hu), ev_in9w (kd j) _ (S.at_ j hj) (fun i h1 h2 => (hV i (by omega)).1) hF⟩
      obtain ⟨g', e', hg⟩ := hc j hj
      refine ⟨g', e', ?_⟩
      rw [hg, hki]
      simp [List.getD_eq_getElem?_getD, hj]
    have hnd : ndK (ks e) = m' := by have := S.nd; rw [show (e + 1 - t.size) + t.size - 1 = e by omega] at this; exact this
    have HN := Lib.hid hnd
    have HV1 := Lib.hid (hV e he).2
    obtain ⟨k0, k8⟩ := hk e he
    have er : ev ks vs fs t e = topV (ks e) (vs e) fs R := by
      have := hev fs
      rw [this]
      congr 1
      exact (funext hRR).symm
    rw [er]
    have HFL := Lib.hid hF
    have i1 : (0 : Int) ≤ (e : Int) := by omega
    have i2 : (e : Int) < (n : Int) := by omega
    have hgl := lt_of_cell q2
    have hbl := lt_of_cell q0
    clear hK hA S hsm hsz hkid hki hm' hc IHK hse hRR hnd hV hk hR hev er hF
    generalize ks e = kk at *
    generalize vs e = vv at *
    go_enter Try.func111, Try.ntmps111
    go_wp2_with fail
    go_region
    have HB0 : Hid (Below w.heap.size w (w.alloc (.cells #[.int .i64 kk, .int .i64 vv] 87)).drew) := ((Below.refl _ _).alloc (Nat.le_refl _) _).drew
    have HP0 : Hid ((w.alloc (.cells #[.int .i64 kk, .int .i64 vv] 87)).drew.cell? ⟨w.heap.size, 0, none⟩ = some (.int .i64 kk) ∧ (w.alloc (.cells #[.int .i64 kk, .int .i64 vv] 87)).drew.cell? ⟨w.heap.size, 1, none⟩ = some (.int .i64 vv)) := ⟨by simp, by simp⟩
    clear q0 q1 q2 hgl hbl
    generalize (w.alloc (.cells #[.int .i64 kk, .int .i64 vv] 87)).drew = W at *
    obtain ⟨d0, d1⟩ := HP0.out
    rcases (show kk = 0 ∨ kk = 1 ∨ kk = 2 ∨ kk = 3 ∨ kk = 4 ∨ kk = 5 ∨ kk = 6 ∨ kk = 7 ∨ kk = 8 by omega) with rfl | rfl | rfl | rfl | rfl | rfl | rfl | rfl | rfl
    · have E : Hid (topV 0 vv fs R = some vv) := topV_zero _ _ _
      clear HE HV1 HN HR HFL
      go_wp2
      go_ret2
      show GivesO w (topV 0 vv fs R) _ _
      rw [E.out]
      exact ⟨⟨vv, rfl, fun y hy => by cases hy; rfl⟩, HB0.out⟩
    · obtain ⟨v0, v4⟩ := HV1.out rfl
      obtain ⟨kv, rfl⟩ := Int.eq_ofNat_of_zero_le v0
      have f0 := cell_at HB0.out (HR.out.fl kv (by omega))
      have E : Hid (topV 1 (kv : Int) fs R = some (fs.getD kv 0)) := topV_one _ _ _
      generalize hfz : fs.getD kv 0 = fz at *
      have v5 : (kv : Int) < 5 := by omega
      clear HE HV1 HN HR HFL
      go_wp2
      go_ret2
      show GivesO w (topV 1 (kv : Int) fs R) _ _
      rw [E.out]
      exact ⟨⟨fz, rfl, fun y hy => by cases hy; rfl⟩, HB0.out⟩
    · obtain rfl : m' = 2 := HN.out.symm
      obtain ⟨x0, ⟨g0, e0, z0⟩, C0, I0⟩ := HE.out 0 (by omega)
      obtain ⟨x1, ⟨g1, e1, z1⟩, C1, I1⟩ := HE.out 1 (by omega)
      subst e0
      obtain rfl : g0 = g1 := by simpa using e1
      clear e1
      have HC0 := Lib.hid C0
      have HC1 := Lib.hid C1
      have KE : Hid (∀ u, Below W.heap.size W u → (u.cell? ⟨w.heap.size, 0, none⟩ = some (.int .i64 2) ∧ u.cell? ⟨g0, 0, none⟩ = some (.int .i64 (x0 : Int)) ∧ u.cell? ⟨g0, 1, none⟩ = some (.int .i64 (x1 : Int)))) := fun u hu => ⟨cell_at hu d0, cell_at (HB0.out.trans (hu.mono HB0.out.size)) z0, cell_at (HB0.out.trans (hu.mono HB0.out.size)) z1⟩
      clear C0 C1 HE HV1 HN HR HFL HP0 d0 d1 k0 k8 z0 z1
      obtain ⟨a0, a1, a2⟩ := KE.out W (Below.refl _ _)
      cases h0 : R 0 with
      | none =>
        rw [h0] at HC0
        have E : Hid (topV 2 vv fs R = none) := by rw [topV_bin (show (2 : Int) ≤ 2 ∧ (2 : Int) ≤ 5 by omega), h0]; rfl
        clear h0 I0 I1
        go_wp2_with fail
        refine (HC0.out _ HB0.out).mono ?_
        intro e w2 hgo
        obtain ⟨⟨y0, rfl⟩, hb⟩ := hgo.no
        clear hgo
        have HU2 : Hid (Below W.heap.size W w2) := hb
        have HB2 : Hid (Below w.heap.size w w2) := HB0.out.trans (HU2.out.mono HB0.out.size)
        clear hb
        obtain ⟨a2_0, a2_1, a2_2⟩ := KE.out _ HU2.out
        go_wp2_with fail
        refine (HC1.out _ HB2.out).mono ?_
        intro e w3 hgo
        obtain ⟨⟨y1, y1b, rfl⟩, hb⟩ := hgo.any
        clear hgo
        have HU3 : Hid (Below W.heap.size W w3) := HU2.out.trans (hb.mono HU2.out.size)
        have HB3 : Hid (Below w.heap.size w w3) := HB0.out.trans (HU3.out.mono HB0.out.size)
        clear hb
        obtain ⟨a3_0, a3_1, a3_2⟩ := KE.out _ HU3.out
        go_wp2
        go_ret2
        show GivesO w (topV 2 vv fs R) _ _
        rw [E.out]
        exact ⟨⟨0, rfl, fun y hy => by cases hy⟩, HB3.out⟩
      | some a =>
        rw [h0] at HC0 I0
        obtain ⟨p0, p1⟩ := I0 a rfl
        cases h1 : R 1 with
        | none =>
          rw [h1] at HC1
          have E : Hid (topV 2 vv fs R = none) := by rw [topV_bin (show (2 : Int) ≤ 2 ∧ (2 : Int) ≤ 5 by omega), h0, h1]; rfl
          clear h0 h1 I0 I1
          go_wp2_with fail
          refine (HC0.out _ HB0.out).mono ?_
          intro e w2 hgo
          obtain ⟨rfl, hb⟩ := hgo.yes
          clear hgo
          have HU2 : Hid (Below W.heap.size W w2) := hb
          have HB2 : Hid (Below w.heap.size w w2) := HB0.out.trans (HU2.out.mono HB0.out.size)
          clear hb
          obtain ⟨a2_0, a2_1, a2_2⟩ := KE.out _ HU2.out
          go_wp2_with fail
          refine (HC1.out _ HB2.out).mono ?_
          intro e w3 hgo
          obtain ⟨⟨y1, rfl⟩, hb⟩ := hgo.no
          clear hgo
          have HU3 : Hid (Below W.heap.size W w3) := HU2.out.trans (hb.mono HU2.out.size)
          have HB3 : Hid (Below w.heap.size w w3) := HB0.out.trans (HU3.out.mono HB0.out.size)
          clear hb
          obtain ⟨a3_0, a3_1, a3_2⟩ := KE.out _ HU3.out
          go_wp2
          go_ret2
          show GivesO w (topV 2 vv fs R) _ _
          rw [E.out]
          exact ⟨⟨0, rfl, fun y hy => by cases hy⟩, HB3.out⟩
        | some b' =>
          rw [h1] at HC1 I1
          obtain ⟨p2, p3⟩ := I1 b' rfl
          have er : topV 2 vv fs R = (opV 2 a b').bind chk := by rw [topV_bin (show (2 : Int) ≤ 2 ∧ (2 : Int) ≤ 5 by omega), h0, h1]; rfl
          have eo : opV 2 a b' = some (a + b') := rfl
          rw [eo, Option.bind_some] at er
          obtain ⟨r, hm⟩ : ∃ r, a + b' = r := ⟨_, rfl⟩
          rw [hm] at er
          have r0 : -2000000000 ≤ r := by omega
          have r1 : r ≤ 2000000000 := by omega
          have HM := Lib.hid hm
          clear eo h0 h1 I0 I1
          have HA := Lib.hid fun u => c_l1Abs r u (by omega) (by omega)
          by_cases hn : -1000000000 ≤ r ∧ r ≤ 1000000000
          · have hq : max r (-r) ≤ 1000000000 := by omega
            rw [chk_yes hn] at er
            have E := Lib.hid er
            generalize max r (-r) = ra at *
            clear hn er
            go_wp2_with fail
            refine (HC0.out _ HB0.out).mono ?_
            intro e w2 hgo
            obtain ⟨rfl, hb⟩ := hgo.yes
            clear hgo
            have HU2 : Hid (Below W.heap.size W w2) := hb
            have HB2 : Hid (Below w.heap.size w w2) := HB0.out.trans (HU2.out.mono HB0.out.size)
            clear hb
            obtain ⟨a2_0, a2_1, a2_2⟩ := KE.out _ HU2.out
            go_wp2_with fail
            refine (HC1.out _ HB2.out).mono ?_
            intro e w3 hgo
            obtain ⟨rfl, hb⟩ := hgo.yes
            clear hgo
            have HU3 : Hid (Below W.heap.size W w3) := HU2.out.trans (hb.mono HU2.out.size)
            have HB3 : Hid (Below w.heap.size w w3) := HB0.out.trans (HU3.out.mono HB0.out.size)
            clear hb
            obtain ⟨a3_0, a3_1, a3_2⟩ := KE.out _ HU3.out
            have hm2 := hm
            go_wp2_with (simp only [hm])
            refine (HA.out _).mono ?_
            rintro e w5 ⟨rfl, rfl⟩
            go_wp2
            go_ret2
            show GivesO w (topV 2 vv fs R) _ _
            rw [E.out]
            exact ⟨⟨r, rfl, fun y hy => by cases hy; rfl⟩, HB3.out⟩
          · have hq : 1000000000 < max r (-r) := by omega
            have hqf : decide (max r (-r) ≤ 1000000000) = false := decide_eq_false (by omega)
            rw [chk_no hn] at er
            have E := Lib.hid er
            generalize max r (-r) = ra at *
            clear hn er
            go_wp2_with fail
            refine (HC0.out _ HB0.out).mono ?_
            intro e w2 hgo
            obtain ⟨rfl, hb⟩ := hgo.yes
            clear hgo
            have HU2 : Hid (Below W.heap.size W w2) := hb
            have HB2 : Hid (Below w.heap.size w w2) := HB0.out.trans (HU2.out.mono HB0.out.size)
            clear hb
            obtain ⟨a2_0, a2_1, a2_2⟩ := KE.out _ HU2.out
            go_wp2_with fail
            refine (HC1.out _ HB2.out).mono ?_
            intro e w3 hgo
            obtain ⟨rfl, hb⟩ := hgo.yes
            clear hgo
            have HU3 : Hid (Below W.heap.size W w3) := HU2.out.trans (hb.mono HU2.out.size)
            have HB3 : Hid (Below w.heap.size w w3) := HB0.out.trans (HU3.out.mono HB0.out.size)
            clear hb
            obtain ⟨a3_0, a3_1, a3_2⟩ := KE.out _ HU3.out
            have hm2 := hm
            go_wp2_with (simp only [hm])
            refine (HA.out _).mono ?_
            rintro e w5 ⟨rfl, rfl⟩
            go_wp2
            go_ret2
            show GivesO w (topV 2 vv fs R) _ _
            rw [E.out]
            refine ⟨⟨r, ?_, fun y hy => by cases hy⟩, HB3.out⟩
            show _ = Ending.returned (.tuple #[.int .i64 r, .bool false])
            rw [← hqf]
            rfl
    · obtain rfl : m' = 2 := HN.out.symm
      obtain ⟨x0, ⟨g0, e0, z0⟩, C0, I0⟩ := HE.out 0 (by omega)
      obtain ⟨x1, ⟨g1, e1, z1⟩, C1, I1⟩ := HE.out 1 (by omega)
      subst e0
      obtain rfl : g0 = g1 := by simpa using e1
      clear e1
      have HC0 := Lib.hid C0
      have HC1 := Lib.hid C1
      have KE : Hid (∀ u, Below W.heap.size W u → (u.cell? ⟨w.heap.size, 0, none⟩ = some (.int .i64 3) ∧ u.cell? ⟨g0, 0, none⟩ = some (.int .i64 (x0 : Int)) ∧ u.cell? ⟨g0, 1, none⟩ = some (.int .i64 (x1 : Int)))) := fun u hu => ⟨cell_at hu d0, cell_at (HB0.out.trans (hu.mono HB0.out.size)) z0, cell_at (HB0.out.trans (hu.mono HB0.out.size)) z1⟩
      clear C0 C1 HE HV1 HN HR HFL HP0 d0 d1 k0 k8 z0 z1
      obtain ⟨a0, a1, a2⟩ := KE.out W (Below.refl _ _)
      cases h0 : R 0 with
      | none =>
        rw [h0] at HC0
        have E : Hid (topV 3 vv fs R = none) := by rw [topV_bin (show (2 : Int) ≤ 3 ∧ (3 : Int) ≤ 5 by omega), h0]; rfl
        clear h0 I0 I1
        go_wp2_with fail
        refine (HC0.out _ HB0.out).mono ?_
        intro e w2 hgo
        obtain ⟨⟨y0, rfl⟩, hb⟩ := hgo.no
        clear hgo
        have HU2 : Hid (Below W.heap.size W w2) := hb
        have HB2 : Hid (Below w.heap.size w w2) := HB0.out.trans (HU2.out.mono HB0.out.size)
        clear hb
        obtain ⟨a2_0, a2_1, a2_2⟩ := KE.out _ HU2.out
        go_wp2_with fail
        refine (HC1.out _ HB2.out).mono ?_
        intro e w3 hgo
        obtain ⟨⟨y1, y1b, rfl⟩, hb⟩ := hgo.any
        clear hgo
        have HU3 : Hid (Below W.heap.size W w3) := HU2.out.trans (hb.mono HU2.out.size)
        have HB3 : Hid (Below w.heap.size w w3) := HB0.out.trans (HU3.out.mono HB0.out.size)
        clear hb
        obtain ⟨a3_0, a3_1, a3_2⟩ := KE.out _ HU3.out
        go_wp2
        go_ret2
        show GivesO w (topV 3 vv fs R) _ _
        rw [E.out]
        exact ⟨⟨0, rfl, fun y hy => by cases hy⟩, HB3.out⟩
      | some a =>
        rw [h0] at HC0 I0
        obtain ⟨p0, p1⟩ := I0 a rfl
        cases h1 : R 1 with
        | none =>
          rw [h1] at HC1
          have E : Hid (topV 3 vv fs R = none) := by rw [topV_bin (show (2 : Int) ≤ 3 ∧ (3 : Int) ≤ 5 by omega), h0, h1]; rfl
          clear h0 h1 I0 I1
          go_wp2_with fail
          refine (HC0.out _ HB0.out).mono ?_
          intro e w2 hgo
          obtain ⟨rfl, hb⟩ := hgo.yes
          clear hgo
          have HU2 : Hid (Below W.heap.size W w2) := hb
          have HB2 : Hid (Below w.heap.size w w2) := HB0.out.trans (HU2.out.mono HB0.out.size)
          clear hb
          obtain ⟨a2_0, a2_1, a2_2⟩ := KE.out _ HU2.out
          go_wp2_with fail
          refine (HC1.out _ HB2.out).mono ?_
          intro e w3 hgo
          obtain ⟨⟨y1, rfl⟩, hb⟩ := hgo.no
          clear hgo
          have HU3 : Hid (Below W.heap.size W w3) := HU2.out.trans (hb.mono HU2.out.size)
          have HB3 : Hid (Below w.heap.size w w3) := HB0.out.trans (HU3.out.mono HB0.out.size)
          clear hb
          obtain ⟨a3_0, a3_1, a3_2⟩ := KE.out _ HU3.out
          go_wp2
          go_ret2
          show GivesO w (topV 3 vv fs R) _ _
          rw [E.out]
          exact ⟨⟨0, rfl, fun y hy => by cases hy⟩, HB3.out⟩
        | some b' =>
          rw [h1] at HC1 I1
          obtain ⟨p2, p3⟩ := I1 b' rfl
          have er : topV 3 vv fs R = (opV 3 a b').bind chk := by rw [topV_bin (show (2 : Int) ≤ 3 ∧ (3 : Int) ≤ 5 by omega), h0, h1]; rfl
          have eo : opV 3 a b' = some (a - b') := rfl
          rw [eo, Option.bind_some] at er
          obtain ⟨r, hm⟩ : ∃ r, a - b' = r := ⟨_, rfl⟩
          rw [hm] at er
          have r0 : -2000000000 ≤ r := by omega
          have r1 : r ≤ 2000000000 := by omega
          have HM := Lib.hid hm
          clear eo h0 h1 I0 I1
          have HA := Lib.hid fun u => c_l1Abs r u (by omega) (by omega)
          by_cases hn : -1000000000 ≤ r ∧ r ≤ 1000000000
          · have hq : max r (-r) ≤ 1000000000 := by omega
            rw [chk_yes hn] at er
            have E := Lib.hid er
            generalize max r (-r) = ra at *
            clear hn er
            go_wp2_with fail
            refine (HC0.out _ HB0.out).mono ?_
            intro e w2 hgo
            obtain ⟨rfl, hb⟩ := hgo.yes
            clear hgo
            have HU2 : Hid (Below W.heap.size W w2) := hb
            have HB2 : Hid (Below w.heap.size w w2) := HB0.out.trans (HU2.out.mono HB0.out.size)
            clear hb
            obtain ⟨a2_0, a2_1, a2_2⟩ := KE.out _ HU2.out
            go_wp2_with fail
            refine (HC1.out _ HB2.out).mono ?_
            intro e w3 hgo
            obtain ⟨rfl, hb⟩ := hgo.yes
            clear hgo
            have HU3 : Hid (Below W.heap.size W w3) := HU2.out.trans (hb.mono HU2.out.size)
            have HB3 : Hid (Below w.heap.size w w3) := HB0.out.trans (HU3.out.mono HB0.out.size)
            clear hb
            obtain ⟨a3_0, a3_1, a3_2⟩ := KE.out _ HU3.out
            have hm2 := hm
            go_wp2_with (simp only [hm])
            refine (HA.out _).mono ?_
            rintro e w5 ⟨rfl, rfl⟩
            go_wp2
            go_ret2
            show GivesO w (topV 3 vv fs R) _ _
            rw [E.out]
            exact ⟨⟨r, rfl, fun y hy => by cases hy; rfl⟩, HB3.out⟩
          · have hq : 1000000000 < max r (-r) := by omega
            have hqf : decide (max r (-r) ≤ 1000000000) = false := decide_eq_false (by omega)
            rw [chk_no hn] at er
            have E := Lib.hid er
            generalize max r (-r) = ra at *
            clear hn er
            go_wp2_with fail
            refine (HC0.out _ HB0.out).mono ?_
            intro e w2 hgo
            obtain ⟨rfl, hb⟩ := hgo.yes
            clear hgo
            have HU2 : Hid (Below W.heap.size W w2) := hb
            have HB2 : Hid (Below w.heap.size w w2) := HB0.out.trans (HU2.out.mono HB0.out.size)
            clear hb
            obtain ⟨a2_0, a2_1, a2_2⟩ := KE.out _ HU2.out
            go_wp2_with fail
            refine (HC1.out _ HB2.out).mono ?_
            intro e w3 hgo
            obtain ⟨rfl, hb⟩ := hgo.yes
            clear hgo
            have HU3 : Hid (Below W.heap.size W w3) := HU2.out.trans (hb.mono HU2.out.size)
            have HB3 : Hid (Below w.heap.size w w3) := HB0.out.trans (HU3.out.mono HB0.out.size)
            clear hb
            obtain ⟨a3_0, a3_1, a3_2⟩ := KE.out _ HU3.out
            have hm2 := hm
            go_wp2_with (simp only [hm])
            refine (HA.out _).mono ?_
            rintro e w5 ⟨rfl, rfl⟩
            go_wp2
            go_ret2
            show GivesO w (topV 3 vv fs R) _ _
            rw [E.out]
            refine ⟨⟨r, ?_, fun y hy => by cases hy⟩, HB3.out⟩
            show _ = Ending.returned (.tuple #[.int .i64 r, .bool false])
            rw [← hqf]
            rfl
    · obtain rfl : m' = 2 := HN.out.symm
      obtain ⟨x0, ⟨g0, e0, z0⟩, C0, I0⟩ := HE.out 0 (by omega)
      obtain ⟨x1, ⟨g1, e1, z1⟩, C1, I1⟩ := HE.out 1 (by omega)
      subst e0
      obtain rfl : g0 = g1 := by simpa using e1
      clear e1
      have HC0 := Lib.hid C0
      have HC1 := Lib.hid C1
      have KE : Hid (∀ u, Below W.heap.size W u → (u.cell? ⟨w.heap.size, 0, none⟩ = some (.int .i64 4) ∧ u.cell? ⟨g0, 0, none⟩ = some (.int .i64 (x0 : Int)) ∧ u.cell? ⟨g0, 1, none⟩ = some (.int .i64 (x1 : Int)))) := fun u hu => ⟨cell_at hu d0, cell_at (HB0.out.trans (hu.mono HB0.out.size)) z0, cell_at (HB0.out.trans (hu.mono HB0.out.size)) z1⟩
      clear C0 C1 HE HV1 HN HR HFL HP0 d0 d1 k0 k8 z0 z1
      obtain ⟨a0, a1, a2⟩ := KE.out W (Below.refl _ _)
      cases h0 : R 0 with
      | none =>
        rw [h0] at HC0
        have E : Hid (topV 4 vv fs R = none) := by rw [topV_bin (show (2 : Int) ≤ 4 ∧ (4 : Int) ≤ 5 by omega), h0]; rfl
        clear h0 I0 I1
        go_wp2_with fail
        refine (HC0.out _ HB0.out).mono ?_
        intro e w2 hgo
        obtain ⟨⟨y0, rfl⟩, hb⟩ := hgo.no
        clear hgo
        have HU2 : Hid (Below W.heap.size W w2) := hb
        have HB2 : Hid (Below w.heap.size w w2) := HB0.out.trans (HU2.out.mono HB0.out.size)
        clear hb
        obtain ⟨a2_0, a2_1, a2_2⟩ := KE.out _ HU2.out
        go_wp2_with fail
        refine (HC1.out _ HB2.out).mono ?_
        intro e w3 hgo
        obtain ⟨⟨y1, y1b, rfl⟩, hb⟩ := hgo.any
        clear hgo
        have HU3 : Hid (Below W.heap.size W w3) := HU2.out.trans (hb.mono HU2.out.size)
        have HB3 : Hid (Below w.heap.size w w3) := HB0.out.trans (HU3.out.mono HB0.out.size)
        clear hb
        obtain ⟨a3_0, a3_1, a3_2⟩ := KE.out _ HU3.out
        go_wp2
        go_ret2
        show GivesO w (topV 4 vv fs R) _ _
        rw [E.out]
        exact ⟨⟨0, rfl, fun y hy => by cases hy⟩, HB3.out⟩
      | some a =>
        rw [h0] at HC0 I0
        obtain ⟨p0, p1⟩ := I0 a rfl
        cases h1 : R 1 with
        | none =>
          rw [h1] at HC1
          have E : Hid (topV 4 vv fs R = none) := by rw [topV_bin (show (2 : Int) ≤ 4 ∧ (4 : Int) ≤ 5 by omega), h0, h1]; rfl
          clear h0 h1 I0 I1
          go_wp2_with fail
          refine (HC0.out _ HB0.out).mono ?_
          intro e w2 hgo
          obtain ⟨rfl, hb⟩ := hgo.yes
          clear hgo
          have HU2 : Hid (Below W.heap.size W w2) := hb
          have HB2 : Hid (Below w.heap.size w w2) := HB0.out.trans (HU2.out.mono HB0.out.size)
          clear hb
          obtain ⟨a2_0, a2_1, a2_2⟩ := KE.out _ HU2.out
          go_wp2_with fail
          refine (HC1.out _ HB2.out).mono ?_
          intro e w3 hgo
          obtain ⟨⟨y1, rfl⟩, hb⟩ := hgo.no
          clear hgo
          have HU3 : Hid (Below W.heap.size W w3) := HU2.out.trans (hb.mono HU2.out.size)
          have HB3 : Hid (Below w.heap.size w w3) := HB0.out.trans (HU3.out.mono HB0.out.size)
          clear hb
          obtain ⟨a3_0, a3_1, a3_2⟩ := KE.out _ HU3.out
          go_wp2
          go_ret2
          show GivesO w (topV 4 vv fs R) _ _
          rw [E.out]
          exact ⟨⟨0, rfl, fun y hy => by cases hy⟩, HB3.out⟩
        | some b' =>
          rw [h1] at HC1 I1
          obtain ⟨p2, p3⟩ := I1 b' rfl
          have er : topV 4 vv fs R = (opV 4 a b').bind chk := by rw [topV_bin (show (2 : Int) ≤ 4 ∧ (4 : Int) ≤ 5 by omega), h0, h1]; rfl
          have eo : opV 4 a b' = some (a * b') := rfl
          rw [eo, Option.bind_some] at er
          obtain ⟨r0, r1⟩ := mul9 p0 p1 p2 p3
          generalize hm : a * b' = r at *
          have HM := Lib.hid hm
          clear eo h0 h1 I0 I1
          have HA := Lib.hid fun u => c_l1Abs r u (by omega) (by omega)
          by_cases hn : -1000000000 ≤ r ∧ r ≤ 1000000000
          · have hq : max r (-r) ≤ 1000000000 := by omega
            rw [chk_yes hn] at er
            have E := Lib.hid er
            generalize max r (-r) = ra at *
            clear hn er
            go_wp2_with fail
            refine (HC0.out _ HB0.out).mono ?_
            intro e w2 hgo
            obtain ⟨rfl, hb⟩ := hgo.yes
            clear hgo
            have HU2 : Hid (Below W.heap.size W w2) := hb
            have HB2 : Hid (Below w.heap.size w w2) := HB0.out.trans (HU2.out.mono HB0.out.size)
            clear hb
            obtain ⟨a2_0, a2_1, a2_2⟩ := KE.out _ HU2.out
            go_wp2_with fail
            refine (HC1.out _ HB2.out).mono ?_
            intro e w3 hgo
            obtain ⟨rfl, hb⟩ := hgo.yes
            clear hgo
            have HU3 : Hid (Below W.heap.size W w3) := HU2.out.trans (hb.mono HU2.out.size)
            have HB3 : Hid (Below w.heap.size w w3) := HB0.out.trans (HU3.out.mono HB0.out.size)
            clear hb
            obtain ⟨a3_0, a3_1, a3_2⟩ := KE.out _ HU3.out
            go_wp2_with (simp only [hm])
            refine (HA.out _).mono ?_
            rintro e w5 ⟨rfl, rfl⟩
            go_wp2
            go_ret2
            show GivesO w (topV 4 vv fs R) _ _
            rw [E.out]
            exact ⟨⟨r, rfl, fun y hy => by cases hy; rfl⟩, HB3.out⟩
          · have hq : 1000000000 < max r (-r) := by omega
            have hqf : decide (max r (-r) ≤ 1000000000) = false := decide_eq_false (by omega)
            rw [chk_no hn] at er
            have E := Lib.hid er
            generalize max r (-r) = ra at *
            clear hn er
            go_wp2_with fail
            refine (HC0.out _ HB0.out).mono ?_
            intro e w2 hgo
            obtain ⟨rfl, hb⟩ := hgo.yes
            clear hgo
            have HU2 : Hid (Below W.heap.size W w2) := hb
            have HB2 : Hid (Below w.heap.size w w2) := HB0.out.trans (HU2.out.mono HB0.out.size)
            clear hb
            obtain ⟨a2_0, a2_1, a2_2⟩ := KE.out _ HU2.out
            go_wp2_with fail
            refine (HC1.out _ HB2.out).mono ?_
            intro e w3 hgo
            obtain ⟨rfl, hb⟩ := hgo.yes
            clear hgo
            have HU3 : Hid (Below W.heap.size W w3) := HU2.out.trans (hb.mono HU2.out.size)
            have HB3 : Hid (Below w.heap.size w w3) := HB0.out.trans (HU3.out.mono HB0.out.size)
            clear hb
            obtain ⟨a3_0, a3_1, a3_2⟩ := KE.out _ HU3.out
            go_wp2_with (simp only [hm])
            refine (HA.out _).mono ?_
            rintro e w5 ⟨rfl, rfl⟩
            go_wp2
            go_ret2
            show GivesO w (topV 4 vv fs R) _ _
            rw [E.out]
            refine ⟨⟨r, ?_, fun y hy => by cases hy⟩, HB3.out⟩
            show _ = Ending.returned (.tuple #[.int .i64 r, .bool false])
            rw [← hqf]
            rfl
    · obtain rfl : m' = 2 := HN.out.symm
      obtain ⟨x0, ⟨g0, e0, z0⟩, C0, I0⟩ := HE.out 0 (by omega)
      obtain ⟨x1, ⟨g1, e1, z1⟩, C1, I1⟩ := HE.out 1 (by omega)
      subst e0
      obtain rfl : g0 = g1 := by simpa using e1
      clear e1
      have HC0 := Lib.hid C0
      have HC1 := Lib.hid C1
      have KE : Hid (∀ u, Below W.heap.size W u → (u.cell? ⟨w.heap.size, 0, none⟩ = some (.int .i64 5) ∧ u.cell? ⟨g0, 0, none⟩ = some (.int .i64 (x0 : Int)) ∧ u.cell? ⟨g0, 1, none⟩ = some (.int .i64 (x1 : Int)))) := fun u hu => ⟨cell_at hu d0, cell_at (HB0.out.trans (hu.mono HB0.out.size)) z0, cell_at (HB0.out.trans (hu.mono HB0.out.size)) z1⟩
      clear C0 C1 HE HV1 HN HR HFL HP0 d0 d1 k0 k8 z0 z1
      obtain ⟨a0, a1, a2⟩ := KE.out W (Below.refl _ _)
      cases h0 : R 0 with
      | none =>
        rw [h0] at HC0
        have E : Hid (topV 5 vv fs R = none) := by rw [topV_bin (show (2 : Int) ≤ 5 ∧ (5 : Int) ≤ 5 by omega), h0]; rfl
        clear h0 I0 I1
        go_wp2_with fail
        refine (HC0.out _ HB0.out).mono ?_
        intro e w2 hgo
        obtain ⟨⟨y0, rfl⟩, hb⟩ := hgo.no
        clear hgo
        have HU2 : Hid (Below W.heap.size W w2) := hb
        have HB2 : Hid (Below w.heap.size w w2) := HB0.out.trans (HU2.out.mono HB0.out.size)
        clear hb
        obtain ⟨a2_0, a2_1, a2_2⟩ := KE.out _ HU2.out
        go_wp2_with fail
        refine (HC1.out _ HB2.out).mono ?_
        intro e w3 hgo
        obtain ⟨⟨y1, y1b, rfl⟩, hb⟩ := hgo.any
        clear hgo
        have HU3 : Hid (Below W.heap.size W w3) := HU2.out.trans (hb.mono HU2.out.size)
        have HB3 : Hid (Below w.heap.size w w3) := HB0.out.trans (HU3.out.mono HB0.out.size)
        clear hb
        obtain ⟨a3_0, a3_1, a3_2⟩ := KE.out _ HU3.out
        go_wp2
        go_ret2
        show GivesO w (topV 5 vv fs R) _ _
        rw [E.out]
        exact ⟨⟨0, rfl, fun y hy => by cases hy⟩, HB3.out⟩
      | some a =>
        rw [h0] at HC0 I0
        obtain ⟨p0, p1⟩ := I0 a rfl
        cases h1 : R 1 with
        | none =>
          rw [h1] at HC1
          have E : Hid (topV 5 vv fs R = none) := by rw [topV_bin (show (2 : Int) ≤ 5 ∧ (5 : Int) ≤ 5 by omega), h0, h1]; rfl
          clear h0 h1 I0 I1
          go_wp2_with fail
          refine (HC0.out _ HB0.out).mono ?_
          intro e w2 hgo
          obtain ⟨rfl, hb⟩ := hgo.yes
          clear hgo
          have HU2 : Hid (Below W.heap.size W w2) := hb
          have HB2 : Hid (Below w.heap.size w w2) := HB0.out.trans (HU2.out.mono HB0.out.size)
          clear hb
          obtain ⟨a2_0, a2_1, a2_2⟩ := KE.out _ HU2.out
          go_wp2_with fail
          refine (HC1.out _ HB2.out).mono ?_
          intro e w3 hgo
          obtain ⟨⟨y1, rfl⟩, hb⟩ := hgo.no
          clear hgo
          have HU3 : Hid (Below W.heap.size W w3) := HU2.out.trans (hb.mono HU2.out.size)
          have HB3 : Hid (Below w.heap.size w w3) := HB0.out.trans (HU3.out.mono HB0.out.size)
          clear hb
          obtain ⟨a3_0, a3_1, a3_2⟩ := KE.out _ HU3.out
          go_wp2
          go_ret2
          show GivesO w (topV 5 vv fs R) _ _
          rw [E.out]
          exact ⟨⟨0, rfl, fun y hy => by cases hy⟩, HB3.out⟩
        | some b' =>
          rw [h1] at HC1 I1
          obtain ⟨p2, p3⟩ := I1 b' rfl
          have er : topV 5 vv fs R = (opV 5 a b').bind chk := by rw [topV_bin (show (2 : Int) ≤ 5 ∧ (5 : Int) ≤ 5 by omega), h0, h1]; rfl
          by_cases hz : b' = 0
          · have eo : opV 5 a b' = none := by subst hz; rfl
            rw [eo, Option.bind_none] at er
            have E := Lib.hid er
            subst hz
            clear eo er h0 h1 I0 I1
            go_wp2_with fail
            refine (HC0.out _ HB0.out).mono ?_
            intro e w2 hgo
            obtain ⟨rfl, hb⟩ := hgo.yes
            clear hgo
            have HU2 : Hid (Below W.heap.size W w2) := hb
            have HB2 : Hid (Below w.heap.size w w2) := HB0.out.trans (HU2.out.mono HB0.out.size)
            clear hb
            obtain ⟨a2_0, a2_1, a2_2⟩ := KE.out _ HU2.out
            go_wp2_with fail
            refine (HC1.out _ HB2.out).mono ?_
            intro e w3 hgo
            obtain ⟨rfl, hb⟩ := hgo.yes
            clear hgo
            have HU3 : Hid (Below W.heap.size W w3) := HU2.out.trans (hb.mono HU2.out.size)
            have HB3 : Hid (Below w.heap.size w w3) := HB0.out.trans (HU3.out.mono HB0.out.size)
            clear hb
            obtain ⟨a3_0, a3_1, a3_2⟩ := KE.out _ HU3.out
            go_wp2
            go_ret2
            show GivesO w (topV 5 vv fs R) _ _
            rw [E.out]
            exact ⟨⟨0, rfl, fun y hy => by cases hy⟩, HB3.out⟩
          · have eo : opV 5 a b' = some (dn a b') := by unfold opV; rw [if_neg (by omega), if_neg (by omega), if_neg (by omega), if_neg hz]
            rw [eo, Option.bind_some] at er
            obtain ⟨r0, r1⟩ := dn_box (b := b') p0 p1
            have HD := Lib.hid fun u => c_ruDown a b' u (by omega) (by omega) hz (by omega) (by omega)
            generalize dn a b' = r at *
            clear eo h0 h1 I0 I1
            have HA := Lib.hid fun u => c_l1Abs r u (by omega) (by omega)
            by_cases hn : -1000000000 ≤ r ∧ r ≤ 1000000000
            · have hq : max r (-r) ≤ 1000000000 := by omega
              rw [chk_yes hn] at er
              have E := Lib.hid er
              generalize max r (-r) = ra at *
              clear hn er
              go_wp2_with fail
              refine (HC0.out _ HB0.out).mono ?_
              intro e w2 hgo
              obtain ⟨rfl, hb⟩ := hgo.yes
              clear hgo
              have HU2 : Hid (Below W.heap.size W w2) := hb
              have HB2 : Hid (Below w.heap.size w w2) := HB0.out.trans (HU2.out.mono HB0.out.size)
              clear hb
              obtain ⟨a2_0, a2_1, a2_2⟩ := KE.out _ HU2.out
              go_wp2_with fail
              refine (HC1.out _ HB2.out).mono ?_
              intro e w3 hgo
              obtain ⟨rfl, hb⟩ := hgo.yes
              clear hgo
              have HU3 : Hid (Below W.heap.size W w3) := HU2.out.trans (hb.mono HU2.out.size)
              have HB3 : Hid (Below w.heap.size w w3) := HB0.out.trans (HU3.out.mono HB0.out.size)
              clear hb
              obtain ⟨a3_0, a3_1, a3_2⟩ := KE.out _ HU3.out
              go_wp2_with fail
              refine (HD.out _).mono ?_
              rintro e w4 ⟨rfl, rfl⟩
              go_wp2_with fail
              refine (HA.out _).mono ?_
              rintro e w5 ⟨rfl, rfl⟩
              go_wp2
              go_ret2
              show GivesO w (topV 5 vv fs R) _ _
              rw [E.out]
              exact ⟨⟨r, rfl, fun y hy => by cases hy; rfl⟩, HB3.out⟩
            · have hq : 1000000000 < max r (-r) := by omega
              have hqf : decide (max r (-r) ≤ 1000000000) = false := decide_eq_false (by omega)
              rw [chk_no hn] at er
              have E := Lib.hid er
              generalize max r (-r) = ra at *
              clear hn er
              go_wp2_with fail
              refine (HC0.out _ HB0.out).mono ?_
              intro e w2 hgo
              obtain ⟨rfl, hb⟩ := hgo.yes
              clear hgo
              have HU2 : Hid (Below W.heap.size W w2) := hb
              have HB2 : Hid (Below w.heap.size w w2) := HB0.out.trans (HU2.out.mono HB0.out.size)
              clear hb
              obtain ⟨a2_0, a2_1, a2_2⟩ := KE.out _ HU2.out
              go_wp2_with fail
              refine (HC1.out _ HB2.out).mono ?_
              intro e w3 hgo
              obtain ⟨rfl, hb⟩ := hgo.yes
              clear hgo
              have HU3 : Hid (Below W.heap.size W w3) := HU2.out.trans (hb.mono HU2.out.size)
              have HB3 : Hid (Below w.heap.size w w3) := HB0.out.trans (HU3.out.mono HB0.out.size)
              clear hb
              obtain ⟨a3_0, a3_1, a3_2⟩ := KE.out _ HU3.out
              go_wp2_with fail
              refine (HD.out _).mono ?_
              rintro e w4 ⟨rfl, rfl⟩
              go_wp2_with fail
              refine (HA.out _).mono ?_
              rintro e w5 ⟨rfl, rfl⟩
              go_wp2
              go_ret2
              show GivesO w (topV 5 vv fs R) _ _
              rw [E.out]
              refine ⟨⟨r, ?_, fun y hy => by cases hy⟩, HB3.out⟩
              show _ = Ending.returned (.tuple #[.int .i64 r, .bool false])
              rw [← hqf]
              rfl
    · obtain rfl : m' = 4 := HN.out.symm
      obtain ⟨x0, ⟨g0, e0, z0⟩, C0, I0⟩ := HE.out 0 (by omega)
      obtain ⟨x1, ⟨g1, e1, z1⟩, C1, I1⟩ := HE.out 1 (by omega)
      obtain ⟨x2, ⟨g2, e2, z2⟩, C2, I2⟩ := HE.out 2 (by omega)
      obtain ⟨x3, ⟨g3, e3, z3⟩, C3, I3⟩ := HE.out 3 (by omega)
      subst e0
      obtain rfl : g0 = g1 := by simpa using e1
      obtain rfl : g0 = g2 := by simpa using e2
      obtain rfl : g0 = g3 := by simpa using e3
      clear e1
      clear e2
      clear e3
      have HC0 := Lib.hid C0
      have HC1 := Lib.hid C1
      have HC2 := Lib.hid C2
      have HC3 := Lib.hid C3
      have KE : Hid (∀ u, Below W.heap.size W u → (u.cell? ⟨w.heap.size, 0, none⟩ = some (.int .i64 6) ∧ u.cell? ⟨g0, 0, none⟩ = some (.int .i64 (x0 : Int)) ∧ u.cell? ⟨g0, 1, none⟩ = some (.int .i64 (x1 : Int)) ∧ u.cell? ⟨g0, 2, none⟩ = some (.int .i64 (x2 : Int)) ∧ u.cell? ⟨g0, 3, none⟩ = some (.int .i64 (x3 : Int)))) := fun u hu => ⟨cell_at hu d0, cell_at (HB0.out.trans (hu.mono HB0.out.size)) z0, cell_at (HB0.out.trans (hu.mono HB0.out.size)) z1, cell_at (HB0.out.trans (hu.mono HB0.out.size)) z2, cell_at (HB0.out.trans (hu.mono HB0.out.size)) z3⟩
      clear C0 C1 C2 C3 HE HV1 HN HR HFL HP0 d0 d1 k0 k8 z0 z1 z2 z3
      obtain ⟨a0, a1, a2, a3, a4⟩ := KE.out W (Below.refl _ _)
      cases h0 : R 0 with
      | none =>
        rw [h0] at HC0
        have E : Hid (topV 6 vv fs R = none) := by rw [topV_cho (show (6 : Int) ≤ 6 by omega), h0]; rfl
        clear h0 I0 I1
        go_wp2_with fail
        refine (HC0.out _ HB0.out).mono ?_
        intro e w2 hgo
        obtain ⟨⟨y0, rfl⟩, hb⟩ := hgo.no
        clear hgo
        have HU2 : Hid (Below W.heap.size W w2) := hb
        have HB2 : Hid (Below w.heap.size w w2) := HB0.out.trans (HU2.out.mono HB0.out.size)
        clear hb
        obtain ⟨a2_0, a2_1, a2_2, a2_3, a2_4⟩ := KE.out _ HU2.out
        go_wp2_with fail
        refine (HC1.out _ HB2.out).mono ?_
        intro e w3 hgo
        obtain ⟨⟨y1, y1b, rfl⟩, hb⟩ := hgo.any
        clear hgo
        have HU3 : Hid (Below W.heap.size W w3) := HU2.out.trans (hb.mono HU2.out.size)
        have HB3 : Hid (Below w.heap.size w w3) := HB0.out.trans (HU3.out.mono HB0.out.size)
        clear hb
        obtain ⟨a3_0, a3_1, a3_2, a3_3, a3_4⟩ := KE.out _ HU3.out
        go_wp2
        go_ret2
        show GivesO w (topV 6 vv fs R) _ _
        rw [E.out]
        exact ⟨⟨0, rfl, fun y hy => by cases hy⟩, HB3.out⟩
      | some a =>
        rw [h0] at HC0 I0
        obtain ⟨p0, p1⟩ := I0 a rfl
        cases h1 : R 1 with
        | none =>
          rw [h1] at HC1
          have E : Hid (topV 6 vv fs R = none) := by rw [topV_cho (show (6 : Int) ≤ 6 by omega), h0, h1]; rfl
          clear h0 h1 I0 I1
          go_wp2_with fail
          refine (HC0.out _ HB0.out).mono ?_
          intro e w2 hgo
          obtain ⟨rfl, hb⟩ := hgo.yes
          clear hgo
          have HU2 : Hid (Below W.heap.size W w2) := hb
          have HB2 : Hid (Below w.heap.size w w2) := HB0.out.trans (HU2.out.mono HB0.out.size)
          clear hb
          obtain ⟨a2_0, a2_1, a2_2, a2_3, a2_4⟩ := KE.out _ HU2.out
          go_wp2_with fail
          refine (HC1.out _ HB2.out).mono ?_
          intro e w3 hgo
          obtain ⟨⟨y1, rfl⟩, hb⟩ := hgo.no
          clear hgo
          have HU3 : Hid (Below W.heap.size W w3) := HU2.out.trans (hb.mono HU2.out.size)
          have HB3 : Hid (Below w.heap.size w w3) := HB0.out.trans (HU3.out.mono HB0.out.size)
          clear hb
          obtain ⟨a3_0, a3_1, a3_2, a3_3, a3_4⟩ := KE.out _ HU3.out
          go_wp2
          go_ret2
          show GivesO w (topV 6 vv fs R) _ _
          rw [E.out]
          exact ⟨⟨0, rfl, fun y hy => by cases hy⟩, HB3.out⟩
        | some b' =>
          rw [h1] at HC1 I1
          obtain ⟨p2, p3⟩ := I1 b' rfl
          rcases (show a < b' ∨ a = b' ∨ b' < a by omega) with hc | hc | hc
          · have E : Hid (topV 6 vv fs R = R 2) := by
              rw [topV_cho (show (6 : Int) ≤ 6 by omega), h0, h1]
              show (if testV 6 a b' then R 2 else R 3) = R 2
              have : testV 6 a b' = true := by unfold testV; simp; try omega
              rw [this]; rfl
            have s1 : a - b' < 0 := by omega
            have s2 : ¬ 0 < a - b' := by omega
            have s3 : ¬ b' < a := by omega
            clear h0 h1 I0 I1 I2 I3
            go_wp2_with fail
            refine (HC0.out _ HB0.out).mono ?_
            intro e w2 hgo
            obtain ⟨rfl, hb⟩ := hgo.yes
            clear hgo
            have HU2 : Hid (Below W.heap.size W w2) := hb
            have HB2 : Hid (Below w.heap.size w w2) := HB0.out.trans (HU2.out.mono HB0.out.size)
            clear hb
            obtain ⟨a2_0, a2_1, a2_2, a2_3, a2_4⟩ := KE.out _ HU2.out
            go_wp2_with fail
            refine (HC1.out _ HB2.out).mono ?_
            intro e w3 hgo
            obtain ⟨rfl, hb⟩ := hgo.yes
            clear hgo
            have HU3 : Hid (Below W.heap.size W w3) := HU2.out.trans (hb.mono HU2.out.size)
            have HB3 : Hid (Below w.heap.size w w3) := HB0.out.trans (HU3.out.mono HB0.out.size)
            clear hb
            obtain ⟨a3_0, a3_1, a3_2, a3_3, a3_4⟩ := KE.out _ HU3.out
            have HS : Hid (∀ u, Calls Try.prog 148 #[.int .i64 (a - b')] u fun e w' => e = .returned (.int .i64 (-1)) ∧ u = w') := fun u => by
              have := c_l1Sign (a - b') u
              rw [show sgn (a - b') = -1 by unfold sgn; simp; try omega] at this
              exact this
            have hwr : IntKind.i64.wrap (a - b') = a - b' := IntWalk.i64_in _ (by omega)
            have KD : Hid (Below W.heap.size W w3.drew) := HU3.out.drew
            go_wp2_with fail
            go_region_held3 (fun u => u.cell? ⟨w.heap.size, 0, none⟩ = some (.int .i64 6)) (first | exact (KE.out _ KD.out).1) (first | (go_at_call 148; refine (HS.out _).mono ?_; rintro e w4 ⟨rfl, rfl⟩))
            go_wp2_with fail
            refine (HC2.out _ (by exact HB3.out.drew)).mono ?_
            intro e w5 hgo
            obtain ⟨⟨x, rfl, hx⟩, hb⟩ := hgo
            have HB5 : Hid (Below w.heap.size w w5) := HB3.out.drew.trans (hb.mono HB3.out.size)
            have HX := Lib.hid hx
            clear hb hx
            go_wp2
            go_ret2
            show GivesO w (topV 6 vv fs R) _ _
            rw [E.out]
            exact ⟨⟨x, rfl, HX.out⟩, HB5.out⟩
          · have E : Hid (topV 6 vv fs R = R 3) := by
              rw [topV_cho (show (6 : Int) ≤ 6 by omega), h0, h1]
              show (if testV 6 a b' then R 2 else R 3) = R 3
              have : testV 6 a b' = false := by unfold testV; simp; try omega
              rw [this]; rfl
            subst hc
            have s0 : a - a = 0 := by omega
            clear h0 h1 I0 I1 I2 I3
            go_wp2_with fail
            refine (HC0.out _ HB0.out).mono ?_
            intro e w2 hgo
            obtain ⟨rfl, hb⟩ := hgo.yes
            clear hgo
            have HU2 : Hid (Below W.heap.size W w2) := hb
            have HB2 : Hid (Below w.heap.size w w2) := HB0.out.trans (HU2.out.mono HB0.out.size)
            clear hb
            obtain ⟨a2_0, a2_1, a2_2, a2_3, a2_4⟩ := KE.out _ HU2.out
            go_wp2_with fail
            refine (HC1.out _ HB2.out).mono ?_
            intro e w3 hgo
            obtain ⟨rfl, hb⟩ := hgo.yes
            clear hgo
            have HU3 : Hid (Below W.heap.size W w3) := HU2.out.trans (hb.mono HU2.out.size)
            have HB3 : Hid (Below w.heap.size w w3) := HB0.out.trans (HU3.out.mono HB0.out.size)
            clear hb
            obtain ⟨a3_0, a3_1, a3_2, a3_3, a3_4⟩ := KE.out _ HU3.out
            have HS : Hid (∀ u, Calls Try.prog 148 #[.int .i64 ((0 : Int))] u fun e w' => e = .returned (.int .i64 (0)) ∧ u = w') := fun u => by
              have := c_l1Sign ((0 : Int)) u
              rw [show sgn ((0 : Int)) = 0 by unfold sgn; simp; try omega] at this
              exact this
            have hwr : IntKind.i64.wrap ((0 : Int)) = (0 : Int) := IntWalk.i64_in _ (by omega)
            have KD : Hid (Below W.heap.size W w3.drew) := HU3.out.drew
            go_wp2_with fail
            go_region_held3 (fun u => u.cell? ⟨w.heap.size, 0, none⟩ = some (.int .i64 6)) (first | exact (KE.out _ KD.out).1) (first | (go_at_call 148; refine (HS.out _).mono ?_; rintro e w4 ⟨rfl, rfl⟩))
            go_wp2_with fail
            refine (HC3.out _ (by exact HB3.out.drew)).mono ?_
            intro e w5 hgo
            obtain ⟨⟨x, rfl, hx⟩, hb⟩ := hgo
            have HB5 : Hid (Below w.heap.size w w5) := HB3.out.drew.trans (hb.mono HB3.out.size)
            have HX := Lib.hid hx
            clear hb hx
            go_wp2
            go_ret2
            show GivesO w (topV 6 vv fs R) _ _
            rw [E.out]
            exact ⟨⟨x, rfl, HX.out⟩, HB5.out⟩
          · have E : Hid (topV 6 vv fs R = R 3) := by
              rw [topV_cho (show (6 : Int) ≤ 6 by omega), h0, h1]
              show (if testV 6 a b' then R 2 else R 3) = R 3
              have : testV 6 a b' = false := by unfold testV; simp; try omega
              rw [this]; rfl
            have s2 : 0 < a - b' := by omega
            have s3 : ¬ a < b' := by omega
            clear h0 h1 I0 I1 I2 I3
            go_wp2_with fail
            refine (HC0.out _ HB0.out).mono ?_
            intro e w2 hgo
            obtain ⟨rfl, hb⟩ := hgo.yes
            clear hgo
            have HU2 : Hid (Below W.heap.size W w2) := hb
            have HB2 : Hid (Below w.heap.size w w2) := HB0.out.trans (HU2.out.mono HB0.out.size)
            clear hb
            obtain ⟨a2_0, a2_1, a2_2, a2_3, a2_4⟩ := KE.out _ HU2.out
            go_wp2_with fail
            refine (HC1.out _ HB2.out).mono ?_
            intro e w3 hgo
            obtain ⟨rfl, hb⟩ := hgo.yes
            clear hgo
            have HU3 : Hid (Below W.heap.size W w3) := HU2.out.trans (hb.mono HU2.out.size)
            have HB3 : Hid (Below w.heap.size w w3) := HB0.out.trans (HU3.out.mono HB0.out.size)
            clear hb
            obtain ⟨a3_0, a3_1, a3_2, a3_3, a3_4⟩ := KE.out _ HU3.out
            have HS : Hid (∀ u, Calls Try.prog 148 #[.int .i64 (a - b')] u fun e w' => e = .returned (.int .i64 (1)) ∧ u = w') := fun u => by
              have := c_l1Sign (a - b') u
              rw [show sgn (a - b') = 1 by unfold sgn; simp; try omega] at this
              exact this
            have hwr : IntKind.i64.wrap (a - b') = a - b' := IntWalk.i64_in _ (by omega)
            have KD : Hid (Below W.heap.size W w3.drew) := HU3.out.drew
            go_wp2_with fail
            go_region_held3 (fun u => u.cell? ⟨w.heap.size, 0, none⟩ = some (.int .i64 6)) (first | exact (KE.out _ KD.out).1) (first | (go_at_call 148; refine (HS.out _).mono ?_; rintro e w4 ⟨rfl, rfl⟩))
            go_wp2_with fail
            refine (HC3.out _ (by exact HB3.out.drew)).mono ?_
            intro e w5 hgo
            obtain ⟨⟨x, rfl, hx⟩, hb⟩ := hgo
            have HB5 : Hid (Below w.heap.size w w5) := HB3.out.drew.trans (hb.mono HB3.out.size)
            have HX := Lib.hid hx
            clear hb hx
            go_wp2
            go_ret2
            show GivesO w (topV 6 vv fs R) _ _
            rw [E.out]
            exact ⟨⟨x, rfl, HX.out⟩, HB5.out⟩
    · obtain rfl : m' = 4 := HN.out.symm
      obtain ⟨x0, ⟨g0, e0, z0⟩, C0, I0⟩ := HE.out 0 (by omega)
      obtain ⟨x1, ⟨g1, e1, z1⟩, C1, I1⟩ := HE.out 1 (by omega)
      obtain ⟨x2, ⟨g2, e2, z2⟩, C2, I2⟩ := HE.out 2 (by omega)
      obtain ⟨x3, ⟨g3, e3, z3⟩, C3, I3⟩ := HE.out 3 (by omega)
      subst e0
      obtain rfl : g0 = g1 := by simpa using e1
      obtain rfl : g0 = g2 := by simpa using e2
      obtain rfl : g0 = g3 := by simpa using e3
      clear e1
      clear e2
      clear e3
      have HC0 := Lib.hid C0
      have HC1 := Lib.hid C1
      have HC2 := Lib.hid C2
      have HC3 := Lib.hid C3
      have KE : Hid (∀ u, Below W.heap.size W u → (u.cell? ⟨w.heap.size, 0, none⟩ = some (.int .i64 7) ∧ u.cell? ⟨g0, 0, none⟩ = some (.int .i64 (x0 : Int)) ∧ u.cell? ⟨g0, 1, none⟩ = some (.int .i64 (x1 : Int)) ∧ u.cell? ⟨g0, 2, none⟩ = some (.int .i64 (x2 : Int)) ∧ u.cell? ⟨g0, 3, none⟩ = some (.int .i64 (x3 : Int)))) := fun u hu => ⟨cell_at hu d0, cell_at (HB0.out.trans (hu.mono HB0.out.size)) z0, cell_at (HB0.out.trans (hu.mono HB0.out.size)) z1, cell_at (HB0.out.trans (hu.mono HB0.out.size)) z2, cell_at (HB0.out.trans (hu.mono HB0.out.size)) z3⟩
      clear C0 C1 C2 C3 HE HV1 HN HR HFL HP0 d0 d1 k0 k8 z0 z1 z2 z3
      obtain ⟨a0, a1, a2, a3, a4⟩ := KE.out W (Below.refl _ _)
      cases h0 : R 0 with
      | none =>
        rw [h0] at HC0
        have E : Hid (topV 7 vv fs R = none) := by rw [topV_cho (show (6 : Int) ≤ 7 by omega), h0]; rfl
        clear h0 I0 I1
        go_wp2_with fail
        refine (HC0.out _ HB0.out).mono ?_
        intro e w2 hgo
        obtain ⟨⟨y0, rfl⟩, hb⟩ := hgo.no
        clear hgo
        have HU2 : Hid (Below W.heap.size W w2) := hb
        have HB2 : Hid (Below w.heap.size w w2) := HB0.out.trans (HU2.out.mono HB0.out.size)
        clear hb
        obtain ⟨a2_0, a2_1, a2_2, a2_3, a2_4⟩ := KE.out _ HU2.out
        go_wp2_with fail
        refine (HC1.out _ HB2.out).mono ?_
        intro e w3 hgo
        obtain ⟨⟨y1, y1b, rfl⟩, hb⟩ := hgo.any
        clear hgo
        have HU3 : Hid (Below W.heap.size W w3) := HU2.out.trans (hb.mono HU2.out.size)
        have HB3 : Hid (Below w.heap.size w w3) := HB0.out.trans (HU3.out.mono HB0.out.size)
        clear hb
        obtain ⟨a3_0, a3_1, a3_2, a3_3, a3_4⟩ := KE.out _ HU3.out
        go_wp2
        go_ret2
        show GivesO w (topV 7 vv fs R) _ _
        rw [E.out]
        exact ⟨⟨0, rfl, fun y hy => by cases hy⟩, HB3.out⟩
      | some a =>
        rw [h0] at HC0 I0
        obtain ⟨p0, p1⟩ := I0 a rfl
        cases h1 : R 1 with
        | none =>
          rw [h1] at HC1
          have E : Hid (topV 7 vv fs R = none) := by rw [topV_cho (show (6 : Int) ≤ 7 by omega), h0, h1]; rfl
          clear h0 h1 I0 I1
          go_wp2_with fail
          refine (HC0.out _ HB0.out).mono ?_
          intro e w2 hgo
          obtain ⟨rfl, hb⟩ := hgo.yes
          clear hgo
          have HU2 : Hid (Below W.heap.size W w2) := hb
          have HB2 : Hid (Below w.heap.size w w2) := HB0.out.trans (HU2.out.mono HB0.out.size)
          clear hb
          obtain ⟨a2_0, a2_1, a2_2, a2_3, a2_4⟩ := KE.out _ HU2.out
          go_wp2_with fail
          refine (HC1.out _ HB2.out).mono ?_
          intro e w3 hgo
          obtain ⟨⟨y1, rfl⟩, hb⟩ := hgo.no
          clear hgo
          have HU3 : Hid (Below W.heap.size W w3) := HU2.out.trans (hb.mono HU2.out.size)
          have HB3 : Hid (Below w.heap.size w w3) := HB0.out.trans (HU3.out.mono HB0.out.size)
          clear hb
          obtain ⟨a3_0, a3_1, a3_2, a3_3, a3_4⟩ := KE.out _ HU3.out
          go_wp2
          go_ret2
          show GivesO w (topV 7 vv fs R) _ _
          rw [E.out]
          exact ⟨⟨0, rfl, fun y hy => by cases hy⟩, HB3.out⟩
        | some b' =>
          rw [h1] at HC1 I1
          obtain ⟨p2, p3⟩ := I1 b' rfl
          rcases (show a < b' ∨ a = b' ∨ b' < a by omega) with hc | hc | hc
          · have E : Hid (topV 7 vv fs R = R 3) := by
              rw [topV_cho (show (6 : Int) ≤ 7 by omega), h0, h1]
              show (if testV 7 a b' then R 2 else R 3) = R 3
              have : testV 7 a b' = false := by unfold testV; simp; try omega
              rw [this]; rfl
            have s1 : a - b' < 0 := by omega
            have s2 : ¬ 0 < a - b' := by omega
            have s3 : ¬ b' < a := by omega
            clear h0 h1 I0 I1 I2 I3
            go_wp2_with fail
            refine (HC0.out _ HB0.out).mono ?_
            intro e w2 hgo
            obtain ⟨rfl, hb⟩ := hgo.yes
            clear hgo
            have HU2 : Hid (Below W.heap.size W w2) := hb
            have HB2 : Hid (Below w.heap.size w w2) := HB0.out.trans (HU2.out.mono HB0.out.size)
            clear hb
            obtain ⟨a2_0, a2_1, a2_2, a2_3, a2_4⟩ := KE.out _ HU2.out
            go_wp2_with fail
            refine (HC1.out _ HB2.out).mono ?_
            intro e w3 hgo
            obtain ⟨rfl, hb⟩ := hgo.yes
            clear hgo
            have HU3 : Hid (Below W.heap.size W w3) := HU2.out.trans (hb.mono HU2.out.size)
            have HB3 : Hid (Below w.heap.size w w3) := HB0.out.trans (HU3.out.mono HB0.out.size)
            clear hb
            obtain ⟨a3_0, a3_1, a3_2, a3_3, a3_4⟩ := KE.out _ HU3.out
            have HS : Hid (∀ u, Calls Try.prog 148 #[.int .i64 (a - b')] u fun e w' => e = .returned (.int .i64 (-1)) ∧ u = w') := fun u => by
              have := c_l1Sign (a - b') u
              rw [show sgn (a - b') = -1 by unfold sgn; simp; try omega] at this
              exact this
            have hwr : IntKind.i64.wrap (a - b') = a - b' := IntWalk.i64_in _ (by omega)
            have KD : Hid (Below W.heap.size W w3.drew) := HU3.out.drew
            go_wp2_with fail
            go_region_held3 (fun u => u.cell? ⟨w.heap.size, 0, none⟩ = some (.int .i64 7)) (first | exact (KE.out _ KD.out).1) (first | (go_at_call 148; refine (HS.out _).mono ?_; rintro e w4 ⟨rfl, rfl⟩))
            go_wp2_with fail
            refine (HC3.out _ (by exact HB3.out.drew)).mono ?_
            intro e w5 hgo
            obtain ⟨⟨x, rfl, hx⟩, hb⟩ := hgo
            have HB5 : Hid (Below w.heap.size w w5) := HB3.out.drew.trans (hb.mono HB3.out.size)
            have HX := Lib.hid hx
            clear hb hx
            go_wp2
            go_ret2
            show GivesO w (topV 7 vv fs R) _ _
            rw [E.out]
            exact ⟨⟨x, rfl, HX.out⟩, HB5.out⟩
          · have E : Hid (topV 7 vv fs R = R 2) := by
              rw [topV_cho (show (6 : Int) ≤ 7 by omega), h0, h1]
              show (if testV 7 a b' then R 2 else R 3) = R 2
              have : testV 7 a b' = true := by unfold testV; simp; try omega
              rw [this]; rfl
            subst hc
            have s0 : a - a = 0 := by omega
            clear h0 h1 I0 I1 I2 I3
            go_wp2_with fail
            refine (HC0.out _ HB0.out).mono ?_
            intro e w2 hgo
            obtain ⟨rfl, hb⟩ := hgo.yes
            clear hgo
            have HU2 : Hid (Below W.heap.size W w2) := hb
            have HB2 : Hid (Below w.heap.size w w2) := HB0.out.trans (HU2.out.mono HB0.out.size)
            clear hb
            obtain ⟨a2_0, a2_1, a2_2, a2_3, a2_4⟩ := KE.out _ HU2.out
            go_wp2_with fail
            refine (HC1.out _ HB2.out).mono ?_
            intro e w3 hgo
            obtain ⟨rfl, hb⟩ := hgo.yes
            clear hgo
            have HU3 : Hid (Below W.heap.size W w3) := HU2.out.trans (hb.mono HU2.out.size)
            have HB3 : Hid (Below w.heap.size w w3) := HB0.out.trans (HU3.out.mono HB0.out.size)
            clear hb
            obtain ⟨a3_0, a3_1, a3_2, a3_3, a3_4⟩ := KE.out _ HU3.out
            have HS : Hid (∀ u, Calls Try.prog 148 #[.int .i64 ((0 : Int))] u fun e w' => e = .returned (.int .i64 (0)) ∧ u = w') := fun u => by
              have := c_l1Sign ((0 : Int)) u
              rw [show sgn ((0 : Int)) = 0 by unfold sgn; simp; try omega] at this
              exact this
            have hwr : IntKind.i64.wrap ((0 : Int)) = (0 : Int) := IntWalk.i64_in _ (by omega)
            have KD : Hid (Below W.heap.size W w3.drew) := HU3.out.drew
            go_wp2_with fail
            go_region_held3 (fun u => u.cell? ⟨w.heap.size, 0, none⟩ = some (.int .i64 7)) (first | exact (KE.out _ KD.out).1) (first | (go_at_call 148; refine (HS.out _).mono ?_; rintro e w4 ⟨rfl, rfl⟩))
            go_wp2_with fail
            refine (HC2.out _ (by exact HB3.out.drew)).mono ?_
            intro e w5 hgo
            obtain ⟨⟨x, rfl, hx⟩, hb⟩ := hgo
            have HB5 : Hid (Below w.heap.size w w5) := HB3.out.drew.trans (hb.mono HB3.out.size)
            have HX := Lib.hid hx
            clear hb hx
            go_wp2
            go_ret2
            show GivesO w (topV 7 vv fs R) _ _
            rw [E.out]
            exact ⟨⟨x, rfl, HX.out⟩, HB5.out⟩
          · have E : Hid (topV 7 vv fs R = R 3) := by
              rw [topV_cho (show (6 : Int) ≤ 7 by omega), h0, h1]
              show (if testV 7 a b' then R 2 else R 3) = R 3
              have : testV 7 a b' = false := by unfold testV; simp; try omega
              rw [this]; rfl
            have s2 : 0 < a - b' := by omega
            have s3 : ¬ a < b' := by omega
            clear h0 h1 I0 I1 I2 I3
            go_wp2_with fail
            refine (HC0.out _ HB0.out).mono ?_
            intro e w2 hgo
            obtain ⟨rfl, hb⟩ := hgo.yes
            clear hgo
            have HU2 : Hid (Below W.heap.size W w2) := hb
            have HB2 : Hid (Below w.heap.size w w2) := HB0.out.trans (HU2.out.mono HB0.out.size)
            clear hb
            obtain ⟨a2_0, a2_1, a2_2, a2_3, a2_4⟩ := KE.out _ HU2.out
            go_wp2_with fail
            refine (HC1.out _ HB2.out).mono ?_
            intro e w3 hgo
            obtain ⟨rfl, hb⟩ := hgo.yes
            clear hgo
            have HU3 : Hid (Below W.heap.size W w3) := HU2.out.trans (hb.mono HU2.out.size)
            have HB3 : Hid (Below w.heap.size w w3) := HB0.out.trans (HU3.out.mono HB0.out.size)
            clear hb
            obtain ⟨a3_0, a3_1, a3_2, a3_3, a3_4⟩ := KE.out _ HU3.out
            have HS : Hid (∀ u, Calls Try.prog 148 #[.int .i64 (a - b')] u fun e w' => e = .returned (.int .i64 (1)) ∧ u = w') := fun u => by
              have := c_l1Sign (a - b') u
              rw [show sgn (a - b') = 1 by unfold sgn; simp; try omega] at this
              exact this
            have hwr : IntKind.i64.wrap (a - b') = a - b' := IntWalk.i64_in _ (by omega)
            have KD : Hid (Below W.heap.size W w3.drew) := HU3.out.drew
            go_wp2_with fail
            go_region_held3 (fun u => u.cell? ⟨w.heap.size, 0, none⟩ = some (.int .i64 7)) (first | exact (KE.out _ KD.out).1) (first | (go_at_call 148; refine (HS.out _).mono ?_; rintro e w4 ⟨rfl, rfl⟩))
            go_wp2_with fail
            refine (HC3.out _ (by exact HB3.out.drew)).mono ?_
            intro e w5 hgo
            obtain ⟨⟨x, rfl, hx⟩, hb⟩ := hgo
            have HB5 : Hid (Below w.heap.size w w5) := HB3.out.drew.trans (hb.mono HB3.out.size)
            have HX := Lib.hid hx
            clear hb hx
            go_wp2
            go_ret2
            show GivesO w (topV 7 vv fs R) _ _
            rw [E.out]
            exact ⟨⟨x, rfl, HX.out⟩, HB5.out⟩
    · obtain rfl : m' = 4 := HN.out.symm
      obtain ⟨x0, ⟨g0, e0, z0⟩, C0, I0⟩ := HE.out 0 (by omega)
      obtain ⟨x1, ⟨g1, e1, z1⟩, C1, I1⟩ := HE.out 1 (by omega)
      obtain ⟨x2, ⟨g2, e2, z2⟩, C2, I2⟩ := HE.out 2 (by omega)
      obtain ⟨x3, ⟨g3, e3, z3⟩, C3, I3⟩ := HE.out 3 (by omega)
      subst e0
      obtain rfl : g0 = g1 := by simpa using e1
      obtain rfl : g0 = g2 := by simpa using e2
      obtain rfl : g0 = g3 := by simpa using e3
      clear e1
      clear e2
      clear e3
      have HC0 := Lib.hid C0
      have HC1 := Lib.hid C1
      have HC2 := Lib.hid C2
      have HC3 := Lib.hid C3
      have KE : Hid (∀ u, Below W.heap.size W u → (u.cell? ⟨w.heap.size, 0, none⟩ = some (.int .i64 8) ∧ u.cell? ⟨g0, 0, none⟩ = some (.int .i64 (x0 : Int)) ∧ u.cell? ⟨g0, 1, none⟩ = some (.int .i64 (x1 : Int)) ∧ u.cell? ⟨g0, 2, none⟩ = some (.int .i64 (x2 : Int)) ∧ u.cell? ⟨g0, 3, none⟩ = some (.int .i64 (x3 : Int)))) := fun u hu => ⟨cell_at hu d0, cell_at (HB0.out.trans (hu.mono HB0.out.size)) z0, cell_at (HB0.out.trans (hu.mono HB0.out.size)) z1, cell_at (HB0.out.trans (hu.mono HB0.out.size)) z2, cell_at (HB0.out.trans (hu.mono HB0.out.size)) z3⟩
      clear C0 C1 C2 C3 HE HV1 HN HR HFL HP0 d0 d1 k0 k8 z0 z1 z2 z3
      obtain ⟨a0, a1, a2, a3, a4⟩ := KE.out W (Below.refl _ _)
      cases h0 : R 0 with
      | none =>
        rw [h0] at HC0
        have E : Hid (topV 8 vv fs R = none) := by rw [topV_cho (show (6 : Int) ≤ 8 by omega), h0]; rfl
        clear h0 I0 I1
        go_wp2_with fail
        refine (HC0.out _ HB0.out).mono ?_
        intro e w2 hgo
        obtain ⟨⟨y0, rfl⟩, hb⟩ := hgo.no
        clear hgo
        have HU2 : Hid (Below W.heap.size W w2) := hb
        have HB2 : Hid (Below w.heap.size w w2) := HB0.out.trans (HU2.out.mono HB0.out.size)
        clear hb
        obtain ⟨a2_0, a2_1, a2_2, a2_3, a2_4⟩ := KE.out _ HU2.out
        go_wp2_with fail
        refine (HC1.out _ HB2.out).mono ?_
        intro e w3 hgo
        obtain ⟨⟨y1, y1b, rfl⟩, hb⟩ := hgo.any
        clear hgo
        have HU3 : Hid (Below W.heap.size W w3) := HU2.out.trans (hb.mono HU2.out.size)
        have HB3 : Hid (Below w.heap.size w w3) := HB0.out.trans (HU3.out.mono HB0.out.size)
        clear hb
        obtain ⟨a3_0, a3_1, a3_2, a3_3, a3_4⟩ := KE.out _ HU3.out
        go_wp2
        go_ret2
        show GivesO w (topV 8 vv fs R) _ _
        rw [E.out]
        exact ⟨⟨0, rfl, fun y hy => by cases hy⟩, HB3.out⟩
      | some a =>
        rw [h0] at HC0 I0
        obtain ⟨p0, p1⟩ := I0 a rfl
        cases h1 : R 1 with
        | none =>
          rw [h1] at HC1
          have E : Hid (topV 8 vv fs R = none) := by rw [topV_cho (show (6 : Int) ≤ 8 by omega), h0, h1]; rfl
          clear h0 h1 I0 I1
          go_wp2_with fail
          refine (HC0.out _ HB0.out).mono ?_
          intro e w2 hgo
          obtain ⟨rfl, hb⟩ := hgo.yes
          clear hgo
          have HU2 : Hid (Below W.heap.size W w2) := hb
          have HB2 : Hid (Below w.heap.size w w2) := HB0.out.trans (HU2.out.mono HB0.out.size)
          clear hb
          obtain ⟨a2_0, a2_1, a2_2, a2_3, a2_4⟩ := KE.out _ HU2.out
          go_wp2_with fail
          refine (HC1.out _ HB2.out).mono ?_
          intro e w3 hgo
          obtain ⟨⟨y1, rfl⟩, hb⟩ := hgo.no
          clear hgo
          have HU3 : Hid (Below W.heap.size W w3) := HU2.out.trans (hb.mono HU2.out.size)
          have HB3 : Hid (Below w.heap.size w w3) := HB0.out.trans (HU3.out.mono HB0.out.size)
          clear hb
          obtain ⟨a3_0, a3_1, a3_2, a3_3, a3_4⟩ := KE.out _ HU3.out
          go_wp2
          go_ret2
          show GivesO w (topV 8 vv fs R) _ _
          rw [E.out]
          exact ⟨⟨0, rfl, fun y hy => by cases hy⟩, HB3.out⟩
        | some b' =>
          rw [h1] at HC1 I1
          obtain ⟨p2, p3⟩ := I1 b' rfl
          rcases (show a < b' ∨ a = b' ∨ b' < a by omega) with hc | hc | hc
          · have E : Hid (topV 8 vv fs R = R 3) := by
              rw [topV_cho (show (6 : Int) ≤ 8 by omega), h0, h1]
              show (if testV 8 a b' then R 2 else R 3) = R 3
              have : testV 8 a b' = false := by unfold testV; simp; try omega
              rw [this]; rfl
            have s1 : a - b' < 0 := by omega
            have s2 : ¬ 0 < a - b' := by omega
            have s3 : ¬ b' < a := by omega
            clear h0 h1 I0 I1 I2 I3
            go_wp2_with fail
            refine (HC0.out _ HB0.out).mono ?_
            intro e w2 hgo
            obtain ⟨rfl, hb⟩ := hgo.yes
            clear hgo
            have HU2 : Hid (Below W.heap.size W w2) := hb
            have HB2 : Hid (Below w.heap.size w w2) := HB0.out.trans (HU2.out.mono HB0.out.size)
            clear hb
            obtain ⟨a2_0, a2_1, a2_2, a2_3, a2_4⟩ := KE.out _ HU2.out
            go_wp2_with fail
            refine (HC1.out _ HB2.out).mono ?_
            intro e w3 hgo
            obtain ⟨rfl, hb⟩ := hgo.yes
            clear hgo
            have HU3 : Hid (Below W.heap.size W w3) := HU2.out.trans (hb.mono HU2.out.size)
            have HB3 : Hid (Below w.heap.size w w3) := HB0.out.trans (HU3.out.mono HB0.out.size)
            clear hb
            obtain ⟨a3_0, a3_1, a3_2, a3_3, a3_4⟩ := KE.out _ HU3.out
            have HS : Hid (∀ u, Calls Try.prog 148 #[.int .i64 (a - b')] u fun e w' => e = .returned (.int .i64 (-1)) ∧ u = w') := fun u => by
              have := c_l1Sign (a - b') u
              rw [show sgn (a - b') = -1 by unfold sgn; simp; try omega] at this
              exact this
            have hwr : IntKind.i64.wrap (a - b') = a - b' := IntWalk.i64_in _ (by omega)
            have KD : Hid (Below W.heap.size W w3.drew) := HU3.out.drew
            go_wp2_with fail
            go_region_held3 (fun u => u.cell? ⟨w.heap.size, 0, none⟩ = some (.int .i64 8)) (first | exact (KE.out _ KD.out).1) (first | (go_at_call 148; refine (HS.out _).mono ?_; rintro e w4 ⟨rfl, rfl⟩))
            go_wp2_with fail
            refine (HC3.out _ (by exact HB3.out.drew)).mono ?_
            intro e w5 hgo
            obtain ⟨⟨x, rfl, hx⟩, hb⟩ := hgo
            have HB5 : Hid (Below w.heap.size w w5) := HB3.out.drew.trans (hb.mono HB3.out.size)
            have HX := Lib.hid hx
            clear hb hx
            go_wp2
            go_ret2
            show GivesO w (topV 8 vv fs R) _ _
            rw [E.out]
            exact ⟨⟨x, rfl, HX.out⟩, HB5.out⟩
          · have E : Hid (topV 8 vv fs R = R 3) := by
              rw [topV_cho (show (6 : Int) ≤ 8 by omega), h0, h1]
              show (if testV 8 a b' then R 2 else R 3) = R 3
              have : testV 8 a b' = false := by unfold testV; simp; try omega
              rw [this]; rfl
            subst hc
            have s0 : a - a = 0 := by omega
            clear h0 h1 I0 I1 I2 I3
            go_wp2_with fail
            refine (HC0.out _ HB0.out).mono ?_
            intro e w2 hgo
            obtain ⟨rfl, hb⟩ := hgo.yes
            clear hgo
            have HU2 : Hid (Below W.heap.size W w2) := hb
            have HB2 : Hid (Below w.heap.size w w2) := HB0.out.trans (HU2.out.mono HB0.out.size)
            clear hb
            obtain ⟨a2_0, a2_1, a2_2, a2_3, a2_4⟩ := KE.out _ HU2.out
            go_wp2_with fail
            refine (HC1.out _ HB2.out).mono ?_
            intro e w3 hgo
            obtain ⟨rfl, hb⟩ := hgo.yes
            clear hgo
            have HU3 : Hid (Below W.heap.size W w3) := HU2.out.trans (hb.mono HU2.out.size)
            have HB3 : Hid (Below w.heap.size w w3) := HB0.out.trans (HU3.out.mono HB0.out.size)
            clear hb
            obtain ⟨a3_0, a3_1, a3_2, a3_3, a3_4⟩ := KE.out _ HU3.out
            have HS : Hid (∀ u, Calls Try.prog 148 #[.int .i64 ((0 : Int))] u fun e w' => e = .returned (.int .i64 (0)) ∧ u = w') := fun u => by
              have := c_l1Sign ((0 : Int)) u
              rw [show sgn ((0 : Int)) = 0 by unfold sgn; simp; try omega] at this
              exact this
            have hwr : IntKind.i64.wrap ((0 : Int)) = (0 : Int) := IntWalk.i64_in _ (by omega)
            have KD : Hid (Below W.heap.size W w3.drew) := HU3.out.drew
            go_wp2_with fail
            go_region_held3 (fun u => u.cell? ⟨w.heap.size, 0, none⟩ = some (.int .i64 8)) (first | exact (KE.out _ KD.out).1) (first | (go_at_call 148; refine (HS.out _).mono ?_; rintro e w4 ⟨rfl, rfl⟩))
            go_wp2_with fail
            refine (HC3.out _ (by exact HB3.out.drew)).mono ?_
            intro e w5 hgo
            obtain ⟨⟨x, rfl, hx⟩, hb⟩ := hgo
            have HB5 : Hid (Below w.heap.size w w5) := HB3.out.drew.trans (hb.mono HB3.out.size)
            have HX := Lib.hid hx
            clear hb hx
            go_wp2
            go_ret2
            show GivesO w (topV 8 vv fs R) _ _
            rw [E.out]
            exact ⟨⟨x, rfl, HX.out⟩, HB5.out⟩
          · have E : Hid (topV 8 vv fs R = R 2) := by
              rw [topV_cho (show (6 : Int) ≤ 8 by omega), h0, h1]
              show (if testV 8 a b' then R 2 else R 3) = R 2
              have : testV 8 a b' = true := by unfold testV; simp; try omega
              rw [this]; rfl
            have s2 : 0 < a - b' := by omega
            have s3 : ¬ a < b' := by omega
            clear h0 h1 I0 I1 I2 I3
            go_wp2_with fail
            refine (HC0.out _ HB0.out).mono ?_
            intro e w2 hgo
            obtain ⟨rfl, hb⟩ := hgo.yes
            clear hgo
            have HU2 : Hid (Below W.heap.size W w2) := hb
            have HB2 : Hid (Below w.heap.size w w2) := HB0.out.trans (HU2.out.mono HB0.out.size)
            clear hb
            obtain ⟨a2_0, a2_1, a2_2, a2_3, a2_4⟩ := KE.out _ HU2.out
            go_wp2_with fail
            refine (HC1.out _ HB2.out).mono ?_
            intro e w3 hgo
            obtain ⟨rfl, hb⟩ := hgo.yes
            clear hgo
            have HU3 : Hid (Below W.heap.size W w3) := HU2.out.trans (hb.mono HU2.out.size)
            have HB3 : Hid (Below w.heap.size w w3) := HB0.out.trans (HU3.out.mono HB0.out.size)
            clear hb
            obtain ⟨a3_0, a3_1, a3_2, a3_3, a3_4⟩ := KE.out _ HU3.out
            have HS : Hid (∀ u, Calls Try.prog 148 #[.int .i64 (a - b')] u fun e w' => e = .returned (.int .i64 (1)) ∧ u = w') := fun u => by
              have := c_l1Sign (a - b') u
              rw [show sgn (a - b') = 1 by unfold sgn; simp; try omega] at this
              exact this
            have hwr : IntKind.i64.wrap (a - b') = a - b' := IntWalk.i64_in _ (by omega)
            have KD : Hid (Below W.heap.size W w3.drew) := HU3.out.drew
            go_wp2_with fail
            go_region_held3 (fun u => u.cell? ⟨w.heap.size, 0, none⟩ = some (.int .i64 8)) (first | exact (KE.out _ KD.out).1) (first | (go_at_call 148; refine (HS.out _).mono ?_; rintro e w4 ⟨rfl, rfl⟩))
            go_wp2_with fail
            refine (HC2.out _ (by exact HB3.out.drew)).mono ?_
            intro e w5 hgo
            obtain ⟨⟨x, rfl, hx⟩, hb⟩ := hgo
            have HB5 : Hid (Below w.heap.size w w5) := HB3.out.drew.trans (hb.mono HB3.out.size)
            have HX := Lib.hid hx
            clear hb hx
            go_wp2
            go_ret2
            show GivesO w (topV 8 vv fs R) _ _
            rw [E.out]
            exact ⟨⟨x, rfl, HX.out⟩, HB5.out⟩
end Go.Proofs.Ytdodmcmkelegoaa
