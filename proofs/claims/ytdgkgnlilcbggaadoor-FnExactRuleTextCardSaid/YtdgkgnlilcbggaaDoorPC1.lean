/-
  Contract: the text of a rule, in the model.
-/
import Derived.Test.YtdgkgnlilcbggaaDoorPB3
import Derived.Test.YtdgkgnlilcbggaaDoorE10
import Derived.Test.YtdgkgnlilcbggaaDoorPK2
import Derived.Test.YtdgkgnlilcbggaaDoorPK3
import Derived.Test.YtdgkgnlilcbggaaDoorPK4
import Derived.Test.YtdgkgnlilcbggaaDoorPK5
import Derived.Test.YtdgkgnlilcbggaaDoorPK6
import Derived.Test.YtdgkgnlilcbggaaDoorPK7
import Derived.Test.YtdgkgnlilcbggaaDoorPK8
import Derived.Deep.RegionWith
namespace Go.Proofs.YtdgkgnlilcbggaaDoor
open Go.RowKit
set_option linter.unusedVariables false
set_option linter.unusedSimpArgs false

/-- A rule and what its parts take, in memory. -/
structure RuT (ks vs : Nat → Int) (n g b off : Nat) (w : World) : Prop where
  l0 : ∀ j, j < n → w.cell? ⟨b, off + j * 2, none⟩ = some (.int .i64 (ks j))
  l1 : ∀ j, j < n → w.cell? ⟨b, off + j * 2 + 1, none⟩ = some (.int .i64 (vs j))
  tr : ∀ i, i < n → ∃ A c' m, m = (kidI ks i).length ∧ w.cell? ⟨g, i, none⟩ = some (.slice A m c') ∧ ∀ j, j < m → ∃ g', A = some ⟨g', 0, none⟩ ∧ w.cell? ⟨g', j, none⟩ = some (.int .i64 ((kidI ks i).getD j 0))
theorem RuT.below {ks vs : Nat → Int} {n g b off : Nat} {w u : World} (h : RuT ks vs n g b off w) (hu : Below w.heap.size w u) : RuT ks vs n g b off u :=
  ⟨fun j hj => cell_up hu (h.l0 j hj), fun j hj => cell_up hu (h.l1 j hj), fun i hi => by
    obtain ⟨A, c', m, e, q, hq⟩ := h.tr i hi
    refine ⟨A, c', m, e, cell_up hu q, fun j hj => ?_⟩
    obtain ⟨g', e', q'⟩ := hq j hj
    exact ⟨g', e', cell_up hu q'⟩⟩

set_option maxHeartbeats 16000000 in
set_option maxRecDepth 100000 in
theorem c_ruShow (ks vs : Nat → Int) (n g gc b off c K : Nat) (hn : n ≤ 39) (hk : ∀ j, j < n → 0 ≤ ks j ∧ ks j ≤ 8)
    (hV : ∀ j, j < n → (ks j = 0 → 0 ≤ vs j ∧ vs j ≤ 1000000) ∧ (ks j = 1 → 0 ≤ vs j ∧ vs j ≤ 4)) : ∀ (t : Tr) (e : Nat) (lv : Int) (w : World), t.size ≤ K → At ks t e → e < n → RuT ks vs n g b off w →
    Calls Tryd.prog 18 #[.slice (some ⟨b, off, none⟩) n c, .slice (some ⟨g, 0, none⟩) n gc, .int .i64 (e : Int), .int .i64 lv] w fun e' w' => e' = .returned (.string (par (decide (bindK (ks e) < lv)) (tx ks vs t e))) ∧ Below w.heap.size w w' := by
  induction K with
  | zero =>
    intro t e lv w hK
    have := t.size_pos
    omega
  | succ K IHK =>
    intro t e lv w hK hA he hR
    have hse := hA.size_le
    obtain ⟨m, kd, of, S, hm4, hsm, _, hsz, hkid, htx⟩ := tx_split (vs := vs) (lo := e + 1 - t.size) hA (by omega)
    have hki : kidI ks e = (List.range m).map (fun j => (((e + 1 - t.size) + of (j + 1) - 1 : Nat) : Int)) := by unfold kidI; rw [hkid, List.map_map]; rfl
    obtain ⟨A, c', m', hm', q2, hc⟩ := hR.tr e he
    have hmm : m' = m := by rw [hm', hki]; simp
    subst hmm
    have q0 := hR.l0 e he
    have q1 := hR.l1 e he
    have HE : Hid (∀ j, j < m' → ∃ x : Nat, (∃ g', A = some ⟨g', 0, none⟩ ∧ w.cell? ⟨g', j, none⟩ = some (.int .i64 (x : Int))) ∧ (∀ β u, Below w.heap.size w u → Calls Tryd.prog 18 #[.slice (some ⟨b, off, none⟩) n c, .slice (some ⟨g, 0, none⟩) n gc, .int .i64 (x : Int), .int .i64 β] u fun e' w' => e' = .returned (.string (kX ks vs (e + 1 - t.size) kd of j β)) ∧ Below u.heap.size u w') ∧ (∀ β, (kX ks vs (e + 1 - t.size) kd of j β).size ≤ 2000)) := fun j hj => by
      have h1 := hsm j hj
      have h2 := S.next j hj
      have h3 := S.le (j := j + 1) (by omega)
      have h4 := (kd j).size_pos
      refine ⟨(e + 1 - t.size) + of (j + 1) - 1, ?_, fun β u hu => IHK (kd j) _ β u (by omega) (S.at_ j hj) (by omega) (hR.below hu), fun β => ?_⟩
      · obtain ⟨g', e', hg⟩ := hc j hj
        refine ⟨g', e', ?_⟩
        rw [hg, hki]
        simp [List.getD_eq_getElem?_getD, hj]
      · have h5 := tx_size ks vs (kd j).size (kd j) ((e + 1 - t.size) + of (j + 1) - 1) ((e + 1 - t.size) + of j) (Nat.le_refl _) (S.at_ j hj) (by omega) (fun q hq h0 => (hV _ (by omega)).1 h0)
        have h6 := par_size (decide (bindK (ks ((e + 1 - t.size) + of (j + 1) - 1)) < β)) (tx ks vs (kd j) ((e + 1 - t.size) + of (j + 1) - 1))
        show (par _ _).size ≤ _
        omega
    have hnd : ndK (ks e) = m' := by have := S.nd; rw [show (e + 1 - t.size) + t.size - 1 = e by omega] at this; exact this
    obtain ⟨v0, v1⟩ := hV e he
    obtain ⟨k0, k8⟩ := hk e he
    rw [htx]
    have i1 : (0 : Int) ≤ (e : Int) := by omega
    have i2 : (e : Int) < (n : Int) := by omega
    have hgl := World.block_lt_of_cell? w _ q2
    have hbl := World.block_lt_of_cell? w _ q0
    clear hK hA S hsm hsz hkid hki hm' hc IHK hse hV hk hR htx
    generalize kX ks vs (e + 1 - t.size) kd of = X at *
    generalize ks e = kk at *
    generalize vs e = vv at *
    have HB0 : Hid (Below w.heap.size w (w.alloc (.cells #[.int .i64 kk, .int .i64 vv] 33)).drew) := ((Below.refl _ _).alloc (Nat.le_refl _) _).drew
    have HP0 : Hid ((w.alloc (.cells #[.int .i64 kk, .int .i64 vv] 33)).drew.cell? ⟨w.heap.size, 0, none⟩ = some (.int .i64 kk) ∧ (w.alloc (.cells #[.int .i64 kk, .int .i64 vv] 33)).drew.cell? ⟨w.heap.size, 1, none⟩ = some (.int .i64 vv)) := ⟨by simp, by simp⟩
    rcases (show kk = 0 ∨ kk = 1 ∨ kk = 2 ∨ kk = 3 ∨ kk = 4 ∨ kk = 5 ∨ kk = 6 ∨ kk = 7 ∨ kk = 8 by omega) with rfl | rfl | rfl | rfl | rfl | rfl | rfl | rfl | rfl
    · obtain ⟨a0, b0⟩ := v0 rfl
      obtain ⟨kv, rfl⟩ := Int.eq_ofNat_of_zero_le a0
      rw [show topX 0 (kv : Int) X = itS kv from rfl]
      have hsz := itS_size (n := (kv : Int)) (by omega) (by omega)
      have CN := Lib.hid (fun u => c_l1NumT kv u (by omega))
      clear HE v0 v1 hnd
      generalize itS (kv : Int) = S at *
      rw [show bindK 0 = 3 from rfl]
      by_cases hlv : (3 : Int) < lv
      · have E : Hid (par true S = ⟨#[40, 32]⟩ ++ S ++ ⟨#[32, 41]⟩) := rfl
        rw [decide_eq_true hlv, E.out]
        have a1 := addsT ⟨#[40, 32]⟩ S (by show 2 + _ ≤ _; omega)
        have a2 := addsT (⟨#[40, 32]⟩ ++ S) ⟨#[32, 41]⟩ (by rw [ByteArray.size_append]; show 2 + _ + 2 ≤ _; omega)
        go_enter Tryd.func18, Tryd.ntmps18
        go_wp2_with fail
        go_region
        generalize (w.alloc (.cells #[.int .i64 0, .int .i64 (kv : Int)] 33)).drew = W at *
        obtain ⟨d0, d1⟩ := HP0.out
        go_wp2_with fail
        refine (c_ruLevel _ _).mono ?_
        rintro e' w1 ⟨rfl, rfl⟩
        simp only [bindK]
        go_wp2_with fail
        refine (CN.out _).mono ?_
        rintro e' w2 ⟨rfl, hb⟩
        have HB2 : Hid (Below w.heap.size w w2) := HB0.out.trans (hb.mono HB0.out.size)
        have d3 := cell_up hb d0
        clear hb
        go_wp2
        go_ret
        exact ⟨rfl, HB2.out⟩
      · have E : Hid (par false S = S) := rfl
        rw [decide_eq_false hlv, E.out]
        go_enter Tryd.func18, Tryd.ntmps18
        go_wp2_with fail
        go_region
        generalize (w.alloc (.cells #[.int .i64 0, .int .i64 (kv : Int)] 33)).drew = W at *
        obtain ⟨d0, d1⟩ := HP0.out
        go_wp2_with fail
        refine (c_ruLevel _ _).mono ?_
        rintro e' w1 ⟨rfl, rfl⟩
        simp only [bindK]
        go_wp2_with fail
        refine (CN.out _).mono ?_
        rintro e' w2 ⟨rfl, hb⟩
        have HB2 : Hid (Below w.heap.size w w2) := HB0.out.trans (hb.mono HB0.out.size)
        have d3 := cell_up hb d0
        clear hb
        go_wp2
        go_ret
        exact ⟨rfl, HB2.out⟩
    · obtain ⟨a0, b0⟩ := v1 rfl
      obtain ⟨kv, rfl⟩ := Int.eq_ofNat_of_zero_le a0
      rw [show topX 1 (kv : Int) X = fnm kv from rfl]
      have hsz : (fnm kv).size ≤ 6 := fnm_size kv
      have CN := Lib.hid (fun u => c_l1NumT kv u (by omega))
      clear HE v0 v1 hnd
      obtain ⟨S, hS⟩ : ∃ S, fnm kv = S := ⟨_, rfl⟩
      rw [hS] at hsz ⊢
      have HS := Lib.hid hS
      clear hS
      rw [show bindK 1 = 3 from rfl]
      by_cases hlv : (3 : Int) < lv
      · have E : Hid (par true S = ⟨#[40, 32]⟩ ++ S ++ ⟨#[32, 41]⟩) := rfl
        rw [decide_eq_true hlv, E.out]
        have a1 := addsT ⟨#[40, 32]⟩ S (by show 2 + _ ≤ _; omega)
        have a2 := addsT (⟨#[40, 32]⟩ ++ S) ⟨#[32, 41]⟩ (by rw [ByteArray.size_append]; show 2 + _ + 2 ≤ _; omega)
        go_enter Tryd.func18, Tryd.ntmps18
        go_wp2_with fail
        go_region
        generalize (w.alloc (.cells #[.int .i64 1, .int .i64 (kv : Int)] 33)).drew = W at *
        obtain ⟨d0, d1⟩ := HP0.out
        go_wp2_with fail
        refine (c_ruLevel _ _).mono ?_
        rintro e' w1 ⟨rfl, rfl⟩
        simp only [bindK]
        go_wp2_with fail
        refine (CN.out _).mono ?_
        rintro e' w2 ⟨rfl, hb⟩
        have HB2 : Hid (Below w.heap.size w w2) := HB0.out.trans (hb.mono HB0.out.size)
        have d3 := cell_up hb d0
        have d4 := cell_up hb d1
        have hbk := World.block_lt_of_cell? _ _ d4
        clear hb
        have k5 : (kv : Int) < 5 := by omega
        go_wp2_with fail
        go_region_with (first
          | (go_at_call 30
             refine (c_ruFields _).mono ?_
             rintro e' w3 ⟨gf, rfl, hg3, hf3, hb3⟩
             have q5 := hf3 kv (by omega)
             rw [HS.out] at q5
             have d5 := cell_up hb3 (show w2.drew.cell? _ = _ from d4)
             have HB3 : Hid (Below w.heap.size w w3) := HB2.out.drew.trans (hb3.mono HB2.out.drew.size)
             clear hf3 hb3))
        all_goals go_wp2
        all_goals go_ret
        all_goals exact ⟨rfl, HB3.out⟩
      · have E : Hid (par false S = S) := rfl
        rw [decide_eq_false hlv, E.out]
        go_enter Tryd.func18, Tryd.ntmps18
        go_wp2_with fail
        go_region
        generalize (w.alloc (.cells #[.int .i64 1, .int .i64 (kv : Int)] 33)).drew = W at *
        obtain ⟨d0, d1⟩ := HP0.out
        go_wp2_with fail
        refine (c_ruLevel _ _).mono ?_
        rintro e' w1 ⟨rfl, rfl⟩
        simp only [bindK]
        go_wp2_with fail
        refine (CN.out _).mono ?_
        rintro e' w2 ⟨rfl, hb⟩
        have HB2 : Hid (Below w.heap.size w w2) := HB0.out.trans (hb.mono HB0.out.size)
        have d3 := cell_up hb d0
        have d4 := cell_up hb d1
        have hbk := World.block_lt_of_cell? _ _ d4
        clear hb
        have k5 : (kv : Int) < 5 := by omega
        go_wp2_with fail
        go_region_with (first
          | (go_at_call 30
             refine (c_ruFields _).mono ?_
             rintro e' w3 ⟨gf, rfl, hg3, hf3, hb3⟩
             have q5 := hf3 kv (by omega)
             rw [HS.out] at q5
             have d5 := cell_up hb3 (show w2.drew.cell? _ = _ from d4)
             have HB3 : Hid (Below w.heap.size w w3) := HB2.out.drew.trans (hb3.mono HB2.out.drew.size)
             clear hf3 hb3))
        all_goals go_wp2
        all_goals go_ret
        all_goals exact ⟨rfl, HB3.out⟩
    · have hm2 : m' = 2 := by rw [← hnd]; rfl
      obtain ⟨x0, ⟨h0, hA0, p0⟩, c0, z0⟩ := HE.out 0 (by omega)
      obtain ⟨x1, ⟨h1, hA1, p1⟩, c1, z1⟩ := HE.out 1 (by omega)
      subst hA0
      simp at hA1
      subst hA1
      subst hm2
      have C := c_show2 vv n g gc b off c e c' h0 x0 x1 lv (X 0 1) (X 1 2) w i1 i2 q0 q1 q2 p0 p1 (z0 1) (z1 2) (c0 1) (c1 2)
      rw [topX_two (by omega) (by omega) (by omega)]
      have E : X 0 (bindK 2) ++ sgn3 (2 : Int).toNat ++ X 1 (bindK 2 + 1) = X 0 1 ++ ⟨#[32]⟩ ++ ⟨#[43]⟩ ++ ⟨#[32]⟩ ++ X 1 2 := by
        show X 0 1 ++ (⟨#[32]⟩ ++ ⟨#[43]⟩ ++ ⟨#[32]⟩) ++ X 1 2 = _
        simp only [ByteArray.append_assoc]
      rw [E]
      exact C
    · have hm2 : m' = 2 := by rw [← hnd]; rfl
      obtain ⟨x0, ⟨h0, hA0, p0⟩, c0, z0⟩ := HE.out 0 (by omega)
      obtain ⟨x1, ⟨h1, hA1, p1⟩, c1, z1⟩ := HE.out 1 (by omega)
      subst hA0
      simp at hA1
      subst hA1
      subst hm2
      have C := c_show3 vv n g gc b off c e c' h0 x0 x1 lv (X 0 1) (X 1 2) w i1 i2 q0 q1 q2 p0 p1 (z0 1) (z1 2) (c0 1) (c1 2)
      rw [topX_two (by omega) (by omega) (by omega)]
      have E : X 0 (bindK 3) ++ sgn3 (3 : Int).toNat ++ X 1 (bindK 3 + 1) = X 0 1 ++ ⟨#[32]⟩ ++ ⟨#[45]⟩ ++ ⟨#[32]⟩ ++ X 1 2 := by
        show X 0 1 ++ (⟨#[32]⟩ ++ ⟨#[45]⟩ ++ ⟨#[32]⟩) ++ X 1 2 = _
        simp only [ByteArray.append_assoc]
      rw [E]
      exact C
    · have hm2 : m' = 2 := by rw [← hnd]; rfl
      obtain ⟨x0, ⟨h0, hA0, p0⟩, c0, z0⟩ := HE.out 0 (by omega)
      obtain ⟨x1, ⟨h1, hA1, p1⟩, c1, z1⟩ := HE.out 1 (by omega)
      subst hA0
      simp at hA1
      subst hA1
      subst hm2
      have C := c_show4 vv n g gc b off c e c' h0 x0 x1 lv (X 0 2) (X 1 3) w i1 i2 q0 q1 q2 p0 p1 (z0 2) (z1 3) (c0 2) (c1 3)
      rw [topX_two (by omega) (by omega) (by omega)]
      have E : X 0 (bindK 4) ++ sgn3 (4 : Int).toNat ++ X 1 (bindK 4 + 1) = X 0 2 ++ ⟨#[32]⟩ ++ ⟨#[42]⟩ ++ ⟨#[32]⟩ ++ X 1 3 := by
        show X 0 2 ++ (⟨#[32]⟩ ++ ⟨#[42]⟩ ++ ⟨#[32]⟩) ++ X 1 3 = _
        simp only [ByteArray.append_assoc]
      rw [E]
      exact C
    · have hm2 : m' = 2 := by rw [← hnd]; rfl
      obtain ⟨x0, ⟨h0, hA0, p0⟩, c0, z0⟩ := HE.out 0 (by omega)
      obtain ⟨x1, ⟨h1, hA1, p1⟩, c1, z1⟩ := HE.out 1 (by omega)
      subst hA0
      simp at hA1
      subst hA1
      subst hm2
      have C := c_show5 vv n g gc b off c e c' h0 x0 x1 lv (X 0 2) (X 1 3) w i1 i2 q0 q1 q2 p0 p1 (z0 2) (z1 3) (c0 2) (c1 3)
      rw [topX_two (by omega) (by omega) (by omega)]
      have E : X 0 (bindK 5) ++ sgn3 (5 : Int).toNat ++ X 1 (bindK 5 + 1) = X 0 2 ++ ⟨#[32]⟩ ++ ⟨#[47]⟩ ++ ⟨#[32]⟩ ++ X 1 3 := by
        show X 0 2 ++ (⟨#[32]⟩ ++ ⟨#[47]⟩ ++ ⟨#[32]⟩) ++ X 1 3 = _
        simp only [ByteArray.append_assoc]
      rw [E]
      exact C
    · have hm2 : m' = 4 := by rw [← hnd]; rfl
      obtain ⟨x0, ⟨h0, hA0, p0⟩, c0, z0⟩ := HE.out 0 (by omega)
      obtain ⟨x1, ⟨h1, hA1, p1⟩, c1, z1⟩ := HE.out 1 (by omega)
      obtain ⟨x2, ⟨h2, hA2, p2⟩, c2, z2⟩ := HE.out 2 (by omega)
      obtain ⟨x3, ⟨h3, hA3, p3⟩, c3, z3⟩ := HE.out 3 (by omega)
      subst hA0
      simp at hA1
      subst hA1
      simp at hA2
      subst hA2
      simp at hA3
      subst hA3
      subst hm2
      have C := c_show6 vv n g gc b off c e c' h0 x0 x1 x2 x3 lv (X 0 1) (X 1 1) (X 2 0) (X 3 0) w i1 i2 q0 q1 q2 p0 p1 p2 p3 (z0 1) (z1 1) (z2 0) (z3 0) (c0 1) (c1 1) (c2 0) (c3 0)
      rw [topX_four (by omega) (by omega) (by omega)]
      have E : ⟨#[105, 102, 32]⟩ ++ (X 0 1 ++ sgn3 (6 : Int).toNat ++ X 1 1) ++ ⟨#[32, 116, 104, 101, 110, 32]⟩ ++ X 2 0 ++ ⟨#[32, 101, 108, 115, 101, 32]⟩ ++ X 3 0 = ⟨#[105, 102, 32]⟩ ++ X 0 1 ++ ⟨#[32]⟩ ++ ⟨#[60]⟩ ++ ⟨#[32]⟩ ++ X 1 1 ++ ⟨#[32, 116, 104, 101, 110, 32]⟩ ++ X 2 0 ++ ⟨#[32, 101, 108, 115, 101, 32]⟩ ++ X 3 0 := by
        show ⟨#[105, 102, 32]⟩ ++ (X 0 1 ++ (⟨#[32]⟩ ++ ⟨#[60]⟩ ++ ⟨#[32]⟩) ++ X 1 1) ++ _ ++ X 2 0 ++ _ ++ X 3 0 = _
        simp only [ByteArray.append_assoc]
      rw [E]
      exact C
    · have hm2 : m' = 4 := by rw [← hnd]; rfl
      obtain ⟨x0, ⟨h0, hA0, p0⟩, c0, z0⟩ := HE.out 0 (by omega)
      obtain ⟨x1, ⟨h1, hA1, p1⟩, c1, z1⟩ := HE.out 1 (by omega)
      obtain ⟨x2, ⟨h2, hA2, p2⟩, c2, z2⟩ := HE.out 2 (by omega)
      obtain ⟨x3, ⟨h3, hA3, p3⟩, c3, z3⟩ := HE.out 3 (by omega)
      subst hA0
      simp at hA1
      subst hA1
      simp at hA2
      subst hA2
      simp at hA3
      subst hA3
      subst hm2
      have C := c_show7 vv n g gc b off c e c' h0 x0 x1 x2 x3 lv (X 0 1) (X 1 1) (X 2 0) (X 3 0) w i1 i2 q0 q1 q2 p0 p1 p2 p3 (z0 1) (z1 1) (z2 0) (z3 0) (c0 1) (c1 1) (c2 0) (c3 0)
      rw [topX_four (by omega) (by omega) (by omega)]
      have E : ⟨#[105, 102, 32]⟩ ++ (X 0 1 ++ sgn3 (7 : Int).toNat ++ X 1 1) ++ ⟨#[32, 116, 104, 101, 110, 32]⟩ ++ X 2 0 ++ ⟨#[32, 101, 108, 115, 101, 32]⟩ ++ X 3 0 = ⟨#[105, 102, 32]⟩ ++ X 0 1 ++ ⟨#[32]⟩ ++ ⟨#[61]⟩ ++ ⟨#[32]⟩ ++ X 1 1 ++ ⟨#[32, 116, 104, 101, 110, 32]⟩ ++ X 2 0 ++ ⟨#[32, 101, 108, 115, 101, 32]⟩ ++ X 3 0 := by
        show ⟨#[105, 102, 32]⟩ ++ (X 0 1 ++ (⟨#[32]⟩ ++ ⟨#[61]⟩ ++ ⟨#[32]⟩) ++ X 1 1) ++ _ ++ X 2 0 ++ _ ++ X 3 0 = _
        simp only [ByteArray.append_assoc]
      rw [E]
      exact C
    · have hm2 : m' = 4 := by rw [← hnd]; rfl
      obtain ⟨x0, ⟨h0, hA0, p0⟩, c0, z0⟩ := HE.out 0 (by omega)
      obtain ⟨x1, ⟨h1, hA1, p1⟩, c1, z1⟩ := HE.out 1 (by omega)
      obtain ⟨x2, ⟨h2, hA2, p2⟩, c2, z2⟩ := HE.out 2 (by omega)
      obtain ⟨x3, ⟨h3, hA3, p3⟩, c3, z3⟩ := HE.out 3 (by omega)
      subst hA0
      simp at hA1
      subst hA1
      simp at hA2
      subst hA2
      simp at hA3
      subst hA3
      subst hm2
      have C := c_show8 vv n g gc b off c e c' h0 x0 x1 x2 x3 lv (X 0 1) (X 1 1) (X 2 0) (X 3 0) w i1 i2 q0 q1 q2 p0 p1 p2 p3 (z0 1) (z1 1) (z2 0) (z3 0) (c0 1) (c1 1) (c2 0) (c3 0)
      rw [topX_four (by omega) (by omega) (by omega)]
      have E : ⟨#[105, 102, 32]⟩ ++ (X 0 1 ++ sgn3 (8 : Int).toNat ++ X 1 1) ++ ⟨#[32, 116, 104, 101, 110, 32]⟩ ++ X 2 0 ++ ⟨#[32, 101, 108, 115, 101, 32]⟩ ++ X 3 0 = ⟨#[105, 102, 32]⟩ ++ X 0 1 ++ ⟨#[32]⟩ ++ ⟨#[62]⟩ ++ ⟨#[32]⟩ ++ X 1 1 ++ ⟨#[32, 116, 104, 101, 110, 32]⟩ ++ X 2 0 ++ ⟨#[32, 101, 108, 115, 101, 32]⟩ ++ X 3 0 := by
        show ⟨#[105, 102, 32]⟩ ++ (X 0 1 ++ (⟨#[32]⟩ ++ ⟨#[62]⟩ ++ ⟨#[32]⟩) ++ X 1 1) ++ _ ++ X 2 0 ++ _ ++ X 3 0 = _
        simp only [ByteArray.append_assoc]
      rw [E]
      exact C
end Go.Proofs.YtdgkgnlilcbggaaDoor
