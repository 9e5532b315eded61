/-
  Contracts: the text of a rule, in the program.
-/
import Derived.Test.YtdgkgnlilcbggaaDoorPX
import Derived.Test.YtdgkgnlilcbggaaDoorE4
import Derived.Test.YtdgkgnlilcbggaaDoorGrow
import Derived.BigQuiet
import Derived.Deep.RegionWith
namespace Go.Proofs.YtdgkgnlilcbggaaDoor
open Go.RowKit
set_option linter.unusedVariables false
set_option linter.unusedSimpArgs false

theorem cell_up {w u : World} (hu : Below w.heap.size w u) {b o : Nat} {x : Value} (h : w.cell? ⟨b, o, none⟩ = some x) : u.cell? ⟨b, o, none⟩ = some x := by
  rw [hu.cell (p := ⟨b, o, none⟩) (World.block_lt_of_cell? w ⟨b, o, none⟩ h)]
  exact h
/-- The tables of the names of fields, of the signs, and of strconv. -/
structure RT (w : World) : Prop where
  f : ∀ i : Nat, i < 5 → w.cell? ⟨0, i, none⟩ = some (.string (fnm i))
  s : ∀ i : Nat, i < 9 → w.cell? ⟨1, i, none⟩ = some (.string (sgm i))
  t : TB w
theorem RT.below {w u : World} (h : RT w) (hu : Below w.heap.size w u) : RT u := ⟨fun i hi => cell_up hu (h.f i hi), fun i hi => cell_up hu (h.s i hi), tabIs_below h.t hu⟩

set_option maxHeartbeats 4000000 in
set_option maxRecDepth 100000 in
theorem c_textAt (s : ByteArray) (b o p c : Nat) (kk β : Int) (w : World) (hp : p ≤ 1048576) (hb : b < w.heap.size) (k0 : 0 ≤ kk) (k8 : kk ≤ 8) (hs : s.size ≤ 100000) (hc : w.cell? ⟨b, o + p * 2, none⟩ = some (.int .i64 kk))
    (hC : Calls Tryd.prog 23 #[.slice (some ⟨b, o, none⟩) (p + 1) c] w fun e w' => e = .returned (.string s) ∧ Below w.heap.size w w') :
    Calls Tryd.prog 13 #[.slice (some ⟨b, o, none⟩) (p + 1) c, .int .i64 β] w fun e w' => e = .returned (.string (par (decide (bindK kk < β)) s)) ∧ Below w.heap.size w w' := by
  have C := Lib.hid hC
  have CB := Lib.hid (c_bindingOf kk w k0 k8)
  have a1 := addsT ⟨#[40, 32]⟩ s (by show 2 + _ ≤ _; omega)
  have a2 := addsT (⟨#[40, 32]⟩ ++ s) ⟨#[32, 41]⟩ (by rw [ByteArray.size_append]; show 2 + _ + 2 ≤ _; omega)
  clear hC
  generalize bindK kk = bk at *
  by_cases h : bk < β
  · rw [decide_eq_true h]
    have E : Hid (par true s = ⟨#[40, 32]⟩ ++ s ++ ⟨#[32, 41]⟩) := rfl
    rw [E.out]
    go_enter Tryd.func13, Tryd.ntmps13
    go_wp2_with fail
    refine CB.out.mono ?_
    rintro e w1 ⟨rfl, rfl⟩
    go_wp2_with fail
    refine C.out.mono ?_
    rintro e w1 ⟨rfl, hb1⟩
    have HB := Lib.hid hb1
    clear hb1
    go_wp2
    go_ret
    exact ⟨rfl, HB.out⟩
  · rw [decide_eq_false h]
    have E : Hid (par false s = s) := rfl
    rw [E.out]
    go_enter Tryd.func13, Tryd.ntmps13
    go_wp2_with fail
    refine CB.out.mono ?_
    rintro e w1 ⟨rfl, rfl⟩
    go_wp2_with fail
    refine C.out.mono ?_
    rintro e w1 ⟨rfl, hb1⟩
    have HB := Lib.hid hb1
    clear hb1
    go_wp2
    go_ret
    exact ⟨rfl, HB.out⟩

theorem bindK_nonneg (k : Int) : ¬ bindK k < 0 := by
  unfold bindK
  split
  · omega
  · split
    · omega
    · split <;> omega

set_option maxHeartbeats 16000000 in
set_option maxRecDepth 100000 in
theorem c_bareText (ks vs : Nat → Int) (b K : Nat) : ∀ (t : Tr) (o lo c e : Nat) (w : World), t.size ≤ K → At ks t e → lo + t.size = e + 1 → t.size ≤ 39 → t.size ≤ c → b < w.heap.size → RT w →
    (∀ j : Nat, j < t.size → 0 ≤ ks (lo + j) ∧ ks (lo + j) ≤ 8) →
    (∀ j : Nat, j < t.size → (ks (lo + j) = 0 → 0 ≤ vs (lo + j) ∧ vs (lo + j) ≤ 1000000) ∧ (ks (lo + j) = 1 → 0 ≤ vs (lo + j) ∧ vs (lo + j) ≤ 4)) →
    (∀ j : Nat, j < t.size → w.cell? ⟨b, o + j * 2, none⟩ = some (.int .i64 (ks (lo + j))) ∧ w.cell? ⟨b, o + j * 2 + 1, none⟩ = some (.int .i64 (vs (lo + j)))) →
    Calls Tryd.prog 23 #[.slice (some ⟨b, o, none⟩) t.size c] w fun e' w' => e' = .returned (.string (tx ks vs t e)) ∧ Below w.heap.size w w' := by
  induction K with
  | zero =>
    intro t o lo c e w hK
    have := t.size_pos
    omega
  | succ K IHK =>
    intro t o lo c e w hK hA hlo hl hc hb hrt hv hp hcell
    obtain ⟨m, kd, of, S, hm4, hsm, _, hsz, _, htx⟩ := tx_split (vs := vs) hA hlo
    have IB : Hid (∀ (j : Nat) (u : World), j < m → Below w.heap.size w u → Calls Tryd.prog 23 #[.slice (some ⟨b, o + of j * 2, none⟩) (kd j).size (c - of j)] u fun e' w' => e' = .returned (.string (tx ks vs (kd j) (lo + of (j + 1) - 1))) ∧ Below u.heap.size u w') := fun j u hj hu => by
      have h1 := hsm j hj
      have h2 := S.next j hj
      have h3 := S.le (j := j + 1) (by omega)
      have h4 := (kd j).size_pos
      refine IHK (kd j) (o + of j * 2) (lo + of j) (c - of j) (lo + of (j + 1) - 1) u (by omega) (S.at_ j hj) (by omega) (by omega) (by omega) (Nat.lt_of_lt_of_le hb hu.size) (hrt.below hu) (fun q hq => ?_) (fun q hq => ?_) (fun q hq => ?_)
      · rw [Nat.add_assoc]; exact hv _ (by omega)
      · rw [Nat.add_assoc]; exact hp _ (by omega)
      · rw [hu.cell (p := ⟨b, o + of j * 2 + q * 2, none⟩) hb, hu.cell (p := ⟨b, o + of j * 2 + q * 2 + 1, none⟩) hb, show o + of j * 2 + q * 2 = o + (of j + q) * 2 by omega, Nat.add_assoc]
        exact hcell _ (by omega)
    have IS : Hid (∀ j, j < m → (tx ks vs (kd j) (lo + of (j + 1) - 1)).size ≤ 1560) := fun j hj => by
      have h1 := hsm j hj
      have h2 := S.next j hj
      have h3 := S.le (j := j + 1) (by omega)
      have h4 := (kd j).size_pos
      have := tx_size ks vs (kd j).size (kd j) (lo + of (j + 1) - 1) (lo + of j) (Nat.le_refl _) (S.at_ j hj) (by omega) (fun q hq h0 => by rw [Nat.add_assoc] at h0 ⊢; exact (hp _ (by omega)).1 h0)
      omega
    have IX : Hid (∀ j β, j < m → (kX ks vs lo kd of j β).size ≤ 2000) := fun j β hj => by
      have h1 := IS.out j hj
      have h2 := par_size (decide (bindK (ks (lo + of (j + 1) - 1)) < β)) (tx ks vs (kd j) (lo + of (j + 1) - 1))
      show (par _ _).size ≤ _
      omega
    have IT : Hid (∀ (j : Nat) (β : Int) (u : World), j < m → Below w.heap.size w u → Calls Tryd.prog 13 #[.slice (some ⟨b, o + of j * 2, none⟩) (kd j).size (c - of j), .int .i64 β] u fun e' w' => e' = .returned (.string (kX ks vs lo kd of j β)) ∧ Below u.heap.size u w') := fun j β u hj hu => by
      have h1 := hsm j hj
      have h2 := S.next j hj
      have h3 := S.le (j := j + 1) (by omega)
      obtain ⟨z, hz⟩ : ∃ z, (kd j).size = z + 1 := ⟨(kd j).size - 1, by have := (kd j).size_pos; omega⟩
      have hi : lo + of (j + 1) - 1 = lo + (of j + z) := by omega
      obtain ⟨v1, v2⟩ := hv (of j + z) (by omega)
      have hb' := IB.out j u hj hu
      have hs' := IS.out j hj
      have hcl := (hcell (of j + z) (by omega)).1
      unfold kX
      rw [hz] at hb' ⊢
      rw [hi] at hb' hs' ⊢
      exact c_textAt _ b (o + of j * 2) z (c - of j) (ks (lo + (of j + z))) β u (by omega) (Nat.lt_of_lt_of_le hb hu.size) v1 v2 (by omega) (by rw [hu.cell (p := ⟨b, o + of j * 2 + z * 2, none⟩) hb, show o + of j * 2 + z * 2 = o + (of j + z) * 2 by omega]; exact hcl) hb'
    have IC : Hid (∀ (j : Nat) (u : World), j < m → Below w.heap.size w u → Calls Tryd.prog 23 #[.slice (some ⟨b, o + of j * 2, none⟩) (kd j).size (c - of j)] u fun e' w' => e' = .returned (.string (kX ks vs lo kd of j 0)) ∧ Below u.heap.size u w') := fun j u hj hu => by
      have : kX ks vs lo kd of j 0 = tx ks vs (kd j) (lo + of (j + 1) - 1) := by
        unfold kX
        rw [decide_eq_false (bindK_nonneg _)]
        rfl
      rw [this]
      exact IB.out j u hj hu
    have CN : Hid (∀ u, Below w.heap.size w u → Calls Tryd.prog 33 #[.slice (some ⟨b, o, none⟩) t.size c] u (GivesWins u b o c m kd of)) := fun u hu =>
      c_neededRules ks b o lo t.size c m kd of u S hm4 (by omega) hc (Nat.lt_of_lt_of_le hb hu.size) hv (fun j hj => by rw [hu.cell (p := ⟨b, o + j * 2, none⟩) hb]; exact (hcell j hj).1)
    have hnd : ndK (ks e) = m := by have := S.nd; rw [show lo + t.size - 1 = e by omega] at this; exact this
    have hlast := S.last
    have hee : lo + of m = e := by omega
    obtain ⟨q0, q1⟩ := hcell (of m) (by omega)
    obtain ⟨k0, k8⟩ := hv (of m) (by omega)
    obtain ⟨v0, v1⟩ := hp (of m) (by omega)
    rw [hee] at q0 q1 k0 k8 v0 v1
    rw [htx]
    have HT := Lib.hid hrt
    clear htx hee IHK hA hlo hv hp hcell hsm S IB IS hrt
    generalize kX ks vs lo kd of = X at *
    generalize t.size = n at *
    generalize ks e = kk at *
    generalize vs e = vv at *
    obtain rfl : n = of m + 1 := hlast.symm
    have hl39 : of m ≤ 39 := by omega
    clear hlast hsz
    have HBA : Hid (Below w.heap.size w (w.alloc (.cells #[.int .i64 kk, .int .i64 vv] 33))) := (Below.refl _ _).alloc (Nat.le_refl _) _
    have HD : Hid ((w.alloc (.cells #[.int .i64 kk, .int .i64 vv] 33)).cell? ⟨w.heap.size, 0, none⟩ = some (.int .i64 kk)) := by show _ = _; simp
    rcases (show kk = 0 ∨ kk = 1 ∨ kk = 2 ∨ kk = 3 ∨ kk = 4 ∨ kk = 5 ∨ kk = 6 ∨ kk = 7 ∨ kk = 8 by omega) with rfl | rfl | rfl | rfl | rfl | rfl | rfl | rfl | rfl
    · obtain ⟨a0, a1⟩ := v0 rfl
      have E : Hid (topX 0 vv X = itS vv) := rfl
      rw [E.out]
      have CI := Lib.hid (fun u hu => c_ItoaT vv u (by omega) a1 (tabIs_below HT.out.t hu))
      clear v0 v1 IX IT IC CN hnd HD
      go_enter Tryd.func23, Tryd.ntmps23
      go_wp2_with fail
      refine (CI.out _ HBA.out).mono ?_
      rintro e w1 ⟨rfl, hb1⟩
      have HB : Hid (Below w.heap.size w w1) := HBA.out.trans (hb1.mono HBA.out.size)
      clear hb1
      go_wp2
      go_ret
      exact ⟨rfl, HB.out⟩
    · obtain ⟨a0, a1⟩ := v1 rfl
      obtain ⟨kv, rfl⟩ := Int.eq_ofNat_of_zero_le a0
      have f0 := HT.out.f kv (by omega)
      have f1 := World.block_lt_of_cell? w ⟨0, kv, none⟩ f0
      have E : Hid (topX 1 (kv : Int) X = fnm kv) := rfl
      rw [E.out]
      have i2 : (kv : Int) < 5 := by omega
      clear v0 v1 IX IT IC CN hnd HD
      generalize fnm kv = S at *
      go_enter Tryd.func23, Tryd.ntmps23
      go_wp2
      go_ret
      exact ⟨rfl, HBA.out⟩
    · obtain rfl : m = 2 := hnd.symm
      have E : Hid (topX 2 vv X = X 0 1 ++ sgn3 2 ++ X 1 2) := rfl
      rw [E.out]
      have hsg := sgm_size 2
      have hs3 := sgn3_size 2
      have E3 : Hid (sgn3 2 = ⟨#[32]⟩ ++ sgm 2 ++ ⟨#[32]⟩) := rfl
      have b1 := addsT ⟨#[32]⟩ (sgm 2) (by show 1 + _ ≤ _; omega)
      have b2 := addsT (⟨#[32]⟩ ++ sgm 2) ⟨#[32]⟩ (by rw [ByteArray.size_append]; show 1 + _ + 1 ≤ _; omega)
      rw [← E3.out] at b2
      have HS := Lib.hid (fun (u : World) (hu : Below w.heap.size w u) => (HT.out.below hu).s 2 (by omega))
      have x0 := IX.out 0 1 (by omega)
      have C0 := Lib.hid (fun u hu => IT.out 0 1 u (by omega) hu)
      have x1 := IX.out 1 2 (by omega)
      have C1 := Lib.hid (fun u hu => IT.out 1 2 u (by omega) hu)
      clear v0 v1 IX IT IC hnd hsg HT E3
      generalize X 0 1 = X0 at *
      generalize X 1 2 = X1 at *
      generalize sgn3 2 = s3 at *
      generalize sgm 2 = sg at *
      have a1 := addsT X0 s3 (by omega)
      have a2 := addsT (X0 ++ s3) X1 (by simp only [ByteArray.size_append]; omega)
      clear hs3 x0 x1
      obtain ⟨z0, hz0⟩ : ∃ z, (kd 0).size = z := ⟨_, rfl⟩
      obtain ⟨p0, hp0⟩ : ∃ p, of 0 = p := ⟨_, rfl⟩
      rw [hz0, hp0] at C0
      obtain ⟨z1, hz1⟩ : ∃ z, (kd 1).size = z := ⟨_, rfl⟩
      obtain ⟨p1, hp1⟩ : ∃ p, of 1 = p := ⟨_, rfl⟩
      rw [hz1, hp1] at C1
      have CB := Lib.hid (fun u => c_bindingOf 2 u (by omega) (by omega))
      simp only [bindK] at CB
      go_enter Tryd.func23, Tryd.ntmps23
      go_wp2_with fail
      refine (CN.out _ HBA.out).mono ?_
      rintro e w1 ⟨g, rfl, hg0, hg1, hb1, hcs⟩
      have HB1 : Hid (Below w.heap.size w w1) := HBA.out.trans (hb1.mono HBA.out.size)
      have d0 := cell_up hb1 HD.out
      have d1 := HS.out w1 HB1.out
      have c0 := hcs 0 (by omega)
      rw [hz0, hp0] at c0
      have c1 := hcs 1 (by omega)
      rw [hz1, hp1] at c1
      have HW : Hid (∀ u, Below w.heap.size w (wOf w1 u)) := fun u => HB1.out.trans ((wOf_below w1 u).mono HB1.out.size)
      clear hb1 hcs HS HD HBA CN hz0 hp0 hz1 hp1
      go_wp2_with fail
      refine (CB.out _).mono ?_
      rintro e w2 ⟨rfl, rfl⟩
      go_wp2_with fail
      refine wp_region_grow (by kernel_rfl) (by kernel_rfl) ?_
      repeat (go_big_quiet_step ((first | (go_at_call_of 13 (Value.slice (some ⟨b, o + p0 * 2, none⟩) z0 (c - p0)); exact grow_of (C0.out _ (HW.out _))) | (go_at_call_of 13 (Value.slice (some ⟨b, o + p1 * 2, none⟩) z1 (c - p1)); exact grow_of (C1.out _ (HW.out _))))))
      refine wpQuiet_nil ?_
      intro _ hw'
      obtain ⟨u, hw''⟩ := hw'
      subst hw''
      have HF := HW.out u
      generalize wOf w1 u = w9 at HF ⊢
      go_wp2
      go_ret
      exact ⟨rfl, HF⟩
    · obtain rfl : m = 2 := hnd.symm
      have E : Hid (topX 3 vv X = X 0 1 ++ sgn3 3 ++ X 1 2) := rfl
      rw [E.out]
      have hsg := sgm_size 3
      have hs3 := sgn3_size 3
      have E3 : Hid (sgn3 3 = ⟨#[32]⟩ ++ sgm 3 ++ ⟨#[32]⟩) := rfl
      have b1 := addsT ⟨#[32]⟩ (sgm 3) (by show 1 + _ ≤ _; omega)
      have b2 := addsT (⟨#[32]⟩ ++ sgm 3) ⟨#[32]⟩ (by rw [ByteArray.size_append]; show 1 + _ + 1 ≤ _; omega)
      rw [← E3.out] at b2
      have HS := Lib.hid (fun (u : World) (hu : Below w.heap.size w u) => (HT.out.below hu).s 3 (by omega))
      have x0 := IX.out 0 1 (by omega)
      have C0 := Lib.hid (fun u hu => IT.out 0 1 u (by omega) hu)
      have x1 := IX.out 1 2 (by omega)
      have C1 := Lib.hid (fun u hu => IT.out 1 2 u (by omega) hu)
      clear v0 v1 IX IT IC hnd hsg HT E3
      generalize X 0 1 = X0 at *
      generalize X 1 2 = X1 at *
      generalize sgn3 3 = s3 at *
      generalize sgm 3 = sg at *
      have a1 := addsT X0 s3 (by omega)
      have a2 := addsT (X0 ++ s3) X1 (by simp only [ByteArray.size_append]; omega)
      clear hs3 x0 x1
      obtain ⟨z0, hz0⟩ : ∃ z, (kd 0).size = z := ⟨_, rfl⟩
      obtain ⟨p0, hp0⟩ : ∃ p, of 0 = p := ⟨_, rfl⟩
      rw [hz0, hp0] at C0
      obtain ⟨z1, hz1⟩ : ∃ z, (kd 1).size = z := ⟨_, rfl⟩
      obtain ⟨p1, hp1⟩ : ∃ p, of 1 = p := ⟨_, rfl⟩
      rw [hz1, hp1] at C1
      have CB := Lib.hid (fun u => c_bindingOf 3 u (by omega) (by omega))
      simp only [bindK] at CB
      go_enter Tryd.func23, Tryd.ntmps23
      go_wp2_with fail
      refine (CN.out _ HBA.out).mono ?_
      rintro e w1 ⟨g, rfl, hg0, hg1, hb1, hcs⟩
      have HB1 : Hid (Below w.heap.size w w1) := HBA.out.trans (hb1.mono HBA.out.size)
      have d0 := cell_up hb1 HD.out
      have d1 := HS.out w1 HB1.out
      have c0 := hcs 0 (by omega)
      rw [hz0, hp0] at c0
      have c1 := hcs 1 (by omega)
      rw [hz1, hp1] at c1
      have HW : Hid (∀ u, Below w.heap.size w (wOf w1 u)) := fun u => HB1.out.trans ((wOf_below w1 u).mono HB1.out.size)
      clear hb1 hcs HS HD HBA CN hz0 hp0 hz1 hp1
      go_wp2_with fail
      refine (CB.out _).mono ?_
      rintro e w2 ⟨rfl, rfl⟩
      go_wp2_with fail
      refine wp_region_grow (by kernel_rfl) (by kernel_rfl) ?_
      repeat (go_big_quiet_step ((first | (go_at_call_of 13 (Value.slice (some ⟨b, o + p0 * 2, none⟩) z0 (c - p0)); exact grow_of (C0.out _ (HW.out _))) | (go_at_call_of 13 (Value.slice (some ⟨b, o + p1 * 2, none⟩) z1 (c - p1)); exact grow_of (C1.out _ (HW.out _))))))
      refine wpQuiet_nil ?_
      intro _ hw'
      obtain ⟨u, hw''⟩ := hw'
      subst hw''
      have HF := HW.out u
      generalize wOf w1 u = w9 at HF ⊢
      go_wp2
      go_ret
      exact ⟨rfl, HF⟩
    · obtain rfl : m = 2 := hnd.symm
      have E : Hid (topX 4 vv X = X 0 2 ++ sgn3 4 ++ X 1 3) := rfl
      rw [E.out]
      have hsg := sgm_size 4
      have hs3 := sgn3_size 4
      have E3 : Hid (sgn3 4 = ⟨#[32]⟩ ++ sgm 4 ++ ⟨#[32]⟩) := rfl
      have b1 := addsT ⟨#[32]⟩ (sgm 4) (by show 1 + _ ≤ _; omega)
      have b2 := addsT (⟨#[32]⟩ ++ sgm 4) ⟨#[32]⟩ (by rw [ByteArray.size_append]; show 1 + _ + 1 ≤ _; omega)
      rw [← E3.out] at b2
      have HS := Lib.hid (fun (u : World) (hu : Below w.heap.size w u) => (HT.out.below hu).s 4 (by omega))
      have x0 := IX.out 0 2 (by omega)
      have C0 := Lib.hid (fun u hu => IT.out 0 2 u (by omega) hu)
      have x1 := IX.out 1 3 (by omega)
      have C1 := Lib.hid (fun u hu => IT.out 1 3 u (by omega) hu)
      clear v0 v1 IX IT IC hnd hsg HT E3
      generalize X 0 2 = X0 at *
      generalize X 1 3 = X1 at *
      generalize sgn3 4 = s3 at *
      generalize sgm 4 = sg at *
      have a1 := addsT X0 s3 (by omega)
      have a2 := addsT (X0 ++ s3) X1 (by simp only [ByteArray.size_append]; omega)
      clear hs3 x0 x1
      obtain ⟨z0, hz0⟩ : ∃ z, (kd 0).size = z := ⟨_, rfl⟩
      obtain ⟨p0, hp0⟩ : ∃ p, of 0 = p := ⟨_, rfl⟩
      rw [hz0, hp0] at C0
      obtain ⟨z1, hz1⟩ : ∃ z, (kd 1).size = z := ⟨_, rfl⟩
      obtain ⟨p1, hp1⟩ : ∃ p, of 1 = p := ⟨_, rfl⟩
      rw [hz1, hp1] at C1
      have CB := Lib.hid (fun u => c_bindingOf 4 u (by omega) (by omega))
      simp only [bindK] at CB
      go_enter Tryd.func23, Tryd.ntmps23
      go_wp2_with fail
      refine (CN.out _ HBA.out).mono ?_
      rintro e w1 ⟨g, rfl, hg0, hg1, hb1, hcs⟩
      have HB1 : Hid (Below w.heap.size w w1) := HBA.out.trans (hb1.mono HBA.out.size)
      have d0 := cell_up hb1 HD.out
      have d1 := HS.out w1 HB1.out
      have c0 := hcs 0 (by omega)
      rw [hz0, hp0] at c0
      have c1 := hcs 1 (by omega)
      rw [hz1, hp1] at c1
      have HW : Hid (∀ u, Below w.heap.size w (wOf w1 u)) := fun u => HB1.out.trans ((wOf_below w1 u).mono HB1.out.size)
      clear hb1 hcs HS HD HBA CN hz0 hp0 hz1 hp1
      go_wp2_with fail
      refine (CB.out _).mono ?_
      rintro e w2 ⟨rfl, rfl⟩
      go_wp2_with fail
      refine wp_region_grow (by kernel_rfl) (by kernel_rfl) ?_
      repeat (go_big_quiet_step ((first | (go_at_call_of 13 (Value.slice (some ⟨b, o + p0 * 2, none⟩) z0 (c - p0)); exact grow_of (C0.out _ (HW.out _))) | (go_at_call_of 13 (Value.slice (some ⟨b, o + p1 * 2, none⟩) z1 (c - p1)); exact grow_of (C1.out _ (HW.out _))))))
      refine wpQuiet_nil ?_
      intro _ hw'
      obtain ⟨u, hw''⟩ := hw'
      subst hw''
      have HF := HW.out u
      generalize wOf w1 u = w9 at HF ⊢
      go_wp2
      go_ret
      exact ⟨rfl, HF⟩
    · obtain rfl : m = 2 := hnd.symm
      have E : Hid (topX 5 vv X = X 0 2 ++ sgn3 5 ++ X 1 3) := rfl
      rw [E.out]
      have hsg := sgm_size 5
      have hs3 := sgn3_size 5
      have E3 : Hid (sgn3 5 = ⟨#[32]⟩ ++ sgm 5 ++ ⟨#[32]⟩) := rfl
      have b1 := addsT ⟨#[32]⟩ (sgm 5) (by show 1 + _ ≤ _; omega)
      have b2 := addsT (⟨#[32]⟩ ++ sgm 5) ⟨#[32]⟩ (by rw [ByteArray.size_append]; show 1 + _ + 1 ≤ _; omega)
      rw [← E3.out] at b2
      have HS := Lib.hid (fun (u : World) (hu : Below w.heap.size w u) => (HT.out.below hu).s 5 (by omega))
      have x0 := IX.out 0 2 (by omega)
      have C0 := Lib.hid (fun u hu => IT.out 0 2 u (by omega) hu)
      have x1 := IX.out 1 3 (by omega)
      have C1 := Lib.hid (fun u hu => IT.out 1 3 u (by omega) hu)
      clear v0 v1 IX IT IC hnd hsg HT E3
      generalize X 0 2 = X0 at *
      generalize X 1 3 = X1 at *
      generalize sgn3 5 = s3 at *
      generalize sgm 5 = sg at *
      have a1 := addsT X0 s3 (by omega)
      have a2 := addsT (X0 ++ s3) X1 (by simp only [ByteArray.size_append]; omega)
      clear hs3 x0 x1
      obtain ⟨z0, hz0⟩ : ∃ z, (kd 0).size = z := ⟨_, rfl⟩
      obtain ⟨p0, hp0⟩ : ∃ p, of 0 = p := ⟨_, rfl⟩
      rw [hz0, hp0] at C0
      obtain ⟨z1, hz1⟩ : ∃ z, (kd 1).size = z := ⟨_, rfl⟩
      obtain ⟨p1, hp1⟩ : ∃ p, of 1 = p := ⟨_, rfl⟩
      rw [hz1, hp1] at C1
      have CB := Lib.hid (fun u => c_bindingOf 5 u (by omega) (by omega))
      simp only [bindK] at CB
      go_enter Tryd.func23, Tryd.ntmps23
      go_wp2_with fail
      refine (CN.out _ HBA.out).mono ?_
      rintro e w1 ⟨g, rfl, hg0, hg1, hb1, hcs⟩
      have HB1 : Hid (Below w.heap.size w w1) := HBA.out.trans (hb1.mono HBA.out.size)
      have d0 := cell_up hb1 HD.out
      have d1 := HS.out w1 HB1.out
      have c0 := hcs 0 (by omega)
      rw [hz0, hp0] at c0
      have c1 := hcs 1 (by omega)
      rw [hz1, hp1] at c1
      have HW : Hid (∀ u, Below w.heap.size w (wOf w1 u)) := fun u => HB1.out.trans ((wOf_below w1 u).mono HB1.out.size)
      clear hb1 hcs HS HD HBA CN hz0 hp0 hz1 hp1
      go_wp2_with fail
      refine (CB.out _).mono ?_
      rintro e w2 ⟨rfl, rfl⟩
      go_wp2_with fail
      refine wp_region_grow (by kernel_rfl) (by kernel_rfl) ?_
      repeat (go_big_quiet_step ((first | (go_at_call_of 13 (Value.slice (some ⟨b, o + p0 * 2, none⟩) z0 (c - p0)); exact grow_of (C0.out _ (HW.out _))) | (go_at_call_of 13 (Value.slice (some ⟨b, o + p1 * 2, none⟩) z1 (c - p1)); exact grow_of (C1.out _ (HW.out _))))))
      refine wpQuiet_nil ?_
      intro _ hw'
      obtain ⟨u, hw''⟩ := hw'
      subst hw''
      have HF := HW.out u
      generalize wOf w1 u = w9 at HF ⊢
      go_wp2
      go_ret
      exact ⟨rfl, HF⟩
    · obtain rfl : m = 4 := hnd.symm
      have E : Hid (topX 6 vv X = ⟨#[105, 102, 32]⟩ ++ (X 0 1 ++ sgn3 6 ++ X 1 1) ++ ⟨#[32, 116, 104, 101, 110, 32]⟩ ++ X 2 0 ++ ⟨#[32, 101, 108, 115, 101, 32]⟩ ++ X 3 0) := rfl
      rw [E.out]
      have hsg := sgm_size 6
      have hs3 := sgn3_size 6
      have E3 : Hid (sgn3 6 = ⟨#[32]⟩ ++ sgm 6 ++ ⟨#[32]⟩) := rfl
      have b1 := addsT ⟨#[32]⟩ (sgm 6) (by show 1 + _ ≤ _; omega)
      have b2 := addsT (⟨#[32]⟩ ++ sgm 6) ⟨#[32]⟩ (by rw [ByteArray.size_append]; show 1 + _ + 1 ≤ _; omega)
      rw [← E3.out] at b2
      have HS := Lib.hid (fun (u : World) (hu : Below w.heap.size w u) => (HT.out.below hu).s 6 (by omega))
      have x0 := IX.out 0 1 (by omega)
      have C0 := Lib.hid (fun u hu => IT.out 0 1 u (by omega) hu)
      have x1 := IX.out 1 1 (by omega)
      have C1 := Lib.hid (fun u hu => IT.out 1 1 u (by omega) hu)
      have x2 := IX.out 2 0 (by omega)
      have C2 := Lib.hid (fun u hu => IC.out 2 u (by omega) hu)
      have x3 := IX.out 3 0 (by omega)
      have C3 := Lib.hid (fun u hu => IC.out 3 u (by omega) hu)
      clear v0 v1 IX IT IC hnd hsg HT E3
      generalize X 0 1 = X0 at *
      generalize X 1 1 = X1 at *
      generalize X 2 0 = X2 at *
      generalize X 3 0 = X3 at *
      generalize sgn3 6 = s3 at *
      generalize sgm 6 = sg at *
      have a1 := addsT X0 s3 (by omega)
      have a2 := addsT (X0 ++ s3) X1 (by simp only [ByteArray.size_append]; omega)
      obtain ⟨Y, hY⟩ : ∃ Y, X0 ++ s3 ++ X1 = Y := ⟨_, rfl⟩
      have hYs : Y.size ≤ 4003 := by rw [← hY]; simp only [ByteArray.size_append]; omega
      rw [hY] at a2 ⊢
      have a3 := addsT ⟨#[105, 102, 32]⟩ Y (by show 3 + _ ≤ _; omega)
      have a4 := addsT (⟨#[105, 102, 32]⟩ ++ Y) ⟨#[32, 116, 104, 101, 110, 32]⟩ (by simp only [ByteArray.size_append]; show 3 + _ + 6 ≤ _; omega)
      have a5 := addsT (⟨#[105, 102, 32]⟩ ++ Y ++ ⟨#[32, 116, 104, 101, 110, 32]⟩) X2 (by simp only [ByteArray.size_append]; show 3 + _ + 6 + _ ≤ _; omega)
      have a6 := addsT (⟨#[105, 102, 32]⟩ ++ Y ++ ⟨#[32, 116, 104, 101, 110, 32]⟩ ++ X2) ⟨#[32, 101, 108, 115, 101, 32]⟩ (by simp only [ByteArray.size_append]; show 3 + _ + 6 + _ + 6 ≤ _; omega)
      have a7 := addsT (⟨#[105, 102, 32]⟩ ++ Y ++ ⟨#[32, 116, 104, 101, 110, 32]⟩ ++ X2 ++ ⟨#[32, 101, 108, 115, 101, 32]⟩) X3 (by simp only [ByteArray.size_append]; show 3 + _ + 6 + _ + 6 + _ ≤ _; omega)
      clear hY hYs
      clear hs3 x0 x1 x2 x3
      obtain ⟨z0, hz0⟩ : ∃ z, (kd 0).size = z := ⟨_, rfl⟩
      obtain ⟨p0, hp0⟩ : ∃ p, of 0 = p := ⟨_, rfl⟩
      rw [hz0, hp0] at C0
      obtain ⟨z1, hz1⟩ : ∃ z, (kd 1).size = z := ⟨_, rfl⟩
      obtain ⟨p1, hp1⟩ : ∃ p, of 1 = p := ⟨_, rfl⟩
      rw [hz1, hp1] at C1
      obtain ⟨z2, hz2⟩ : ∃ z, (kd 2).size = z := ⟨_, rfl⟩
      obtain ⟨p2, hp2⟩ : ∃ p, of 2 = p := ⟨_, rfl⟩
      rw [hz2, hp2] at C2
      obtain ⟨z3, hz3⟩ : ∃ z, (kd 3).size = z := ⟨_, rfl⟩
      obtain ⟨p3, hp3⟩ : ∃ p, of 3 = p := ⟨_, rfl⟩
      rw [hz3, hp3] at C3
      have CB := Lib.hid (fun u => c_bindingOf 6 u (by omega) (by omega))
      simp only [bindK] at CB
      go_enter Tryd.func23, Tryd.ntmps23
      go_wp2_with fail
      refine (CN.out _ HBA.out).mono ?_
      rintro e w1 ⟨g, rfl, hg0, hg1, hb1, hcs⟩
      have HB1 : Hid (Below w.heap.size w w1) := HBA.out.trans (hb1.mono HBA.out.size)
      have d0 := cell_up hb1 HD.out
      have d1 := HS.out w1 HB1.out
      have c0 := hcs 0 (by omega)
      rw [hz0, hp0] at c0
      have c1 := hcs 1 (by omega)
      rw [hz1, hp1] at c1
      have c2 := hcs 2 (by omega)
      rw [hz2, hp2] at c2
      have c3 := hcs 3 (by omega)
      rw [hz3, hp3] at c3
      have HW : Hid (∀ u, Below w.heap.size w (wOf w1 u)) := fun u => HB1.out.trans ((wOf_below w1 u).mono HB1.out.size)
      clear hb1 hcs HS HD HBA CN hz0 hp0 hz1 hp1 hz2 hp2 hz3 hp3
      go_wp2_with fail
      refine (CB.out _).mono ?_
      rintro e w2 ⟨rfl, rfl⟩
      go_wp2_with fail
      refine wp_region_grow (by kernel_rfl) (by kernel_rfl) ?_
      repeat (go_big_quiet_step ((first | (go_at_call_of 13 (Value.slice (some ⟨b, o + p0 * 2, none⟩) z0 (c - p0)); exact grow_of (C0.out _ (HW.out _))) | (go_at_call_of 13 (Value.slice (some ⟨b, o + p1 * 2, none⟩) z1 (c - p1)); exact grow_of (C1.out _ (HW.out _))))))
      refine wpQuiet_nil ?_
      intro _ hw'
      obtain ⟨u, hw''⟩ := hw'
      subst hw''
      have hb5 := wOf_below w1 u
      have HB5 : Hid (Below w.heap.size w (wOf w1 u)) := HW.out u
      have e2 := cell_up hb5 c2
      have e3 := cell_up hb5 c3
      have hg5 := Nat.lt_of_lt_of_le hg1 hb5.size
      generalize wOf w1 u = w5 at *
      have HV : Hid (∀ u, Below w.heap.size w (wOf w5 u)) := fun u => HB5.out.trans ((wOf_below w5 u).mono HB5.out.size)
      clear hb5 c0 c1 c2 c3 d0 d1
      go_wp2_with fail
      refine wp_region_grow (by kernel_rfl) (by kernel_rfl) ?_
      repeat (go_big_quiet_step ((first | (go_at_call_of 23 (Value.slice (some ⟨b, o + p2 * 2, none⟩) z2 (c - p2)); exact grow_of (C2.out _ (HV.out _))) | (go_at_call_of 23 (Value.slice (some ⟨b, o + p3 * 2, none⟩) z3 (c - p3)); exact grow_of (C3.out _ (HV.out _))))))
      refine wpQuiet_nil ?_
      intro _ hw'
      obtain ⟨u, hw''⟩ := hw'
      subst hw''
      have HF := HV.out u
      generalize wOf w5 u = w9 at HF ⊢
      go_wp2
      go_ret
      exact ⟨rfl, HF⟩
    · obtain rfl : m = 4 := hnd.symm
      have E : Hid (topX 7 vv X = ⟨#[105, 102, 32]⟩ ++ (X 0 1 ++ sgn3 7 ++ X 1 1) ++ ⟨#[32, 116, 104, 101, 110, 32]⟩ ++ X 2 0 ++ ⟨#[32, 101, 108, 115, 101, 32]⟩ ++ X 3 0) := rfl
      rw [E.out]
      have hsg := sgm_size 7
      have hs3 := sgn3_size 7
      have E3 : Hid (sgn3 7 = ⟨#[32]⟩ ++ sgm 7 ++ ⟨#[32]⟩) := rfl
      have b1 := addsT ⟨#[32]⟩ (sgm 7) (by show 1 + _ ≤ _; omega)
      have b2 := addsT (⟨#[32]⟩ ++ sgm 7) ⟨#[32]⟩ (by rw [ByteArray.size_append]; show 1 + _ + 1 ≤ _; omega)
      rw [← E3.out] at b2
      have HS := Lib.hid (fun (u : World) (hu : Below w.heap.size w u) => (HT.out.below hu).s 7 (by omega))
      have x0 := IX.out 0 1 (by omega)
      have C0 := Lib.hid (fun u hu => IT.out 0 1 u (by omega) hu)
      have x1 := IX.out 1 1 (by omega)
      have C1 := Lib.hid (fun u hu => IT.out 1 1 u (by omega) hu)
      have x2 := IX.out 2 0 (by omega)
      have C2 := Lib.hid (fun u hu => IC.out 2 u (by omega) hu)
      have x3 := IX.out 3 0 (by omega)
      have C3 := Lib.hid (fun u hu => IC.out 3 u (by omega) hu)
      clear v0 v1 IX IT IC hnd hsg HT E3
      generalize X 0 1 = X0 at *
      generalize X 1 1 = X1 at *
      generalize X 2 0 = X2 at *
      generalize X 3 0 = X3 at *
      generalize sgn3 7 = s3 at *
      generalize sgm 7 = sg at *
      have a1 := addsT X0 s3 (by omega)
      have a2 := addsT (X0 ++ s3) X1 (by simp only [ByteArray.size_append]; omega)
      obtain ⟨Y, hY⟩ : ∃ Y, X0 ++ s3 ++ X1 = Y := ⟨_, rfl⟩
      have hYs : Y.size ≤ 4003 := by rw [← hY]; simp only [ByteArray.size_append]; omega
      rw [hY] at a2 ⊢
      have a3 := addsT ⟨#[105, 102, 32]⟩ Y (by show 3 + _ ≤ _; omega)
      have a4 := addsT (⟨#[105, 102, 32]⟩ ++ Y) ⟨#[32, 116, 104, 101, 110, 32]⟩ (by simp only [ByteArray.size_append]; show 3 + _ + 6 ≤ _; omega)
      have a5 := addsT (⟨#[105, 102, 32]⟩ ++ Y ++ ⟨#[32, 116, 104, 101, 110, 32]⟩) X2 (by simp only [ByteArray.size_append]; show 3 + _ + 6 + _ ≤ _; omega)
      have a6 := addsT (⟨#[105, 102, 32]⟩ ++ Y ++ ⟨#[32, 116, 104, 101, 110, 32]⟩ ++ X2) ⟨#[32, 101, 108, 115, 101, 32]⟩ (by simp only [ByteArray.size_append]; show 3 + _ + 6 + _ + 6 ≤ _; omega)
      have a7 := addsT (⟨#[105, 102, 32]⟩ ++ Y ++ ⟨#[32, 116, 104, 101, 110, 32]⟩ ++ X2 ++ ⟨#[32, 101, 108, 115, 101, 32]⟩) X3 (by simp only [ByteArray.size_append]; show 3 + _ + 6 + _ + 6 + _ ≤ _; omega)
      clear hY hYs
      clear hs3 x0 x1 x2 x3
      obtain ⟨z0, hz0⟩ : ∃ z, (kd 0).size = z := ⟨_, rfl⟩
      obtain ⟨p0, hp0⟩ : ∃ p, of 0 = p := ⟨_, rfl⟩
      rw [hz0, hp0] at C0
      obtain ⟨z1, hz1⟩ : ∃ z, (kd 1).size = z := ⟨_, rfl⟩
      obtain ⟨p1, hp1⟩ : ∃ p, of 1 = p := ⟨_, rfl⟩
      rw [hz1, hp1] at C1
      obtain ⟨z2, hz2⟩ : ∃ z, (kd 2).size = z := ⟨_, rfl⟩
      obtain ⟨p2, hp2⟩ : ∃ p, of 2 = p := ⟨_, rfl⟩
      rw [hz2, hp2] at C2
      obtain ⟨z3, hz3⟩ : ∃ z, (kd 3).size = z := ⟨_, rfl⟩
      obtain ⟨p3, hp3⟩ : ∃ p, of 3 = p := ⟨_, rfl⟩
      rw [hz3, hp3] at C3
      have CB := Lib.hid (fun u => c_bindingOf 7 u (by omega) (by omega))
      simp only [bindK] at CB
      go_enter Tryd.func23, Tryd.ntmps23
      go_wp2_with fail
      refine (CN.out _ HBA.out).mono ?_
      rintro e w1 ⟨g, rfl, hg0, hg1, hb1, hcs⟩
      have HB1 : Hid (Below w.heap.size w w1) := HBA.out.trans (hb1.mono HBA.out.size)
      have d0 := cell_up hb1 HD.out
      have d1 := HS.out w1 HB1.out
      have c0 := hcs 0 (by omega)
      rw [hz0, hp0] at c0
      have c1 := hcs 1 (by omega)
      rw [hz1, hp1] at c1
      have c2 := hcs 2 (by omega)
      rw [hz2, hp2] at c2
      have c3 := hcs 3 (by omega)
      rw [hz3, hp3] at c3
      have HW : Hid (∀ u, Below w.heap.size w (wOf w1 u)) := fun u => HB1.out.trans ((wOf_below w1 u).mono HB1.out.size)
      clear hb1 hcs HS HD HBA CN hz0 hp0 hz1 hp1 hz2 hp2 hz3 hp3
      go_wp2_with fail
      refine (CB.out _).mono ?_
      rintro e w2 ⟨rfl, rfl⟩
      go_wp2_with fail
      refine wp_region_grow (by kernel_rfl) (by kernel_rfl) ?_
      repeat (go_big_quiet_step ((first | (go_at_call_of 13 (Value.slice (some ⟨b, o + p0 * 2, none⟩) z0 (c - p0)); exact grow_of (C0.out _ (HW.out _))) | (go_at_call_of 13 (Value.slice (some ⟨b, o + p1 * 2, none⟩) z1 (c - p1)); exact grow_of (C1.out _ (HW.out _))))))
      refine wpQuiet_nil ?_
      intro _ hw'
      obtain ⟨u, hw''⟩ := hw'
      subst hw''
      have hb5 := wOf_below w1 u
      have HB5 : Hid (Below w.heap.size w (wOf w1 u)) := HW.out u
      have e2 := cell_up hb5 c2
      have e3 := cell_up hb5 c3
      have hg5 := Nat.lt_of_lt_of_le hg1 hb5.size
      generalize wOf w1 u = w5 at *
      have HV : Hid (∀ u, Below w.heap.size w (wOf w5 u)) := fun u => HB5.out.trans ((wOf_below w5 u).mono HB5.out.size)
      clear hb5 c0 c1 c2 c3 d0 d1
      go_wp2_with fail
      refine wp_region_grow (by kernel_rfl) (by kernel_rfl) ?_
      repeat (go_big_quiet_step ((first | (go_at_call_of 23 (Value.slice (some ⟨b, o + p2 * 2, none⟩) z2 (c - p2)); exact grow_of (C2.out _ (HV.out _))) | (go_at_call_of 23 (Value.slice (some ⟨b, o + p3 * 2, none⟩) z3 (c - p3)); exact grow_of (C3.out _ (HV.out _))))))
      refine wpQuiet_nil ?_
      intro _ hw'
      obtain ⟨u, hw''⟩ := hw'
      subst hw''
      have HF := HV.out u
      generalize wOf w5 u = w9 at HF ⊢
      go_wp2
      go_ret
      exact ⟨rfl, HF⟩
    · obtain rfl : m = 4 := hnd.symm
      have E : Hid (topX 8 vv X = ⟨#[105, 102, 32]⟩ ++ (X 0 1 ++ sgn3 8 ++ X 1 1) ++ ⟨#[32, 116, 104, 101, 110, 32]⟩ ++ X 2 0 ++ ⟨#[32, 101, 108, 115, 101, 32]⟩ ++ X 3 0) := rfl
      rw [E.out]
      have hsg := sgm_size 8
      have hs3 := sgn3_size 8
      have E3 : Hid (sgn3 8 = ⟨#[32]⟩ ++ sgm 8 ++ ⟨#[32]⟩) := rfl
      have b1 := addsT ⟨#[32]⟩ (sgm 8) (by show 1 + _ ≤ _; omega)
      have b2 := addsT (⟨#[32]⟩ ++ sgm 8) ⟨#[32]⟩ (by rw [ByteArray.size_append]; show 1 + _ + 1 ≤ _; omega)
      rw [← E3.out] at b2
      have HS := Lib.hid (fun (u : World) (hu : Below w.heap.size w u) => (HT.out.below hu).s 8 (by omega))
      have x0 := IX.out 0 1 (by omega)
      have C0 := Lib.hid (fun u hu => IT.out 0 1 u (by omega) hu)
      have x1 := IX.out 1 1 (by omega)
      have C1 := Lib.hid (fun u hu => IT.out 1 1 u (by omega) hu)
      have x2 := IX.out 2 0 (by omega)
      have C2 := Lib.hid (fun u hu => IC.out 2 u (by omega) hu)
      have x3 := IX.out 3 0 (by omega)
      have C3 := Lib.hid (fun u hu => IC.out 3 u (by omega) hu)
      clear v0 v1 IX IT IC hnd hsg HT E3
      generalize X 0 1 = X0 at *
      generalize X 1 1 = X1 at *
      generalize X 2 0 = X2 at *
      generalize X 3 0 = X3 at *
      generalize sgn3 8 = s3 at *
      generalize sgm 8 = sg at *
      have a1 := addsT X0 s3 (by omega)
      have a2 := addsT (X0 ++ s3) X1 (by simp only [ByteArray.size_append]; omega)
      obtain ⟨Y, hY⟩ : ∃ Y, X0 ++ s3 ++ X1 = Y := ⟨_, rfl⟩
      have hYs : Y.size ≤ 4003 := by rw [← hY]; simp only [ByteArray.size_append]; omega
      rw [hY] at a2 ⊢
      have a3 := addsT ⟨#[105, 102, 32]⟩ Y (by show 3 + _ ≤ _; omega)
      have a4 := addsT (⟨#[105, 102, 32]⟩ ++ Y) ⟨#[32, 116, 104, 101, 110, 32]⟩ (by simp only [ByteArray.size_append]; show 3 + _ + 6 ≤ _; omega)
      have a5 := addsT (⟨#[105, 102, 32]⟩ ++ Y ++ ⟨#[32, 116, 104, 101, 110, 32]⟩) X2 (by simp only [ByteArray.size_append]; show 3 + _ + 6 + _ ≤ _; omega)
      have a6 := addsT (⟨#[105, 102, 32]⟩ ++ Y ++ ⟨#[32, 116, 104, 101, 110, 32]⟩ ++ X2) ⟨#[32, 101, 108, 115, 101, 32]⟩ (by simp only [ByteArray.size_append]; show 3 + _ + 6 + _ + 6 ≤ _; omega)
      have a7 := addsT (⟨#[105, 102, 32]⟩ ++ Y ++ ⟨#[32, 116, 104, 101, 110, 32]⟩ ++ X2 ++ ⟨#[32, 101, 108, 115, 101, 32]⟩) X3 (by simp only [ByteArray.size_append]; show 3 + _ + 6 + _ + 6 + _ ≤ _; omega)
      clear hY hYs
      clear hs3 x0 x1 x2 x3
      obtain ⟨z0, hz0⟩ : ∃ z, (kd 0).size = z := ⟨_, rfl⟩
      obtain ⟨p0, hp0⟩ : ∃ p, of 0 = p := ⟨_, rfl⟩
      rw [hz0, hp0] at C0
      obtain ⟨z1, hz1⟩ : ∃ z, (kd 1).size = z := ⟨_, rfl⟩
      obtain ⟨p1, hp1⟩ : ∃ p, of 1 = p := ⟨_, rfl⟩
      rw [hz1, hp1] at C1
      obtain ⟨z2, hz2⟩ : ∃ z, (kd 2).size = z := ⟨_, rfl⟩
      obtain ⟨p2, hp2⟩ : ∃ p, of 2 = p := ⟨_, rfl⟩
      rw [hz2, hp2] at C2
      obtain ⟨z3, hz3⟩ : ∃ z, (kd 3).size = z := ⟨_, rfl⟩
      obtain ⟨p3, hp3⟩ : ∃ p, of 3 = p := ⟨_, rfl⟩
      rw [hz3, hp3] at C3
      have CB := Lib.hid (fun u => c_bindingOf 8 u (by omega) (by omega))
      simp only [bindK] at CB
      go_enter Tryd.func23, Tryd.ntmps23
      go_wp2_with fail
      refine (CN.out _ HBA.out).mono ?_
      rintro e w1 ⟨g, rfl, hg0, hg1, hb1, hcs⟩
      have HB1 : Hid (Below w.heap.size w w1) := HBA.out.trans (hb1.mono HBA.out.size)
      have d0 := cell_up hb1 HD.out
      have d1 := HS.out w1 HB1.out
      have c0 := hcs 0 (by omega)
      rw [hz0, hp0] at c0
      have c1 := hcs 1 (by omega)
      rw [hz1, hp1] at c1
      have c2 := hcs 2 (by omega)
      rw [hz2, hp2] at c2
      have c3 := hcs 3 (by omega)
      rw [hz3, hp3] at c3
      have HW : Hid (∀ u, Below w.heap.size w (wOf w1 u)) := fun u => HB1.out.trans ((wOf_below w1 u).mono HB1.out.size)
      clear hb1 hcs HS HD HBA CN hz0 hp0 hz1 hp1 hz2 hp2 hz3 hp3
      go_wp2_with fail
      refine (CB.out _).mono ?_
      rintro e w2 ⟨rfl, rfl⟩
      go_wp2_with fail
      refine wp_region_grow (by kernel_rfl) (by kernel_rfl) ?_
      repeat (go_big_quiet_step ((first | (go_at_call_of 13 (Value.slice (some ⟨b, o + p0 * 2, none⟩) z0 (c - p0)); exact grow_of (C0.out _ (HW.out _))) | (go_at_call_of 13 (Value.slice (some ⟨b, o + p1 * 2, none⟩) z1 (c - p1)); exact grow_of (C1.out _ (HW.out _))))))
      refine wpQuiet_nil ?_
      intro _ hw'
      obtain ⟨u, hw''⟩ := hw'
      subst hw''
      have hb5 := wOf_below w1 u
      have HB5 : Hid (Below w.heap.size w (wOf w1 u)) := HW.out u
      have e2 := cell_up hb5 c2
      have e3 := cell_up hb5 c3
      have hg5 := Nat.lt_of_lt_of_le hg1 hb5.size
      generalize wOf w1 u = w5 at *
      have HV : Hid (∀ u, Below w.heap.size w (wOf w5 u)) := fun u => HB5.out.trans ((wOf_below w5 u).mono HB5.out.size)
      clear hb5 c0 c1 c2 c3 d0 d1
      go_wp2_with fail
      refine wp_region_grow (by kernel_rfl) (by kernel_rfl) ?_
      repeat (go_big_quiet_step ((first | (go_at_call_of 23 (Value.slice (some ⟨b, o + p2 * 2, none⟩) z2 (c - p2)); exact grow_of (C2.out _ (HV.out _))) | (go_at_call_of 23 (Value.slice (some ⟨b, o + p3 * 2, none⟩) z3 (c - p3)); exact grow_of (C3.out _ (HV.out _))))))
      refine wpQuiet_nil ?_
      intro _ hw'
      obtain ⟨u, hw''⟩ := hw'
      subst hw''
      have HF := HV.out u
      generalize wOf w5 u = w9 at HF ⊢
      go_wp2
      go_ret
      exact ⟨rfl, HF⟩
end Go.Proofs.YtdgkgnlilcbggaaDoor
