/-
  Contract: CountProfiles, in the program.
-/
import Derived.Test.YtmkbjkmpincogaaSN
import Derived.Laws.CopyOwn
namespace Go.Proofs.Ytmkbjkmpincogaa
open Go.RowKit
set_option linter.unusedVariables false

theorem ints_getE {xs : List Int} {j : Nat} {u : Value} (h : (ints xs)[j]? = some u) : j < xs.length ∧ u = .int .i64 (xs.getD j 0) := by
  unfold ints at h
  rw [List.getElem?_map] at h
  cases e : xs[j]? with
  | none => rw [e] at h; cases h
  | some t =>
    rw [e] at h
    have hj : j < xs.length := by
      rcases Nat.lt_or_ge j xs.length with hl | hg
      · exact hl
      · rw [List.getElem?_eq_none hg] at e; cases e
    refine ⟨hj, ?_⟩
    rw [List.getD_eq_getElem?_getD, e]
    simpa using h.symm
theorem row_heap {w : World} {B g n c : Nat} {xs : List Int} (hn : xs.length = n) (h0 : 0 < n) (h : Row w B (.slice (some ⟨g, 0, none⟩) n c) xs) : ∃ cur, w.heap[g]? = some (.cells cur 3 (0, 0)) ∧ n ≤ c ∧ c ≤ maxLen ∧ cur.size = c ∧ B ≤ g := by
  subst hn
  rcases h.2 with ⟨e, e0⟩ | ⟨g', cap, cur, e, hb, hg, hn, hm, hs, ht⟩
  · cases e
  · injection e with e1 e2 e3
    simp at e1
    subst e1 e3
    exact ⟨cur, hg, hn, hm, by rw [hs, Nat.mul_one], hb⟩
theorem row_fz {w : World} {B g n c : Nat} {xs : List Int} (hn : xs.length = n) (h : Row w B (.slice (some ⟨g, 0, none⟩) n c) xs) (k : Nat) : w.frozen? ⟨g, k, none⟩ = false := by
  subst hn
  exact h.frozen k
theorem row_cl {w : World} {B g n c : Nat} {xs : List Int} (hn : xs.length = n) (h : Row w B (.slice (some ⟨g, 0, none⟩) n c) xs) {k : Nat} (hk : k < n) : w.cell? ⟨g, k, none⟩ = some (.int .i64 (xs.getD k 0)) ∧ g < w.heap.size := by
  subst hn
  exact ⟨h.cell k hk, lt_of_cell (h.cell k hk)⟩
/-- A row laid over another one. -/
theorem row_over {w : World} {B g g2 n c c2 : Nat} {ys : List Int} {cur : Array Value} (hy : ys.length = n) (hne : g2 ≠ g) (a : w.heap[g]? = some (.cells cur 3 (0, 0))) (hc : n ≤ c) (hm : c ≤ maxLen) (hs : cur.size = c) (hB : B ≤ g) (h2 : Row w B (.slice (some ⟨g2, 0, none⟩) n c2) ys) :
    Row (w.setRow g (cur.toList.take 0 ++ (ints ys ++ cur.toList.drop (0 + (ints ys).length))).toArray) B (.slice (some ⟨g, 0, none⟩) n c) ys ∧ Row (w.setRow g (cur.toList.take 0 ++ (ints ys ++ cur.toList.drop (0 + (ints ys).length))).toArray) B (.slice (some ⟨g2, 0, none⟩) n c2) ys := by
  subst hy
  constructor
  · refine ⟨by rw [ints_len, Nat.mul_one], .inr ⟨g, c, _, rfl, hB, setRow_heap w g _ _ _ _ a, hc, hm, ?_, ?_⟩⟩
    · simp [ints]; omega
    · rw [Nat.mul_one]
      simp only [List.take_zero, List.nil_append]
      rw [List.take_append_of_le_length (by rw [ints_len]; exact Nat.le_refl _)]
      exact List.take_of_length_le (Nat.le_of_eq (ints_len ys))
  · refine World.ownsRow.kept (row := some g) h2 ⟨rfl, rfl, rfl, by simp [World.setRow], fun k hk hne' => setRow_other w g k _ (fun e => hne' (by rw [e]))⟩ (.inr ?_)
    simp [Value.ownBlock]
    exact hne

set_option maxHeartbeats 8000000 in
set_option maxRecDepth 20000 in
theorem c_CountProfiles (a b : Int) (w : World) : Calls Try.prog 37 #[.int .i64 a, .int .i64 b] w fun e w' => e = .returned (.tuple #[.int .i64 (cpN a b), .bool (cpB a b)]) ∧ Below w.heap.size w w' := by
  unfold cpN
  by_cases h : (1 ≤ a ∧ a ≤ 8) ∧ 1 ≤ b ∧ b ≤ 6
  case neg =>
    have e : cpB a b = false := decide_eq_false h
    rw [e]
    by_cases h1 : a < 1
    · go_enter Try.func37, Try.ntmps37
      go_wp2
      go_ret2
      exact ⟨rfl, Below.refl _ _⟩
    by_cases h2 : a > 8
    · go_enter Try.func37, Try.ntmps37
      go_wp2
      go_ret2
      exact ⟨rfl, Below.refl _ _⟩
    by_cases h3 : b < 1
    · go_enter Try.func37, Try.ntmps37
      go_wp2
      go_ret2
      exact ⟨rfl, Below.refl _ _⟩
    have h4 : b > 6 := by omega
    go_enter Try.func37, Try.ntmps37
    go_wp2
    go_ret2
    exact ⟨rfl, Below.refl _ _⟩
  case pos =>
  have e : cpB a b = true := decide_eq_true h
  rw [e, if_pos rfl]
  obtain ⟨⟨a1, a2⟩, b1, b2⟩ := h
  obtain ⟨m, hm⟩ : ∃ m : Nat, m = b.toNat + 1 := ⟨_, rfl⟩
  obtain ⟨n, hn⟩ : ∃ n : Nat, n = a.toNat - 1 := ⟨_, rfl⟩
  rw [← hm, ← hn]
  obtain rfl : b = (m : Int) - 1 := by omega
  obtain rfl : a = (n : Int) + 1 := by omega
  have m1 : 2 ≤ m := by omega
  have m2 : m ≤ 7 := by omega
  have n2 : n ≤ 7 := by omega
  clear hm hn e
  have hmm : (m : Int) - 1 + 1 = (m : Int) := by omega
  obtain ⟨i0, hi0, hz0, hz1, hz2⟩ := info_parts int_info
  have HSz : Hid ((Try.prog.info? 3).map (·.size) = some 1) := by show _ = _; rw [hi0]; simp [hz1]
  have HMK : Hid (∀ W : World, (Instr.makeSlice 27 (.int .i64 (m : Int)) (.int .i64 (m : Int))).run Try.prog W = .ok (.slice (some ⟨W.heap.size, 0, none⟩) m m) (W.alloc (.cells (madeCells #[.int .i64 0] m) 3))) := fun W => by
    have := run_make (P := Try.prog) W 27 3 i0 (.int .i64 0) Try.underlying27 hi0 hz0 .i64 .i64 (m : Int) (m : Int) (by omega) (by omega) (by rw [hz2]; omega) (by omega)
    simpa [hz1, Value.cells] using this
  have HC0 : Hid (cntR m 0 = List.replicate m 1) := rfl
  have HCl : Hid (∀ k, (cntR m k).length = m) := cnt_len m
  have HCs : Hid (∀ k, cntR m (k + 1) = stepC (cntR m k)) := fun k => rfl
  have HSl : Hid (∀ k, (stepC (cntR m k)).length = m) := fun k => by rw [stepC_len, cnt_len]
  have HSa : Hid (∀ k d, d < m → (stepC (cntR m k)).getD d 0 = preS (nearL (cntR m k) d) (cnN d m)) := fun k d hd => by rw [stepC_at _ (by rw [cnt_len]; exact hd), cnt_len]
  have HNl : Hid (∀ k d, d < m → (nearL (cntR m k) d).length = cnN d m) := fun k d hd => by rw [nearL_len (by rw [cnt_len]; exact hd), cnt_len]
  have HTm : Hid (∀ k, k ≤ 8 → Tame (cntR m k)) := fun k hk => cnt_tame m2 hk
  have HTn : Hid (∀ k d, k ≤ 8 → d < m → Tame (nearL (cntR m k) d)) := fun k d hk hd => near_tame m2 hk hd
  have HB0 : Hid (Below w.heap.size w (w.alloc (.cells #[.int .i64 1] 3))) := (Below.refl _ _).alloc (Nat.le_refl _) _
  have CR : Hid (Calls Try.prog 54 #[.slice (some ⟨w.heap.size, 0, none⟩) 1 1, .int .i64 m] (w.alloc (.cells #[.int .i64 1] 3)) (GivesRow (w.alloc (.cells #[.int .i64 1] 3)) (List.replicate m 1))) := c_Repeat 1 m w.heap.size (w.alloc (.cells #[.int .i64 1] 3)) (by omega) (by omega) (by simp) (by simp)
  clear hi0
  generalize hVV : preS (cntR m n) m = V
  have HVV := Lib.hid hVV
  clear hVV
  go_enter Try.func37, Try.ntmps37
  go_wp2_with fail
  refine CR.out.mono ?_
  rintro e w1 ⟨v, rfl, hr, hb⟩
  obtain ⟨g1, c1, rfl, hg1, hl1⟩ := hr.form (by simp; omega)
  rw [List.length_replicate] at hr ⊢
  rw [← HC0.out] at hr
  simp at hg1
  have HR1 : Hid (Row w1 w.heap.size (.slice (some ⟨g1, 0, none⟩) m c1) (cntR m 0)) := hr.mono (by simp)
  have HB1 : Hid (Below w.heap.size w w1) := HB0.out.trans (hb.mono (by simp))
  clear hr hb CR HB0
  have hmk := HMK.out w1
  have HB2 : Hid (Below w.heap.size w (w1.alloc (.cells (madeCells #[.int .i64 0] m) 3))) := HB1.out.alloc HB1.out.size _
  have HR2 : Hid (Row (w1.alloc (.cells (madeCells #[.int .i64 0] m) 3)) w.heap.size (.slice (some ⟨g1, 0, none⟩) m c1) (cntR m 0)) := HR1.out.below ((Below.refl _ _).alloc (Nat.le_refl _) _)
  have HZ2 : Hid (Row (w1.alloc (.cells (madeCells #[.int .i64 0] m) 3)) w.heap.size (.slice (some ⟨w1.heap.size, 0, none⟩) m m) (List.replicate m 0)) := (row_zeros w1 m (by unfold maxLen; omega)).mono HB1.out.size
  have HNE : Hid (w1.heap.size ≠ g1) := by show _ ≠ _; omega
  go_wp2_with fail
  clear hmk
  generalize w1.alloc (.cells (madeCells #[.int .i64 0] m) 3) = w2 at *
  generalize w1.heap.size = g2 at *
  go_loopw [34] (fun i wr => ∃ k : Nat, k ≤ n ∧ i = .int .i64 k ∧ Row wr w.heap.size (.slice (some ⟨g1, 0, none⟩) m c1) (cntR m k) ∧ (∃ ys : List Int, ys.length = m ∧ Row wr w.heap.size (.slice (some ⟨g2, 0, none⟩) m m) ys) ∧ Below w.heap.size w wr) (fun i _ => n - (intOf i).toNat)
  case atStart => exact ⟨0, Nat.zero_le _, rfl, HR2.out, ⟨_, by simp, HZ2.out⟩, HB2.out⟩
  case round =>
    obtain ⟨k, hk, rfl, hr, ⟨ys, hy, hr2⟩, hb⟩ := hrel
    have HR := Lib.hid hr
    have HR2' := Lib.hid hr2
    have HB := Lib.hid hb
    have HY := Lib.hid hy
    clear hr hr2 hb hy
    by_cases hlt : k < n
    · have k1 : (0 : Int) ≤ (k : Int) := by omega
      have k2 : (k : Int) < (n : Int) := by omega
      go_wp2_with fail
      go_loopw [38] (fun i wr => ∃ d : Nat, d ≤ m ∧ i = .int .i64 d ∧ Row wr w.heap.size (.slice (some ⟨g1, 0, none⟩) m c1) (cntR m k) ∧ (∃ ys : List Int, ys.length = m ∧ Row wr w.heap.size (.slice (some ⟨g2, 0, none⟩) m m) ys ∧ Hid (∀ i, i < d → ys.getD i 0 = (stepC (cntR m k)).getD i 0)) ∧ Below w.heap.size w wr) (fun i _ => m - (intOf i).toNat)
      case atStart => exact ⟨0, Nat.zero_le _, rfl, HR.out, ⟨ys, HY.out, HR2'.out, fun i hi => by omega⟩, HB.out⟩
      case round =>
        obtain ⟨d, hd, rfl, hr, ⟨zs, hz, hr2, HV⟩, hb⟩ := hrel
        have KR := Lib.hid hr
        have KR2 := Lib.hid hr2
        have KB := Lib.hid hb
        have KY := Lib.hid hz
        clear hr hr2 hb hz
        by_cases hdm : d < m
        · have d1 : (0 : Int) ≤ (d : Int) := by omega
          have d2 : (d : Int) < (m : Int) := by omega
          have hc1 : m ≤ c1 ∧ c1 ≤ 9223372036854775807 := by
            obtain ⟨_, _, r1, r2, _⟩ := row_heap (HCl.out k) (by omega) KR.out
            unfold maxLen at r2
            exact ⟨r1, by omega⟩
          have CN := Lib.hid (c_nearDepths g1 0 m c1 d wr (Nat.le_of_lt hdm) (by omega) hc1.1 hc1.2 (by omega))
          rw [Nat.zero_add] at CN
          go_wp2_with fail
          refine CN.out.mono ?_
          rintro e w3 ⟨rfl, hb3⟩
          have KB3 : Hid (Below w.heap.size w w3) := KB.out.trans (hb3.mono KB.out.size)
          have KR3 : Hid (Row w3 w.heap.size (.slice (some ⟨g1, 0, none⟩) m c1) (cntR m k)) := KR.out.below hb3
          have KZ3 : Hid (Row w3 w.heap.size (.slice (some ⟨g2, 0, none⟩) m m) zs) := KR2.out.below hb3
          have CS : Hid (Calls Try.prog 67 #[.slice (some ⟨g1, loN d, none⟩) (cnN d m) (cnN d m)] w3 fun e w' => e = .returned (.int .i64 ((stepC (cntR m k)).getD d 0)) ∧ w3 = w') := by
            have := c_sumOf _ _ w3 (by rw [HNl.out k d hdm]; have := near_facts hdm; omega) (HTn.out k d (by omega) hdm) (row_near (HCl.out k).symm KR3.out hdm (by omega))
            rw [HNl.out k d hdm, ← HSa.out k d hdm] at this
            exact this
          clear hb3 CN
          have f1 := row_fz KY.out KZ3.out d
          have hst := Row.set_ KY.out.symm KZ3.out d ((stepC (cntR m k)).getD d 0)
          have HST := Lib.hid hst
          have HVN : Hid (∀ i, i < d + 1 → (zs.set d ((stepC (cntR m k)).getD d 0)).getD i 0 = (stepC (cntR m k)).getD i 0) := set_first (F := fun i => (stepC (cntR m k)).getD i 0) KY.out hdm HV.out
          obtain ⟨f2, f3⟩ := row_cl KY.out KZ3.out hdm
          have KB4 : Hid (Below w.heap.size w (w3.setCell ⟨g2, d, none⟩ (.int .i64 ((stepC (cntR m k)).getD d 0)))) := KB3.out.setCell (World.ownsRow.lt KZ3.out g2 rfl).1 _
          have KR4 : Hid (Row (w3.setCell ⟨g2, d, none⟩ (.int .i64 ((stepC (cntR m k)).getD d 0))) w.heap.size (.slice (some ⟨g1, 0, none⟩) m c1) (cntR m k)) := World.ownsRow.kept KR3.out HST.out.2 (.inr (by simp [Value.ownBlock]; exact fun e => HNE.out e.symm))
          have KL : Hid ((zs.set d ((stepC (cntR m k)).getD d 0)).length = m) := by show _ = _; rw [List.length_set]; exact KY.out
          clear hst
          generalize (stepC (cntR m k)).getD d 0 = VV at *
          go_wp2_with fail
          refine CS.out.mono ?_
          rintro e w4 ⟨rfl, rfl⟩
          go_wp2
          go_roundw
          case rel => exact ⟨d + 1, by omega, by go_num, KR4.out, ⟨_, KL.out, HST.out.1, HVN⟩, KB4.out⟩
          case measure => simp [intOf]; omega
        · obtain rfl : d = m := by omega
          obtain rfl : zs = stepC (cntR d k) := step_all (HCl.out k) KY.out HV.out
          obtain ⟨cur, r1, r2, r3, r4, r5⟩ := row_heap (HCl.out k) (by omega) KR.out
          have hov := row_over (HSl.out k) HNE.out r1 r2 r3 r4 r5 KR2.out
          have HOV := Lib.hid hov
          have HBV : Hid (Below w.heap.size w (wr.setRow g1 (cur.toList.take 0 ++ (ints (stepC (cntR d k)) ++ cur.toList.drop (0 + (ints (stepC (cntR d k))).length))).toArray)) := below_setRow KB.out r5 _
          have SRC : Hid (∀ (j : Nat) (v : Value), (ints (stepC (cntR d k)))[j]? = some v → wr.cell? ((⟨g2, 0, none⟩ : Addr).add j) = some v) := fun j v hj => by
            obtain ⟨hj1, rfl⟩ := ints_getE hj
            rw [HSl.out] at hj1
            have e : (⟨g2, 0, none⟩ : Addr).add j = ⟨g2, j, none⟩ := by
              unfold Addr.add
              split
              · rename_i h; subst h; rfl
              · simp
            rw [e]
            exact (row_cl (HSl.out k) KR2.out hj1).1
          have L1 : Hid ((ints (stepC (cntR d k))).length = Nat.min d d) := by show _ = _; rw [ints_len, HSl.out]; simp
          have L2 : Hid (0 + (ints (stepC (cntR d k))).length ≤ cur.size) := by show _ ≤ _; rw [ints_len, HSl.out]; omega
          have L3 : Hid (∀ v ∈ ints (stepC (cntR d k)), v.oneCell' = true) := fun v hv => by
            obtain ⟨_, _, rfl⟩ := List.mem_map.1 hv
            rfl
          clear hov r2 r3 r4 r5
          go_wp2_with (with_reducible refine wpList_copy_own rfl (.tmp 53) (.tmp 54) 27 27 rfl 3 Try.underlying27 HSz.out g1 0 d c1 ⟨g2, 0, none⟩ d d rfl rfl cur 3 r1 (ints (stepC (cntR d k))) L1.out SRC.out L2.out L3.out ?_)
          refine ⟨⟨k + 1, by omega, by go_num, by rw [HCs.out]; simpa using HOV.out.1, ⟨_, HSl.out k, by simpa using HOV.out.2⟩, by simpa using HBV.out⟩, by simp [intOf]; omega⟩
    · obtain rfl : k = n := by omega
      have CS : Hid (Calls Try.prog 67 #[.slice (some ⟨g1, 0, none⟩) m c1] wr fun e w' => e = .returned (.int .i64 V) ∧ wr = w') := by
        have := c_sumOf (cntR m k) (.slice (some ⟨g1, 0, none⟩) m c1) wr (by rw [HCl.out]; omega) (HTm.out k (by omega)) HR.out.seen
        rw [HCl.out, HVV.out] at this
        exact this
      go_wp2_with fail
      refine CS.out.mono ?_
      rintro e w4 ⟨rfl, rfl⟩
      go_wp2
      go_ret2
      exact ⟨rfl, HB.out⟩
end Go.Proofs.Ytmkbjkmpincogaa
