/-
  Contracts: templates, in the program and in the model.
-/
import Derived.Test.YtmimilchldjkbaaDoorO2
import Derived.Test.YtmimilchldjkbaaDoorO6
import Derived.IntWalk
namespace Go.Proofs.YtmimilchldjkbaaDoor
open Go.RowKit
set_option linter.unusedVariables false

/-- The offset at place k is valid and comes behind the one before it. -/
def okT (xs : List Int) (k : Nat) : Bool := offB (xs.getD (k * 3) 0) (xs.getD (k * 3 + 1) 0) (xs.getD (k * 3 + 2) 0) && (decide (k = 0) || befB (xs.getD ((k - 1) * 3) 0) (xs.getD ((k - 1) * 3 + 1) 0) (xs.getD ((k - 1) * 3 + 2) 0) (xs.getD (k * 3) 0) (xs.getD (k * 3 + 1) 0) (xs.getD (k * 3 + 2) 0))
def TemTo (xs : List Int) (k : Nat) : Prop := ∀ j : Nat, j < k → okT xs j = true
def temAll (n : Nat) (xs : List Int) : Bool := (List.range n).all fun j => okT xs j
theorem temAll_true {n : Nat} {xs : List Int} (h : TemTo xs n) : temAll n xs = true := by
  unfold temAll
  rw [List.all_eq_true]
  exact fun j hj => h j (List.mem_range.1 hj)
theorem temAll_false {n : Nat} {xs : List Int} {k : Nat} (hk : k < n) (h : okT xs k = false) : temAll n xs = false := by
  unfold temAll
  rw [List.all_eq_false]
  exact ⟨k, List.mem_range.2 hk, by rw [h]; simp⟩
theorem temAll_at {n : Nat} {xs : List Int} (h : temAll n xs = true) {k : Nat} (hk : k < n) : okT xs k = true := by
  unfold temAll at h
  rw [List.all_eq_true] at h
  exact h k (List.mem_range.2 hk)
theorem TemTo.zero (xs : List Int) : TemTo xs 0 := fun j hj => by omega
theorem TemTo.succ {xs : List Int} {k : Nat} (h : TemTo xs k) (hk : okT xs k = true) : TemTo xs (k + 1) := fun j hj => by
  by_cases e : j = k
  · rw [e]; exact hk
  · exact h j (by omega)
/-- A template. -/
def temB (n : Nat) (xs : List Int) : Bool := decide (1 ≤ n ∧ n ≤ 12) && temAll n xs
theorem tem_true {n : Nat} {xs : List Int} (h : temB n xs = true) : 1 ≤ n ∧ n ≤ 12 ∧ temAll n xs = true := by
  unfold temB at h
  simp only [Bool.and_eq_true, decide_eq_true_eq] at h
  exact ⟨h.1.1, h.1.2, h.2⟩
theorem okT_off {xs : List Int} {k : Nat} {t m r : Int} (h : offB t m r = false) (e0 : xs.getD (k * 3) 0 = t) (e1 : xs.getD (k * 3 + 1) 0 = m) (e2 : xs.getD (k * 3 + 2) 0 = r) : okT xs k = false := by
  unfold okT; rw [e0, e1, e2, h]; rfl
theorem okT_zero {xs : List Int} {t m r : Int} (h : offB t m r = true) (e0 : xs.getD (0 * 3) 0 = t) (e1 : xs.getD (0 * 3 + 1) 0 = m) (e2 : xs.getD (0 * 3 + 2) 0 = r) : okT xs 0 = true := by
  unfold okT; rw [e0, e1, e2, h]; rfl
theorem okT_succ {xs : List Int} {k : Nat} {t m r : Int} (h : offB t m r = true) (e0 : xs.getD ((k + 1) * 3) 0 = t) (e1 : xs.getD ((k + 1) * 3 + 1) 0 = m) (e2 : xs.getD ((k + 1) * 3 + 2) 0 = r) : okT xs (k + 1) = befB (xs.getD (k * 3) 0) (xs.getD (k * 3 + 1) 0) (xs.getD (k * 3 + 2) 0) t m r := by
  unfold okT; rw [e0, e1, e2, h]; simp

set_option maxHeartbeats 4000000 in
theorem c_IsTemplate (n : Nat) (xs : List Int) (v : Value) (w : World) (hl : n ≤ 1048576) (h : SeenP w v n xs) :
    Calls Tryd.prog 135 #[v] w fun e w' => e = .returned (.bool (temB n xs)) ∧ Below w.heap.size w w' := by
  obtain ⟨A, c, rfl, hm, hx, hA⟩ := h
  clear hm
  by_cases hn : 1 ≤ n ∧ n ≤ 12
  · obtain ⟨n1, n2⟩ := hn
    obtain ⟨b, off, rfl, hb, hc⟩ := hA (by omega)
    have E1 : Hid (∀ (u : World), Below w.heap.size w u → ∀ j : Nat, j < n * 3 → u.cell? ⟨b, off + j, none⟩ = some (.int .i64 (xs.getD j 0))) := fun u hu j hj => by rw [hu.cell (p := ⟨b, off + j, none⟩) hb]; exact hc j hj
    have F1 : Hid (∀ k : Nat, k < n → okT xs k = false → temB n xs = false) := fun k hk h => by unfold temB; rw [temAll_false hk h, Bool.and_false]
    have F2 : Hid (TemTo xs n → temB n xs = true) := fun h => by unfold temB; rw [temAll_true h, decide_eq_true (p := 1 ≤ n ∧ n ≤ 12) ⟨n1, n2⟩]; rfl
    clear hA hc
    generalize temB n xs = R at *
    have a1 : ¬ (n : Int) < 1 := by omega
    have a2 : ¬ 12 < (n : Int) := by omega
    go_enter Tryd.func135, Tryd.ntmps135
    go_wp2_with fail
    go_loopw [15] (fun i wr => ∃ k : Nat, k ≤ n ∧ i = .int .i64 k ∧ TemTo xs k ∧ Below w.heap.size w wr) (fun i _ => n - (intOf i).toNat)
    case atStart => exact ⟨0, Nat.zero_le _, rfl, TemTo.zero _, Below.refl _ _⟩
    case round =>
      obtain ⟨k, hk, rfl, hP, hbw⟩ := hrel
      have HP := Lib.hid hP
      have HB := Lib.hid hbw
      clear hP hbw
      by_cases hlt : k < n
      · have q0 := E1.out wr HB.out (k * 3) (by omega)
        have q1 := E1.out wr HB.out (k * 3 + 1) (by omega)
        have q2 := E1.out wr HB.out (k * 3 + 2) (by omega)
        rw [← Nat.add_assoc] at q1 q2
        have HF2 := Lib.hid (F1.out k hlt)
        have HF1 := HF2
        have g1 : Hid (okT xs k = true → TemTo xs (k + 1)) := fun h => HP.out.succ h
        have T0 := Lib.hid (fun (h : offB (xs.getD (k * 3) 0) (xs.getD (k * 3 + 1) 0) (xs.getD (k * 3 + 2) 0) = false) => okT_off (xs := xs) (k := k) h rfl rfl rfl)
        have b1 : (0 : Int) ≤ (k : Int) := by omega
        have b2 : (k : Int) < (n : Int) := by omega
        cases k with
        | zero =>
          have T1 := Lib.hid (fun (h : offB (xs.getD (0 * 3) 0) (xs.getD (0 * 3 + 1) 0) (xs.getD (0 * 3 + 2) 0) = true) => okT_zero (xs := xs) h rfl rfl rfl)
          generalize xs.getD (0 * 3) 0 = t at *
          generalize xs.getD (0 * 3 + 1) 0 = m at *
          generalize xs.getD (0 * 3 + 2) 0 = r at *
          clear E1 HF1 F1
          simp only [Nat.zero_mul, Nat.add_zero] at q0 q1 q2
          have HBa : Hid (Below w.heap.size w (wr.alloc (.cells #[.int .i64 t, .int .i64 m, .int .i64 r] 133))) := HB.out.alloc HB.out.size _
          have HX : Hid (Box3 (wr.alloc (.cells #[.int .i64 t, .int .i64 m, .int .i64 r] 133)) wr.heap.size t m r) := Box3.new _ _ _ _ _
          cases hp : offB t m r
          · have G := Lib.hid (HF2.out (T0.out hp))
            have CO : Hid (∀ u, Calls Tryd.prog 155 #[.agg #[.int .i64 t, .int .i64 m, .int .i64 r]] u fun e w' => e = .returned (.bool false) ∧ Below u.heap.size u w') := fun u => by rw [← hp]; exact c_isOffset t m r u
            clear hp T0 T1 g1
            go_wp2_with fail
            generalize (wr.alloc (.cells #[.int .i64 t, .int .i64 m, .int .i64 r] 133)) = W at *
            have x0 := HX.out.c0
            have x1 := HX.out.c1
            have x2 := HX.out.c2
            have x3 := HX.out.lt
            refine wp_region_grow (by kernel_rfl) (by kernel_rfl) ?_
            repeat (go_big_quiet_step ((go_at_call 155; exact grow_of (CO.out _))))
            refine wpQuiet_nil ?_
            intro _ hw'
            obtain ⟨u, hw''⟩ := hw'
            subst hw''
            have hb2 := wOf_below W u
            generalize wOf W u = w2 at hb2 ⊢
            have HB2 : Hid (Below w.heap.size w w2) := HBa.out.trans (hb2.mono HBa.out.size)
            clear hb2
            go_wp2
            go_ret
            exact ⟨ret_bool G.out.symm, HB2.out⟩
          · have G := Lib.hid (g1.out (T1.out hp))
            have CO : Hid (∀ u, Calls Tryd.prog 155 #[.agg #[.int .i64 t, .int .i64 m, .int .i64 r]] u fun e w' => e = .returned (.bool true) ∧ Below u.heap.size u w') := fun u => by rw [← hp]; exact c_isOffset t m r u
            clear hp T0 T1 g1
            go_wp2_with fail
            generalize (wr.alloc (.cells #[.int .i64 t, .int .i64 m, .int .i64 r] 133)) = W at *
            have x0 := HX.out.c0
            have x1 := HX.out.c1
            have x2 := HX.out.c2
            have x3 := HX.out.lt
            refine wp_region_grow (by kernel_rfl) (by kernel_rfl) ?_
            repeat (go_big_quiet_step ((go_at_call 155; exact grow_of (CO.out _))))
            refine wpQuiet_nil ?_
            intro _ hw'
            obtain ⟨u, hw''⟩ := hw'
            subst hw''
            have hb2 := wOf_below W u
            generalize wOf W u = w2 at hb2 ⊢
            have HB2 : Hid (Below w.heap.size w w2) := HBa.out.trans (hb2.mono HBa.out.size)
            clear hb2
            go_wp2
            go_roundw
            case rel => exact ⟨1, by omega, by go_num, G.out, HB2.out⟩
            case measure => simp [intOf]; omega
        | succ k =>
          have T1 := Lib.hid (fun (h : offB (xs.getD ((k + 1) * 3) 0) (xs.getD ((k + 1) * 3 + 1) 0) (xs.getD ((k + 1) * 3 + 2) 0) = true) => okT_succ (xs := xs) h rfl rfl rfl)
          have y0 := E1.out wr HB.out (k * 3) (by omega)
          have y1 := E1.out wr HB.out (k * 3 + 1) (by omega)
          have y2 := E1.out wr HB.out (k * 3 + 2) (by omega)
          rw [← Nat.add_assoc] at y1 y2
          have lb : b < wr.heap.size := Nat.lt_of_lt_of_le hb HB.out.size
          generalize xs.getD ((k + 1) * 3) 0 = t at *
          generalize xs.getD ((k + 1) * 3 + 1) 0 = m at *
          generalize xs.getD ((k + 1) * 3 + 2) 0 = r at *
          generalize xs.getD (k * 3) 0 = t' at *
          generalize xs.getD (k * 3 + 1) 0 = m' at *
          generalize xs.getD (k * 3 + 2) 0 = r' at *
          clear E1 HF1 F1
          have HBa : Hid (Below w.heap.size w (wr.alloc (.cells #[.int .i64 t, .int .i64 m, .int .i64 r] 133))) := HB.out.alloc HB.out.size _
          have HX : Hid (Box3 (wr.alloc (.cells #[.int .i64 t, .int .i64 m, .int .i64 r] 133)) wr.heap.size t m r) := Box3.new _ _ _ _ _
          have HY : Hid (∀ u, Below (wr.alloc (.cells #[.int .i64 t, .int .i64 m, .int .i64 r] 133)).heap.size (wr.alloc (.cells #[.int .i64 t, .int .i64 m, .int .i64 r] 133)) u → u.cell? ⟨b, off + k * 3, none⟩ = some (.int .i64 t') ∧ u.cell? ⟨b, off + k * 3 + 1, none⟩ = some (.int .i64 m') ∧ u.cell? ⟨b, off + k * 3 + 2, none⟩ = some (.int .i64 r')) := fun u hu => by
            have hv : Below wr.heap.size wr u := ((Below.refl wr.heap.size wr).alloc (Nat.le_refl _) _).trans (hu.mono (by simp))
            exact ⟨by rw [hv.cell (p := ⟨b, off + k * 3, none⟩) lb]; exact y0, by rw [hv.cell (p := ⟨b, off + k * 3 + 1, none⟩) lb]; exact y1, by rw [hv.cell (p := ⟨b, off + k * 3 + 2, none⟩) lb]; exact y2⟩
          cases hp : offB t m r
          · have G := Lib.hid (HF2.out (T0.out hp))
            have CO : Hid (∀ u, Calls Tryd.prog 155 #[.agg #[.int .i64 t, .int .i64 m, .int .i64 r]] u fun e w' => e = .returned (.bool false) ∧ Below u.heap.size u w') := fun u => by rw [← hp]; exact c_isOffset t m r u
            clear hp T0 T1 g1 y0 y1 y2
            go_wp2_with fail
            generalize (wr.alloc (.cells #[.int .i64 t, .int .i64 m, .int .i64 r] 133)) = W at *
            have x0 := HX.out.c0
            have x1 := HX.out.c1
            have x2 := HX.out.c2
            have x3 := HX.out.lt
            refine wp_region_grow (by kernel_rfl) (by kernel_rfl) ?_
            repeat (go_big_quiet_step ((go_at_call 155; exact grow_of (CO.out _))))
            refine wpQuiet_nil ?_
            intro _ hw'
            obtain ⟨u, hw''⟩ := hw'
            subst hw''
            have hb2 := wOf_below W u
            generalize wOf W u = w2 at hb2 ⊢
            have HB2 : Hid (Below w.heap.size w w2) := HBa.out.trans (hb2.mono HBa.out.size)
            clear hb2
            go_wp2
            go_ret
            exact ⟨ret_bool G.out.symm, HB2.out⟩
          · have G := Lib.hid (T1.out hp)
            have CO : Hid (∀ u, Calls Tryd.prog 155 #[.agg #[.int .i64 t, .int .i64 m, .int .i64 r]] u fun e w' => e = .returned (.bool true) ∧ Below u.heap.size u w') := fun u => by rw [← hp]; exact c_isOffset t m r u
            have HN := Lib.hid (cmpO_neg t' m' r' t m r)
            clear hp T0 T1 y0 y1 y2
            have CC : Hid (∀ u, Calls Tryd.prog 156 #[.agg #[.int .i64 t', .int .i64 m', .int .i64 r'], .agg #[.int .i64 t, .int .i64 m, .int .i64 r]] u fun e w' => e = .returned (.int .i64 (cmpO t' m' r' t m r)) ∧ Below u.heap.size u w') := fun u => c_compareOffsets t' m' r' t m r u
            generalize cmpO t' m' r' t m r = cv at *
            generalize befB t' m' r' t m r = bv at *
            go_wp2_with fail
            generalize (wr.alloc (.cells #[.int .i64 t, .int .i64 m, .int .i64 r] 133)) = W at *
            have KD : Hid (Below W.heap.size W W.drew) := (Below.refl _ _).drew
            have KE : Hid (∀ u, Below W.heap.size W u → u.cell? ⟨wr.heap.size, 0, none⟩ = some (.int .i64 t) ∧ u.cell? ⟨wr.heap.size, 1, none⟩ = some (.int .i64 m) ∧ u.cell? ⟨wr.heap.size, 2, none⟩ = some (.int .i64 r) ∧ u.cell? ⟨b, off + k * 3, none⟩ = some (.int .i64 t') ∧ u.cell? ⟨b, off + k * 3 + 1, none⟩ = some (.int .i64 m') ∧ u.cell? ⟨b, off + k * 3 + 2, none⟩ = some (.int .i64 r')) := fun u hu => by
              have h1 := HX.out.below hu
              exact ⟨h1.c0, h1.c1, h1.c2, HY.out u hu⟩
            have i0 : (0 : Int) < ((k + 1 : Nat) : Int) := by omega
            have i1 : (0 : Int) ≤ (k : Int) := by omega
            have i2 : (k : Int) < (n : Int) := by omega
            have iw : IntKind.i64.wrap (((k : Nat) : Int) + 1 - 1) = (k : Int) := by rw [show ((k : Int) + 1 - 1) = (k : Int) by omega]; exact IntWalk.i64_in _ (by omega)
            have iv : IntKind.i64.wrap (((k + 1 : Nat) : Int) - 1) = (k : Int) := by rw [show (((k + 1 : Nat) : Int) - 1) = (k : Int) by omega]; exact IntWalk.i64_in _ (by omega)
            have iz : IntKind.i64.wrap (k : Int) = (k : Int) := IntWalk.i64_in _ (by omega)
            go_region_held3 (fun u => u.cell? ⟨wr.heap.size, 0, none⟩ = some (.int .i64 t) ∧ u.cell? ⟨wr.heap.size, 1, none⟩ = some (.int .i64 m) ∧ u.cell? ⟨wr.heap.size, 2, none⟩ = some (.int .i64 r) ∧ u.cell? ⟨b, off + k * 3, none⟩ = some (.int .i64 t') ∧ u.cell? ⟨b, off + k * 3 + 1, none⟩ = some (.int .i64 m') ∧ u.cell? ⟨b, off + k * 3 + 2, none⟩ = some (.int .i64 r')) (first | with_reducible exact KE.out _ KD.out | with_reducible exact KE.out _ U1.out | with_reducible exact KE.out _ U2.out)
              (first | (go_at_call 155; refine (CO.out _).mono ?_; rintro e w1 ⟨rfl, hb1⟩; have U1 : Hid (Below W.heap.size W w1) := KD.out.trans (hb1.mono KD.out.size); clear hb1) | (go_at_call 156; refine (CC.out _).mono ?_; rintro e w2 ⟨rfl, hb2⟩; have U2 : Hid (Below W.heap.size W w2) := U1.out.trans (hb2.mono U1.out.size); clear hb2))
            have HB2 : Hid (Below w.heap.size w w2) := HBa.out.trans (U2.out.mono HBa.out.size)
            cases bv
            · have hc : (0 : Int) ≤ cv := by
                rcases Int.lt_or_le cv 0 with h | h
                · exact absurd (HN.out.1 h) (by simp)
                · exact h
              have G2 := Lib.hid (HF2.out G.out)
              clear HN HY U1 U2
              go_wp2
              go_ret
              exact ⟨ret_bool G2.out.symm, HB2.out⟩
            · have hc : ¬ (0 : Int) ≤ cv := by have := HN.out.2 rfl; omega
              have G2 := Lib.hid (g1.out G.out)
              clear HN HY U1 U2
              go_wp2
              go_roundw
              case rel => exact ⟨k + 1 + 1, by omega, by go_num, G2.out, HB2.out⟩
              case measure => simp [intOf]; omega
      · obtain rfl : k = n := by omega
        have G := Lib.hid (F2.out HP.out)
        go_wp2
        go_ret
        exact ⟨ret_bool G.out.symm, HB.out⟩
  · have hB : temB n xs = false := by unfold temB; rw [decide_eq_false hn]; rfl
    rw [hB]
    clear hB hA
    by_cases n1 : (n : Int) < 1
    · go_enter Tryd.func135, Tryd.ntmps135
      go_wp2
      go_ret
      exact ⟨rfl, Below.refl _ _⟩
    · have n2 : 12 < (n : Int) := by omega
      go_enter Tryd.func135, Tryd.ntmps135
      go_wp2
      go_ret
      exact ⟨rfl, Below.refl _ _⟩
-- model
def insB (n lo hi : Int) : Bool := decide (lo ≤ n ∧ n ≤ hi)
theorem c_insB (n lo hi : Int) (w : World) : Calls Tryd.prog 39 #[.int .i64 n, .int .i64 lo, .int .i64 hi] w fun e w' => e = .returned (.bool (insB n lo hi)) ∧ w = w' := c_l1In n lo hi w

set_option maxHeartbeats 4000000 in
theorem c_slTemplate (n : Nat) (xs : List Int) (v : Value) (w : World) (hl : n ≤ 1048576) (h : SeenP w v n xs) :
    Calls Tryd.prog 133 #[v] w fun e w' => e = .returned (.bool (temB n xs)) ∧ Below w.heap.size w w' := by
  obtain ⟨A, c, rfl, hm, hx, hA⟩ := h
  clear hm
  have E0 : Hid (∀ k : Nat, k < n → ∃ b off, A = some ⟨b, off, none⟩ ∧ b < w.heap.size ∧ ∀ j : Nat, j < n * 3 → w.cell? ⟨b, off + j, none⟩ = some (.int .i64 (xs.getD j 0))) := fun k hk => hA (by omega)
  have F1 : Hid (∀ k : Nat, k < n → okT xs k = false → temB n xs = false) := fun k hk h => by unfold temB; rw [temAll_false hk h, Bool.and_false]
  have F2 : Hid (TemTo xs n → temB n xs = insB n 1 12) := fun h => by unfold temB insB; rw [temAll_true h, Bool.and_true]; exact decide_eq_decide.2 (by omega)
  clear hA
  generalize temB n xs = R at *
  go_enter Tryd.func133, Tryd.ntmps133
  go_wp2_with fail
  go_loopw [7] (fun i wr => ∃ k : Nat, k ≤ n ∧ i = .int .i64 k ∧ TemTo xs k ∧ Below w.heap.size w wr) (fun i _ => n - (intOf i).toNat)
  case atStart => exact ⟨0, Nat.zero_le _, rfl, TemTo.zero _, Below.refl _ _⟩
  case round =>
    obtain ⟨k, hk, rfl, hP, hbw⟩ := hrel
    have HP := Lib.hid hP
    have HB := Lib.hid hbw
    clear hP hbw
    by_cases hlt : k < n
    · obtain ⟨b, off, rfl, hb, hc⟩ := E0.out k hlt
      have E1 : Hid (∀ (u : World), Below w.heap.size w u → ∀ j : Nat, j < n * 3 → u.cell? ⟨b, off + j, none⟩ = some (.int .i64 (xs.getD j 0))) := fun u hu j hj => by rw [hu.cell (p := ⟨b, off + j, none⟩) hb]; exact hc j hj
      clear hc E0
      have q0 := E1.out wr HB.out (k * 3) (by omega)
      have q1 := E1.out wr HB.out (k * 3 + 1) (by omega)
      have q2 := E1.out wr HB.out (k * 3 + 2) (by omega)
      rw [← Nat.add_assoc] at q1 q2
      have HF2 := Lib.hid (F1.out k hlt)
      have HF1 := HF2
      have g1 : Hid (okT xs k = true → TemTo xs (k + 1)) := fun h => HP.out.succ h
      have T0 := Lib.hid (fun (h : offB (xs.getD (k * 3) 0) (xs.getD (k * 3 + 1) 0) (xs.getD (k * 3 + 2) 0) = false) => okT_off (xs := xs) (k := k) h rfl rfl rfl)
      have b1 : (0 : Int) ≤ (k : Int) := by omega
      have b2 : (k : Int) < (n : Int) := by omega
      cases k with
      | zero =>
        have T1 := Lib.hid (fun (h : offB (xs.getD (0 * 3) 0) (xs.getD (0 * 3 + 1) 0) (xs.getD (0 * 3 + 2) 0) = true) => okT_zero (xs := xs) h rfl rfl rfl)
        generalize xs.getD (0 * 3) 0 = t at *
        generalize xs.getD (0 * 3 + 1) 0 = m at *
        generalize xs.getD (0 * 3 + 2) 0 = r at *
        clear E1 HF1 F1
        simp only [Nat.zero_mul, Nat.add_zero] at q0 q1 q2
        have HBa : Hid (Below w.heap.size w (wr.alloc (.cells #[.int .i64 t, .int .i64 m, .int .i64 r] 133))) := HB.out.alloc HB.out.size _
        have HX : Hid (Box3 (wr.alloc (.cells #[.int .i64 t, .int .i64 m, .int .i64 r] 133)) wr.heap.size t m r) := Box3.new _ _ _ _ _
        by_cases hx1 : -2 ≤ t ∧ t ≤ 2
        case neg =>
          have dx : insB t (-2) 2 = false := decide_eq_false hx1
          have G := Lib.hid (HF2.out (T0.out (by unfold offB; exact decide_eq_false (by omega))))
          clear T0 T1 g1 hx1
          go_wp2_with fail
          generalize (wr.alloc (.cells #[.int .i64 t, .int .i64 m, .int .i64 r] 133)) = W at *
          have x0 := HX.out.c0
          have x1 := HX.out.c1
          have x2 := HX.out.c2
          have x3 := HX.out.lt
          refine wp_region_grow (by kernel_rfl) (by kernel_rfl) ?_
          repeat (go_big_quiet_step ((go_at_call 39; exact grow_same (c_insB _ _ _ _))))
          refine wpQuiet_nil ?_
          intro _ hw'
          obtain ⟨u, hw''⟩ := hw'
          subst hw''
          have hb2 := wOf_below W u
          generalize wOf W u = w2 at hb2 ⊢
          have HB2 : Hid (Below w.heap.size w w2) := HBa.out.trans (hb2.mono HBa.out.size)
          clear hb2
          go_wp2
          go_ret
          exact ⟨ret_bool G.out.symm, HB2.out⟩
        case pos =>
          by_cases hy1 : -2 ≤ m ∧ m ≤ 2
          case neg =>
            have dx : insB t (-2) 2 = true := decide_eq_true hx1
            have dy : insB m (-2) 2 = false := decide_eq_false hy1
            have G := Lib.hid (HF2.out (T0.out (by unfold offB; exact decide_eq_false (by omega))))
            clear T0 T1 g1 hx1 hy1
            go_wp2_with fail
            generalize (wr.alloc (.cells #[.int .i64 t, .int .i64 m, .int .i64 r] 133)) = W at *
            have x0 := HX.out.c0
            have x1 := HX.out.c1
            have x2 := HX.out.c2
            have x3 := HX.out.lt
            refine wp_region_grow (by kernel_rfl) (by kernel_rfl) ?_
            repeat (go_big_quiet_step ((go_at_call 39; exact grow_same (c_insB _ _ _ _))))
            refine wpQuiet_nil ?_
            intro _ hw'
            obtain ⟨u, hw''⟩ := hw'
            subst hw''
            have hb2 := wOf_below W u
            generalize wOf W u = w2 at hb2 ⊢
            have HB2 : Hid (Below w.heap.size w w2) := HBa.out.trans (hb2.mono HBa.out.size)
            clear hb2
            go_wp2
            go_ret
            exact ⟨ret_bool G.out.symm, HB2.out⟩
          case pos =>
            by_cases hz1 : 1 ≤ r ∧ r ≤ 2
            case neg =>
              have dx : insB t (-2) 2 = true := decide_eq_true hx1
              have dy : insB m (-2) 2 = true := decide_eq_true hy1
              have dz : insB r 1 2 = false := decide_eq_false hz1
              have G := Lib.hid (HF2.out (T0.out (by unfold offB; exact decide_eq_false (by omega))))
              clear T0 T1 g1 hx1 hy1 hz1
              go_wp2_with fail
              generalize (wr.alloc (.cells #[.int .i64 t, .int .i64 m, .int .i64 r] 133)) = W at *
              have x0 := HX.out.c0
              have x1 := HX.out.c1
              have x2 := HX.out.c2
              have x3 := HX.out.lt
              refine wp_region_grow (by kernel_rfl) (by kernel_rfl) ?_
              repeat (go_big_quiet_step ((go_at_call 39; exact grow_same (c_insB _ _ _ _))))
              refine wpQuiet_nil ?_
              intro _ hw'
              obtain ⟨u, hw''⟩ := hw'
              subst hw''
              have hb2 := wOf_below W u
              generalize wOf W u = w2 at hb2 ⊢
              have HB2 : Hid (Below w.heap.size w w2) := HBa.out.trans (hb2.mono HBa.out.size)
              clear hb2
              go_wp2
              go_ret
              exact ⟨ret_bool G.out.symm, HB2.out⟩
            case pos =>
              have dx : insB t (-2) 2 = true := decide_eq_true hx1
              have dy : insB m (-2) 2 = true := decide_eq_true hy1
              have dz : insB r 1 2 = true := decide_eq_true hz1
              have hp : offB t m r = true := decide_eq_true (by omega)
              have G := Lib.hid (g1.out (T1.out hp))
              clear hp T0 T1 g1 hx1 hy1 hz1
              go_wp2_with fail
              generalize (wr.alloc (.cells #[.int .i64 t, .int .i64 m, .int .i64 r] 133)) = W at *
              have x0 := HX.out.c0
              have x1 := HX.out.c1
              have x2 := HX.out.c2
              have x3 := HX.out.lt
              refine wp_region_grow (by kernel_rfl) (by kernel_rfl) ?_
              repeat (go_big_quiet_step ((go_at_call 39; exact grow_same (c_insB _ _ _ _))))
              refine wpQuiet_nil ?_
              intro _ hw'
              obtain ⟨u, hw''⟩ := hw'
              subst hw''
              have hb2 := wOf_below W u
              generalize wOf W u = w2 at hb2 ⊢
              have HB2 : Hid (Below w.heap.size w w2) := HBa.out.trans (hb2.mono HBa.out.size)
              clear hb2
              go_wp2
              go_roundw
              case rel => exact ⟨1, by omega, by go_num, G.out, HB2.out⟩
              case measure => simp [intOf]; omega
      | succ k =>
        have T1 := Lib.hid (fun (h : offB (xs.getD ((k + 1) * 3) 0) (xs.getD ((k + 1) * 3 + 1) 0) (xs.getD ((k + 1) * 3 + 2) 0) = true) => okT_succ (xs := xs) h rfl rfl rfl)
        have y0 := E1.out wr HB.out (k * 3) (by omega)
        have y1 := E1.out wr HB.out (k * 3 + 1) (by omega)
        have y2 := E1.out wr HB.out (k * 3 + 2) (by omega)
        rw [← Nat.add_assoc] at y1 y2
        have lb : b < wr.heap.size := Nat.lt_of_lt_of_le hb HB.out.size
        generalize xs.getD ((k + 1) * 3) 0 = t at *
        generalize xs.getD ((k + 1) * 3 + 1) 0 = m at *
        generalize xs.getD ((k + 1) * 3 + 2) 0 = r at *
        generalize xs.getD (k * 3) 0 = t' at *
        generalize xs.getD (k * 3 + 1) 0 = m' at *
        generalize xs.getD (k * 3 + 2) 0 = r' at *
        clear E1 HF1 F1
        have HBa : Hid (Below w.heap.size w (wr.alloc (.cells #[.int .i64 t, .int .i64 m, .int .i64 r] 133))) := HB.out.alloc HB.out.size _
        have HX : Hid (Box3 (wr.alloc (.cells #[.int .i64 t, .int .i64 m, .int .i64 r] 133)) wr.heap.size t m r) := Box3.new _ _ _ _ _
        have HY : Hid (∀ u, Below (wr.alloc (.cells #[.int .i64 t, .int .i64 m, .int .i64 r] 133)).heap.size (wr.alloc (.cells #[.int .i64 t, .int .i64 m, .int .i64 r] 133)) u → u.cell? ⟨b, off + k * 3, none⟩ = some (.int .i64 t') ∧ u.cell? ⟨b, off + k * 3 + 1, none⟩ = some (.int .i64 m') ∧ u.cell? ⟨b, off + k * 3 + 2, none⟩ = some (.int .i64 r')) := fun u hu => by
          have hv : Below wr.heap.size wr u := ((Below.refl wr.heap.size wr).alloc (Nat.le_refl _) _).trans (hu.mono (by simp))
          exact ⟨by rw [hv.cell (p := ⟨b, off + k * 3, none⟩) lb]; exact y0, by rw [hv.cell (p := ⟨b, off + k * 3 + 1, none⟩) lb]; exact y1, by rw [hv.cell (p := ⟨b, off + k * 3 + 2, none⟩) lb]; exact y2⟩
        by_cases hx1 : -2 ≤ t ∧ t ≤ 2
        case neg =>
          have dx : insB t (-2) 2 = false := decide_eq_false hx1
          have G := Lib.hid (HF2.out (T0.out (by unfold offB; exact decide_eq_false (by omega))))
          clear T0 T1 g1 hx1
          go_wp2_with fail
          generalize (wr.alloc (.cells #[.int .i64 t, .int .i64 m, .int .i64 r] 133)) = W at *
          have x0 := HX.out.c0
          have x1 := HX.out.c1
          have x2 := HX.out.c2
          have x3 := HX.out.lt
          refine wp_region_grow (by kernel_rfl) (by kernel_rfl) ?_
          repeat (go_big_quiet_step ((go_at_call 39; exact grow_same (c_insB _ _ _ _))))
          refine wpQuiet_nil ?_
          intro _ hw'
          obtain ⟨u, hw''⟩ := hw'
          subst hw''
          have hb2 := wOf_below W u
          generalize wOf W u = w2 at hb2 ⊢
          have HB2 : Hid (Below w.heap.size w w2) := HBa.out.trans (hb2.mono HBa.out.size)
          clear hb2
          go_wp2
          go_ret
          exact ⟨ret_bool G.out.symm, HB2.out⟩
        case pos =>
          by_cases hy1 : -2 ≤ m ∧ m ≤ 2
          case neg =>
            have dx : insB t (-2) 2 = true := decide_eq_true hx1
            have dy : insB m (-2) 2 = false := decide_eq_false hy1
            have G := Lib.hid (HF2.out (T0.out (by unfold offB; exact decide_eq_false (by omega))))
            clear T0 T1 g1 hx1 hy1
            go_wp2_with fail
            generalize (wr.alloc (.cells #[.int .i64 t, .int .i64 m, .int .i64 r] 133)) = W at *
            have x0 := HX.out.c0
            have x1 := HX.out.c1
            have x2 := HX.out.c2
            have x3 := HX.out.lt
            refine wp_region_grow (by kernel_rfl) (by kernel_rfl) ?_
            repeat (go_big_quiet_step ((go_at_call 39; exact grow_same (c_insB _ _ _ _))))
            refine wpQuiet_nil ?_
            intro _ hw'
            obtain ⟨u, hw''⟩ := hw'
            subst hw''
            have hb2 := wOf_below W u
            generalize wOf W u = w2 at hb2 ⊢
            have HB2 : Hid (Below w.heap.size w w2) := HBa.out.trans (hb2.mono HBa.out.size)
            clear hb2
            go_wp2
            go_ret
            exact ⟨ret_bool G.out.symm, HB2.out⟩
          case pos =>
            by_cases hz1 : 1 ≤ r ∧ r ≤ 2
            case neg =>
              have dx : insB t (-2) 2 = true := decide_eq_true hx1
              have dy : insB m (-2) 2 = true := decide_eq_true hy1
              have dz : insB r 1 2 = false := decide_eq_false hz1
              have G := Lib.hid (HF2.out (T0.out (by unfold offB; exact decide_eq_false (by omega))))
              clear T0 T1 g1 hx1 hy1 hz1
              go_wp2_with fail
              generalize (wr.alloc (.cells #[.int .i64 t, .int .i64 m, .int .i64 r] 133)) = W at *
              have x0 := HX.out.c0
              have x1 := HX.out.c1
              have x2 := HX.out.c2
              have x3 := HX.out.lt
              refine wp_region_grow (by kernel_rfl) (by kernel_rfl) ?_
              repeat (go_big_quiet_step ((go_at_call 39; exact grow_same (c_insB _ _ _ _))))
              refine wpQuiet_nil ?_
              intro _ hw'
              obtain ⟨u, hw''⟩ := hw'
              subst hw''
              have hb2 := wOf_below W u
              generalize wOf W u = w2 at hb2 ⊢
              have HB2 : Hid (Below w.heap.size w w2) := HBa.out.trans (hb2.mono HBa.out.size)
              clear hb2
              go_wp2
              go_ret
              exact ⟨ret_bool G.out.symm, HB2.out⟩
            case pos =>
              have dx : insB t (-2) 2 = true := decide_eq_true hx1
              have dy : insB m (-2) 2 = true := decide_eq_true hy1
              have dz : insB r 1 2 = true := decide_eq_true hz1
              have hp : offB t m r = true := decide_eq_true (by omega)
              have G := Lib.hid (T1.out hp)
              clear hp T0 T1 hx1 hy1 hz1
              have CC : Hid (∀ u, Calls Tryd.prog 154 #[.agg #[.int .i64 t', .int .i64 m', .int .i64 r'], .agg #[.int .i64 t, .int .i64 m, .int .i64 r]] u fun e w' => e = .returned (.bool (befB t' m' r' t m r)) ∧ Below u.heap.size u w') := fun u => c_slBefore t' m' r' t m r u
              generalize befB t' m' r' t m r = bv at *
              go_wp2_with fail
              generalize (wr.alloc (.cells #[.int .i64 t, .int .i64 m, .int .i64 r] 133)) = W at *
              have KD : Hid (Below W.heap.size W W.drew) := (Below.refl _ _).drew
              have KE : Hid (∀ u, Below W.heap.size W u → u.cell? ⟨wr.heap.size, 0, none⟩ = some (.int .i64 t) ∧ u.cell? ⟨wr.heap.size, 1, none⟩ = some (.int .i64 m) ∧ u.cell? ⟨wr.heap.size, 2, none⟩ = some (.int .i64 r) ∧ u.cell? ⟨b, off + k * 3, none⟩ = some (.int .i64 t') ∧ u.cell? ⟨b, off + k * 3 + 1, none⟩ = some (.int .i64 m') ∧ u.cell? ⟨b, off + k * 3 + 2, none⟩ = some (.int .i64 r')) := fun u hu => by
                have h1 := HX.out.below hu
                exact ⟨h1.c0, h1.c1, h1.c2, HY.out u hu⟩
              have i0 : (0 : Int) < ((k + 1 : Nat) : Int) := by omega
              have i1 : (0 : Int) ≤ (k : Int) := by omega
              have i2 : (k : Int) < (n : Int) := by omega
              have iz : IntKind.i64.wrap (k : Int) = (k : Int) := IntWalk.i64_in _ (by omega)
              go_region_held3 (fun u => u.cell? ⟨wr.heap.size, 0, none⟩ = some (.int .i64 t) ∧ u.cell? ⟨wr.heap.size, 1, none⟩ = some (.int .i64 m) ∧ u.cell? ⟨wr.heap.size, 2, none⟩ = some (.int .i64 r) ∧ u.cell? ⟨b, off + k * 3, none⟩ = some (.int .i64 t') ∧ u.cell? ⟨b, off + k * 3 + 1, none⟩ = some (.int .i64 m') ∧ u.cell? ⟨b, off + k * 3 + 2, none⟩ = some (.int .i64 r')) (first | with_reducible exact KE.out _ KD.out | with_reducible exact KE.out _ U2.out)
                (first | (go_at_call 39; refine (c_insB _ _ _ _).mono ?_; rintro e w1 ⟨rfl, rfl⟩) | (go_at_call 154; refine (CC.out _).mono ?_; rintro e w2 ⟨rfl, hb2⟩; have U2 : Hid (Below W.heap.size W w2) := KD.out.trans (hb2.mono KD.out.size); clear hb2))
              have HB2 : Hid (Below w.heap.size w w2) := HBa.out.trans (U2.out.mono HBa.out.size)
              cases bv
              · have G2 := Lib.hid (HF2.out G.out)
                clear HY U2
                go_wp2
                go_ret
                exact ⟨ret_bool G2.out.symm, HB2.out⟩
              · have G2 := Lib.hid (g1.out G.out)
                clear HY U2
                go_wp2
                go_roundw
                case rel => exact ⟨k + 1 + 1, by omega, by go_num, G2.out, HB2.out⟩
                case measure => simp [intOf]; omega
    · obtain rfl : k = n := by omega
      have G := Lib.hid (F2.out HP.out)
      go_wp2_with fail
      refine (c_insB _ _ _ _).mono ?_
      rintro e w2 ⟨rfl, rfl⟩
      go_wp2
      go_ret
      exact ⟨ret_bool G.out.symm, HB.out⟩

end Go.Proofs.YtmimilchldjkbaaDoor
