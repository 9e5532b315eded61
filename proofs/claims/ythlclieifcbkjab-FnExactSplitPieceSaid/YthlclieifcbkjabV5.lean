/-
  Contracts: the program's shares, whole.
-/
import Derived.Test.YthlclieifcbkjabV4
namespace Go.Proofs.Ythlclieifcbkjab
open Go.RowKit
set_option linter.unusedVariables false

/-- The first k shares laid, the others 0. -/
def halfS (N W : Int) (ws : List Int) (n k : Nat) : List Int := basS N W ws k ++ List.replicate (n - k) 0
theorem halfS_len (N W : Int) (ws : List Int) {n k : Nat} (h : k ≤ n) : (halfS N W ws n k).length = n := by unfold halfS; rw [List.length_append, basS_len, List.length_replicate]; omega
theorem halfS_set (N W : Int) (ws : List Int) {n k : Nat} (h : k < n) : (halfS N W ws n k).set k (qoA N W ws k) = halfS N W ws n (k + 1) := by
  unfold halfS
  rw [basS_succ, List.set_append_right _ _ (by rw [basS_len]; omega), basS_len, Nat.sub_self, show n - k = (n - (k + 1)) + 1 by omega, List.replicate_succ]
  simp
theorem halfS_zero (N W : Int) (ws : List Int) (n : Nat) : halfS N W ws n 0 = List.replicate n 0 := by simp [halfS, basS]
theorem halfS_all (N W : Int) (ws : List Int) (n : Nat) : halfS N W ws n n = basS N W ws n := by simp [halfS]
theorem qoA_box {N W : Int} {ws : List Int} {k : Nat} (N0 : 0 ≤ N) (N1 : N ≤ 10000000) (W0 : 0 < W) (h : 0 ≤ ws.getD k 0 ∧ ws.getD k 0 ≤ 10000) : 0 ≤ qoA N W ws k ∧ qoA N W ws k ≤ 100000000000 := by
  obtain ⟨x0, x1⟩ := mul_box N0 N1 h.1 h.2
  unfold qoA
  constructor
  · exact Int.ediv_nonneg x0 (by omega)
  · have := Int.ediv_le_self W x0
    omega
theorem lefS_box {N W : Int} {ws : List Int} (N0 : 0 ≤ N) (N1 : N ≤ 10000000) (W0 : 0 < W) (hm : Mild ws 10000) : ∀ k, k ≤ ws.length → N - 100000000000 * (k : Int) ≤ lefS N W ws k ∧ lefS N W ws k ≤ N
  | 0, _ => by simp [lefS]
  | k + 1, hk => by
    have ih := lefS_box N0 N1 W0 hm k (by omega)
    have := qoA_box (k := k) N0 N1 W0 (hm k (by omega))
    rw [lefS]
    omega

theorem incA_box (l : List Int) : ∀ (base : List Int) (M : Int), (∀ i, 0 ≤ base.getD i 0 ∧ base.getD i 0 ≤ M) → ∀ i, 0 ≤ (incA base l).getD i 0 ∧ (incA base l).getD i 0 ≤ M + (l.length : Int) := by
  induction l with
  | nil => intro base M h i; simpa [incA] using h i
  | cons x l ih =>
    intro base M h i
    have h' : ∀ j, 0 ≤ (base.set x.toNat (base.getD x.toNat 0 + 1)).getD j 0 ∧ (base.set x.toNat (base.getD x.toNat 0 + 1)).getD j 0 ≤ M + 1 := fun j => by
      have a := h j
      have b := h x.toNat
      rw [List.getD_eq_getElem?_getD, List.getElem?_set]
      by_cases e : x.toNat = j
      · rw [if_pos e]
        split
        · simp only [Option.getD_some]; omega
        · simp only [Option.getD_none]; omega
      · rw [if_neg e, ← List.getD_eq_getElem?_getD]
        omega
    have := ih _ _ h' i
    unfold incA at *
    rw [List.foldl_cons, List.length_cons]
    omega
theorem one_new (w : World) (v : Value) (T : TypeId) : (w.alloc (.cells #[v] T)).cell? ⟨w.heap.size, 0, none⟩ = some v := by simp

set_option maxHeartbeats 8000000 in
set_option maxRecDepth 100000 in
theorem c_sharesOf (N : Int) (ws : List Int) (v : Value) (w : World) (hl : ws.length ≤ 20) (h0 : 0 < ws.length) (hm : Mild ws 10000) (N0 : 0 ≤ N) (N1 : N ≤ 10000000) (W0 : 0 < sumTo ws ws.length) (h : Seen w v ws) :
    Calls Try.prog 38 #[.int .i64 N, v] w (GivesRow w (shaL N ws)) := by
  obtain ⟨i0, hi0, hz0, hz1, hz2⟩ := info_parts int_info
  have W1 : sumTo ws ws.length ≤ 200000 := by have := sumTo_box hm ws.length (Nat.le_refl _); omega
  obtain ⟨wb, off, c, rfl, hwb, hcell⟩ := seen_at h h0
  have E1 := Lib.hid hcell
  have HSe := Lib.hid h
  have HM := Lib.hid hm
  obtain ⟨lf0, lf1⟩ := left_box (N := N) W0 rfl
  obtain ⟨L, hL⟩ : ∃ L : Nat, lefS N (sumTo ws ws.length) ws ws.length = (L : Int) := ⟨(lefS N (sumTo ws ws.length) ws ws.length).toNat, by omega⟩
  have HL := Lib.hid hL
  have HSH : Hid (shaL N ws = incA (basS N (sumTo ws ws.length) ws ws.length) ((ordA N (sumTo ws ws.length) ws ws.length).take L)) := by show _ = _; unfold shaL; rw [hL, Int.toNat_natCast]
  have hLn : L ≤ ws.length := by omega
  have HF : Hid (∀ k, k < ws.length → lefS N (sumTo ws ws.length) ws (k + 1) = lefS N (sumTo ws ws.length) ws k - qoA N (sumTo ws ws.length) ws k) := fun k _ => rfl
  have HF0 : Hid (lefS N (sumTo ws ws.length) ws 0 = N) := rfl
  have HFb : Hid (∀ k, k ≤ ws.length → -2000000000000 ≤ lefS N (sumTo ws ws.length) ws k ∧ lefS N (sumTo ws ws.length) ws k ≤ 10000000) := fun k hk => by have := lefS_box N0 N1 W0 hm k hk; omega
  have HQ : Hid (∀ k, k < ws.length → 0 ≤ N * ws.getD k 0 ∧ N * ws.getD k 0 ≤ 100000000000 ∧ qoA N (sumTo ws ws.length) ws k = N * ws.getD k 0 / sumTo ws ws.length ∧ 0 ≤ qoA N (sumTo ws ws.length) ws k ∧ qoA N (sumTo ws ws.length) ws k ≤ 100000000000) := fun k hk => by
    have a := mul_box N0 N1 (hm k hk).1 (hm k hk).2
    have b := qoA_box (k := k) N0 N1 W0 (hm k hk)
    exact ⟨a.1, by omega, rfl, b.1, b.2⟩
  have HS0 : Hid (halfS N (sumTo ws ws.length) ws ws.length 0 = List.replicate ws.length 0) := halfS_zero _ _ _ _
  have HSs : Hid (∀ k, k < ws.length → (halfS N (sumTo ws ws.length) ws ws.length k).set k (qoA N (sumTo ws ws.length) ws k) = halfS N (sumTo ws ws.length) ws ws.length (k + 1)) := fun k hk => halfS_set _ _ _ hk
  have HSa : Hid (halfS N (sumTo ws ws.length) ws ws.length ws.length = basS N (sumTo ws ws.length) ws ws.length) := halfS_all _ _ _ _
  have HSl : Hid (∀ k, k ≤ ws.length → (halfS N (sumTo ws ws.length) ws ws.length k).length = ws.length) := fun k hk => halfS_len _ _ _ hk
  have HSum : Hid (∀ u, Below w.heap.size w u → Calls Try.prog 48 #[.slice (some ⟨wb, off, none⟩) ws.length c, .func (.func 49) #[] #[]] u fun e w' => e = .returned (.int .i64 (sumTo ws ws.length)) ∧ u = w') := fun u hu => c_sumOver ws _ u hl hm (h.below hu)
  have HCF : Hid (∀ (ba bb bc a b : Nat) (u : World), ba < u.heap.size → bb < u.heap.size → bc < u.heap.size → Below w.heap.size w u → a < ws.length → b < ws.length → u.cell? ⟨ba, 0, none⟩ = some (.int .i64 N) → u.cell? ⟨bb, 0, none⟩ = some (.slice (some ⟨wb, off, none⟩) ws.length c) → u.cell? ⟨bc, 0, none⟩ = some (.int .i64 (sumTo ws ws.length)) →
      Calls Try.prog 50 #[.int .i64 a, .int .i64 b, .pointer (some ⟨ba, 0, none⟩), .pointer (some ⟨bb, 0, none⟩), .pointer (some ⟨bc, 0, none⟩)] u fun e w' => e = .returned (.int .i64 (cfS N (sumTo ws ws.length) ws a b)) ∧ Below u.heap.size u w') := fun ba bb bc a b u la lb lc hu ha hb' ca cb cc =>
    c_fnShare ba bb bc ws.length wb off c N (sumTo ws ws.length) ws a b u la lb lc (Nat.lt_of_lt_of_le hwb hu.size) ha hb' hl rfl hm N0 N1 W0 W1 ca cb cc (fun j hj => hcell u hu j hj)
  have HOA : Hid (sortN (fun a b => decide (cfS N (sumTo ws ws.length) ws a b < 0)) ws.length = ordA N (sumTo ws ws.length) ws ws.length) := by show _ = _; rw [cfS_lt]; rfl
  have HOl : Hid ((ordA N (sumTo ws ws.length) ws ws.length).length = ws.length) := sortN_len _ _
  have HOat : Hid (∀ k, k < ws.length → ∃ b : Nat, (ordA N (sumTo ws ws.length) ws ws.length).getD k 0 = (b : Int) ∧ b < ws.length) := fun k hk => sortN_at _ _ hk
  have hmk : ∀ u : World, (Instr.makeSlice 24 (.int .i64 (ws.length : Int)) (.int .i64 (ws.length : Int))).run Try.prog u = .ok (.slice (some ⟨u.heap.size, 0, none⟩) ws.length ws.length) (u.alloc (.cells (madeCells #[.int .i64 0] ws.length) 3)) := fun u => by
    have := run_make (P := Try.prog) u 24 3 i0 (.int .i64 0) Try.underlying24 hi0 hz0 .i64 .i64 (ws.length : Int) (ws.length : Int) (by omega) (by omega) (by rw [hz2]; omega) (by omega)
    simpa [hz1, Value.cells] using this
  have HZr : Hid (∀ u : World, Row (u.alloc (.cells (madeCells #[.int .i64 0] ws.length) 3)) u.heap.size (.slice (some ⟨u.heap.size, 0, none⟩) ws.length ws.length) (List.replicate ws.length 0)) := fun u => row_zeros u _ (by unfold maxLen; omega)
  have HIs : Hid (∀ (j b : Nat), j < ws.length → (ordA N (sumTo ws ws.length) ws ws.length).getD j 0 = (b : Int) → incA (basS N (sumTo ws ws.length) ws ws.length) ((ordA N (sumTo ws ws.length) ws ws.length).take (j + 1)) = (incA (basS N (sumTo ws ws.length) ws ws.length) ((ordA N (sumTo ws ws.length) ws ws.length).take j)).set b ((incA (basS N (sumTo ws ws.length) ws ws.length) ((ordA N (sumTo ws ws.length) ws ws.length).take j)).getD b 0 + 1)) := fun j b hj e => by
    rw [take_snoc (by rw [HOl.out]; exact hj), incA_snoc, e, Int.toNat_natCast]
  have HIx : Hid (∀ j, j ≤ ws.length → ∀ i, 0 ≤ (incA (basS N (sumTo ws ws.length) ws ws.length) ((ordA N (sumTo ws ws.length) ws ws.length).take j)).getD i 0 ∧ (incA (basS N (sumTo ws ws.length) ws ws.length) ((ordA N (sumTo ws ws.length) ws ws.length).take j)).getD i 0 ≤ 200000000000) := fun j hj i => by
    have := incA_box ((ordA N (sumTo ws ws.length) ws ws.length).take j) (basS N (sumTo ws ws.length) ws ws.length) 100000000000 (fun i => by
      by_cases hi : i < ws.length
      · have := qoA_box (k := i) N0 N1 W0 (hm i hi)
        simpa [basS, List.getD_eq_getElem?_getD, hi] using this
      · have : (basS N (sumTo ws ws.length) ws ws.length).getD i 0 = 0 := by rw [List.getD_eq_getElem?_getD, List.getElem?_eq_none (by rw [basS_len]; omega)]; rfl
        rw [this]; omega) i
    rw [List.length_take] at this
    omega
  have HIb : Hid (∀ l : List Int, (incA (basS N (sumTo ws ws.length) ws ws.length) l).length = ws.length) := fun l => by rw [incA_len, basS_len]
  rw [HSH.out]
  clear hcell h hm hi0 lf0 lf1 hL HSH
  generalize lefS N (sumTo ws ws.length) ws = F at *
  generalize qoA N (sumTo ws ws.length) ws = Q at *
  generalize halfS N (sumTo ws ws.length) ws ws.length = HS at *
  generalize basS N (sumTo ws ws.length) ws ws.length = BS at *
  generalize ordA N (sumTo ws ws.length) ws ws.length = OD at *
  generalize cfS N (sumTo ws ws.length) ws = CF at *
  generalize sumTo ws ws.length = W at *
  generalize ws.length = n at *
  have HB2 : Hid (Below w.heap.size w ((w.alloc (.cells #[.int .i64 N] 3)).alloc (.cells #[.slice (some ⟨wb, off, none⟩) n c] 24))) := ((Below.refl _ _).alloc (Nat.le_refl _) _).alloc (by simp) _
  go_enter Try.func38, Try.ntmps38
  go_wp2_with fail
  refine (HSum.out _ HB2.out).mono ?_
  rintro e w1 ⟨rfl, rfl⟩
  have HB3 : Hid (Below w.heap.size w (((w.alloc (.cells #[.int .i64 N] 3)).alloc (.cells #[.slice (some ⟨wb, off, none⟩) n c] 24)).alloc (.cells #[.int .i64 W] 3))) := HB2.out.alloc HB2.out.size _
  have hs3 : (((w.alloc (.cells #[.int .i64 N] 3)).alloc (.cells #[.slice (some ⟨wb, off, none⟩) n c] 24)).alloc (.cells #[.int .i64 W] 3)).heap.size = w.heap.size + 1 + 1 + 1 := by simp
  have c0 : (((w.alloc (.cells #[.int .i64 N] 3)).alloc (.cells #[.slice (some ⟨wb, off, none⟩) n c] 24)).alloc (.cells #[.int .i64 W] 3)).cell? ⟨w.heap.size, 0, none⟩ = some (.int .i64 N) := by rw [World.cell?_alloc_lt _ _ _ (by simp only [World.size_alloc]; omega), World.cell?_alloc_lt _ _ _ (by simp only [World.size_alloc]; omega)]; exact (one_new w _ _)
  have c1 : (((w.alloc (.cells #[.int .i64 N] 3)).alloc (.cells #[.slice (some ⟨wb, off, none⟩) n c] 24)).alloc (.cells #[.int .i64 W] 3)).cell? ⟨w.heap.size + 1, 0, none⟩ = some (.slice (some ⟨wb, off, none⟩) n c) := by rw [World.cell?_alloc_lt _ _ _ (by simp only [World.size_alloc]; omega)]; have := one_new (w.alloc (.cells #[.int .i64 N] 3)) (.slice (some ⟨wb, off, none⟩) n c) 24; rwa [World.size_alloc] at this
  have c2 : (((w.alloc (.cells #[.int .i64 N] 3)).alloc (.cells #[.slice (some ⟨wb, off, none⟩) n c] 24)).alloc (.cells #[.int .i64 W] 3)).cell? ⟨w.heap.size + 1 + 1, 0, none⟩ = some (.int .i64 W) := by have := one_new ((w.alloc (.cells #[.int .i64 N] 3)).alloc (.cells #[.slice (some ⟨wb, off, none⟩) n c] 24)) (.int .i64 W) 3; rwa [World.size_alloc, World.size_alloc] at this
  have HZ0 := Lib.hid (HZr.out (((w.alloc (.cells #[.int .i64 N] 3)).alloc (.cells #[.slice (some ⟨wb, off, none⟩) n c] 24)).alloc (.cells #[.int .i64 W] 3)))
  rw [← HS0.out, hs3] at HZ0
  have HC0 := Lib.hid c0
  have HC1 := Lib.hid c1
  have HC2 := Lib.hid c2
  have HS3 := Lib.hid hs3
  clear c0 c1 c2 hs3 HB2
  go_wp2_with fail
  clear hmk
  generalize (((w.alloc (.cells #[.int .i64 N] 3)).alloc (.cells #[.slice (some ⟨wb, off, none⟩) n c] 24)).alloc (.cells #[.int .i64 W] 3)) = w3 at *
  have KK : Hid (∀ u, Below (w.heap.size + 1 + 1 + 1) w3 u → Below w.heap.size w u ∧ w.heap.size < u.heap.size ∧ w.heap.size + 1 < u.heap.size ∧ w.heap.size + 1 + 1 < u.heap.size ∧ u.cell? ⟨w.heap.size, 0, none⟩ = some (.int .i64 N) ∧ u.cell? ⟨w.heap.size + 1, 0, none⟩ = some (.slice (some ⟨wb, off, none⟩) n c) ∧ u.cell? ⟨w.heap.size + 1 + 1, 0, none⟩ = some (.int .i64 W)) := fun u hu => by
    have hz := hu.size
    rw [HS3.out] at hz
    exact ⟨HB3.out.trans (hu.mono (by omega)), by omega, by omega, by omega, by rw [hu.cell (p := ⟨w.heap.size, 0, none⟩) (by show w.heap.size < _; omega)]; exact HC0.out, by rw [hu.cell (p := ⟨w.heap.size + 1, 0, none⟩) (by show w.heap.size + 1 < _; omega)]; exact HC1.out, by rw [hu.cell (p := ⟨w.heap.size + 1 + 1, 0, none⟩) (by show w.heap.size + 1 + 1 < _; omega)]; exact HC2.out⟩
  have HB0 : Hid (Below (w.heap.size + 1 + 1 + 1) w3 (w3.alloc (.cells (madeCells #[.int .i64 0] n) 3))) := (Below.refl _ _).alloc (Nat.le_of_eq HS3.out.symm) _
  go_loopw [7, 21] (fun q i wr => ∃ k : Nat, k ≤ n ∧ i = .int .i64 k ∧ q = .int .i64 (F k) ∧ Row wr (w.heap.size + 1 + 1 + 1) (.slice (some ⟨w.heap.size + 1 + 1 + 1, 0, none⟩) n n) (HS k) ∧ Below (w.heap.size + 1 + 1 + 1) w3 wr) (fun _ i _ => n - (intOf i).toNat)
  case atStart => exact ⟨0, Nat.zero_le _, rfl, by rw [HF0.out], HZ0.out, HB0.out⟩
  case round =>
    obtain ⟨k, hk, rfl, rfl, hr, hbw⟩ := hrel
    have HR := Lib.hid hr
    have HB := Lib.hid hbw
    clear hr hbw
    obtain ⟨hw, z0, z1, z2, d0, d1, d2⟩ := KK.out wr HB.out
    have HW := Lib.hid hw
    clear hw
    obtain ⟨f0, f1⟩ := HFb.out k hk
    by_cases hlt : k < n
    · have q0 := E1.out wr HW.out k hlt
      obtain ⟨x0, x1, eq, y0, y1⟩ := HQ.out k hlt
      have HFk := Lib.hid (HF.out k hlt)
      have HEq := Lib.hid eq
      obtain ⟨g0, g1⟩ := HFb.out (k + 1) (by omega)
      rw [HFk.out] at g0 g1
      rw [eq] at y0 y1 g0 g1
      have hsl := HSl.out k hk
      have s1 : wr.cell? ⟨w.heap.size + 1 + 1 + 1, k, none⟩ = some (.int .i64 ((HS k).getD k 0)) := by
        have hr := HR.out
        have hr' : Row wr (w.heap.size + 1 + 1 + 1) (.slice (some ⟨w.heap.size + 1 + 1 + 1, 0, none⟩) (HS k).length n) (HS k) := by rw [hsl]; exact hr
        exact hr'.cell k (by omega)
      have s2 : wr.frozen? ⟨w.heap.size + 1 + 1 + 1, k, none⟩ = false := by
        have hr' : Row wr (w.heap.size + 1 + 1 + 1) (.slice (some ⟨w.heap.size + 1 + 1 + 1, 0, none⟩) (HS k).length n) (HS k) := by rw [hsl]; exact HR.out
        exact hr'.frozen k
      have N1' := Lib.hid (Row.set_ hsl.symm HR.out k (Q k)).1
      rw [HSs.out k hlt, eq] at N1'
      generalize (HS k).getD k 0 = old at s1
      clear eq hsl
      generalize ws.getD k 0 = t at *
      have dx : (N * t).tdiv W = N * t / W := Int.tdiv_eq_ediv_of_nonneg x0
      have z3 : (W == 0) = false := beq_eq_false_iff_ne.2 (by omega)
      have b1 : (0 : Int) ≤ (k : Int) := by omega
      have b2 : (k : Int) < (n : Int) := by omega
      go_wp2
      go_roundw
      case rel => exact ⟨k + 1, by omega, by go_num, by rw [HFk.out, HEq.out], N1'.out, HB.out.setCell (Nat.le_refl _) _⟩
      case measure => simp [intOf]; omega
    · obtain rfl : k = n := by omega
      have HRb : Hid (Row wr (w.heap.size + 1 + 1 + 1) (.slice (some ⟨w.heap.size + 1 + 1 + 1, 0, none⟩) k k) (incA BS [])) := by have := HR.out; rw [HSa.out] at this; exact this
      have CO := Lib.hid (c_orderOfW k w.heap.size (w.heap.size + 1) (w.heap.size + 1 + 1) CF wr hl h0 (fun a b u ha hb' hu => by
        have hBu : Below (w.heap.size + 1 + 1 + 1) w3 u := HB.out.trans (hu.mono (by have := HB.out.size; have := HS3.out; omega))
        obtain ⟨hw', y0, y1, y2, e0, e1, e2⟩ := KK.out u hBu
        exact HCF.out _ _ _ a b u y0 y1 y2 hw' ha hb' e0 e1 e2))
      rw [HOA.out] at CO
      have eL := HL.out
      rw [eL]
      have l1 : (L : Int) ≤ (k : Int) := by omega
      have l0 : (0 : Int) ≤ (L : Int) := by omega
      clear eL
      go_wp2_with fail
      refine CO.out.mono ?_
      rintro e w4 ⟨ov, rfl, ho4, hb4⟩
      obtain ⟨og, oc, rfl, hog, hol⟩ := ho4.form (by rw [HOl.out]; exact h0)
      rw [HOl.out] at ho4 ⊢
      have hoc : k ≤ oc := by
        rcases ho4.2 with ⟨e, _⟩ | ⟨g', cap, cur, e, _, _, hn, _⟩
        · cases e
        · injection e with _ _ e3
          rw [HOl.out] at hn
          omega
      have HO4 : Hid (Row w4 wr.heap.size (.slice (some ⟨og, 0, none⟩) k oc) OD) := ho4
      have HR4 := Lib.hid (HRb.out.below hb4)
      have HB4 : Hid (Below (w.heap.size + 1 + 1 + 1) w3 w4) := HB.out.trans (hb4.mono (by have := HB.out.size; have := HS3.out; omega))
      have hne : ¬ og = w.heap.size + 1 + 1 + 1 := by
        obtain ⟨g', c', e, _, hl'⟩ := HRb.out.form (by rw [HIb.out]; exact h0)
        simp at e
        omega
      have HNe := Lib.hid hne
      have l2 : (L : Int) ≤ (oc : Int) := by omega
      clear ho4 hb4 hog hne
      obtain ⟨BO, HO5⟩ : ∃ BO, Hid (Row w4 BO (.slice (some ⟨og, 0, none⟩) k oc) OD) := ⟨_, HO4⟩
      obtain ⟨J, hJ⟩ : ∃ J : Nat → List Int, (fun j => incA BS (OD.take j)) = J := ⟨_, rfl⟩
      have hJ' : ∀ j, incA BS (OD.take j) = J j := fun j => by rw [← hJ]
      have HJ0 : Hid (J 0 = incA BS []) := by show _ = _; rw [← hJ' 0, List.take_zero]
      have HJa : Hid (∀ j, incA BS (OD.take j) = J j) := hJ'
      have HJl : Hid (∀ j, (J j).length = k) := fun j => by rw [← hJ' j]; exact HIb.out _
      simp only [hJ'] at HIs HIx
      clear hJ hJ' HO4
      go_wp2_with fail
      go_loopw [49] (fun i wr => ∃ j : Nat, j ≤ L ∧ i = .int .i64 j ∧ Row wr (w.heap.size + 1 + 1 + 1) (.slice (some ⟨w.heap.size + 1 + 1 + 1, 0, none⟩) k k) (J j) ∧ Row wr BO (.slice (some ⟨og, 0, none⟩) k oc) OD ∧ Below (w.heap.size + 1 + 1 + 1) w3 wr) (fun i _ => L - (intOf i).toNat)
      case atStart => exact ⟨0, Nat.zero_le _, rfl, by rw [HJ0.out]; exact HR4.out, HO5.out, HB4.out⟩
      case round =>
        obtain ⟨j, hj, rfl, hrj, hoj, hbj⟩ := hrel
        have HRj := Lib.hid hrj
        have HOj := Lib.hid hoj
        have HBj := Lib.hid hbj
        clear hrj hoj hbj
        by_cases hjl : j < L
        · obtain ⟨b', eb, hb'⟩ := HOat.out j (by omega)
          have o0 : wr.cell? ⟨og, j, none⟩ = some (.int .i64 b') := by
            have hr : Row wr BO (.slice (some ⟨og, 0, none⟩) OD.length oc) OD := by rw [HOl.out]; exact HOj.out
            rw [hr.cell j (by rw [HOl.out]; omega), eb]
          have hr' : Row wr (w.heap.size + 1 + 1 + 1) (.slice (some ⟨w.heap.size + 1 + 1 + 1, 0, none⟩) (J j).length k) (J j) := by rw [HJl.out]; exact HRj.out
          have s1 := hr'.cell b' (by rw [HJl.out]; exact hb')
          have s2 := hr'.frozen b'
          obtain ⟨v0, v1⟩ := HIx.out j (by omega) b'
          have HI1 := Lib.hid (HIs.out j b' (by omega) eb)
          have N2 := Row.set_ (HJl.out j).symm HRj.out b' ((J j).getD b' 0 + 1)
          have N2r := Lib.hid N2.1
          rw [← HI1.out] at N2r
          have N2o := Lib.hid (World.ownsRow.kept HOj.out N2.2 (.inr (by simp only [Value.ownBlock]; intro e; injection e with e; exact HNe.out e)))
          clear hr' N2 eb
          generalize (J j).getD b' 0 = old at *
          have b1 : (0 : Int) ≤ (j : Int) := by omega
          have b2 : (j : Int) < (L : Int) := by omega
          have b3 : (0 : Int) ≤ (b' : Int) := by omega
          have b4 : (b' : Int) < (k : Int) := by omega
          go_wp2
          go_roundw
          case rel => exact ⟨j + 1, by omega, by go_num, N2r.out, N2o.out, HBj.out.setCell (Nat.le_refl _) _⟩
          case measure => simp [intOf]; omega
        · obtain rfl : j = L := by omega
          obtain ⟨hw5, _⟩ := KK.out _ HBj.out
          have HW5 := Lib.hid hw5
          clear hw5
          go_wp2
          go_ret
          exact ⟨.slice (some ⟨w.heap.size + 1 + 1 + 1, 0, none⟩) k k, rfl, by rw [HJa.out]; exact HRj.out.mono (show w.heap.size ≤ w.heap.size + 1 + 1 + 1 by omega), HW5.out⟩
end Go.Proofs.Ythlclieifcbkjab
