/-
  Contract: what is left in a network at first, in the program.
-/
import Derived.Test.YtdgkgnlilcbggaaZG
import Derived.Deep.RegionHeld3
import Derived.Deep.DeepCutAuto
import Derived.Deep.DrawnRows
import Derived.Test.YtdgkgnlilcbggaaZL
import Derived.IntWalk
namespace Go.Proofs.Ytdgkgnlilcbggaa
open Go.RowKit
set_option linter.unusedVariables false

theorem residual_ne : (75 : TypeId) ≠ 3 ∧ (75 : TypeId) ≠ 23 := by decide
/-- What residualOf gives: three slices of a family that lies apart. -/
def GivesRes (w : World) (n m : Nat) (xs : List Int) (e : Ending) (w' : World) : Prop :=
  ∃ gl vs, e = .returned (.agg #[vs 0, vs 1, .slice (some ⟨gl, 0, none⟩) n n]) ∧ Fam w' w.heap.size (n + 2) vs (resX (eF xs) (eT xs) (eC xs) n m) ∧ w'.ownsRow w.heap.size 23 1 (.slice (some ⟨gl, 0, none⟩) n n) n ((List.range n).map fun u => vs (u + 2)) ∧ Below w.heap.size w w'

set_option maxHeartbeats 8000000 in
set_option maxRecDepth 100000 in
theorem c_residualOf (n m : Nat) (xs : List Int) (v : Value) (w : World) (hn : netW n m xs = true) (h : SeenP w v m xs) :
    Calls Try.prog 67 #[.int .i64 n, v] w (GivesRes w n m xs) := by
  obtain ⟨i0, hi0, hz0, hz1, hz2⟩ := info_parts int_info
  obtain ⟨il, hil, hl0, hl1, hl2⟩ := info_parts list_info
  have HI := Lib.hid hi0
  clear hi0
  obtain ⟨A, c, rfl, hm, hx, hA⟩ := h
  obtain ⟨n1, n2, n3, hE⟩ := netW_true hn
  have E0 : Hid (∀ k : Nat, k < m → ∃ b off, A = some ⟨b, off, none⟩ ∧ b < w.heap.size ∧ ∀ j : Nat, j < m * 3 → w.cell? ⟨b, off + j, none⟩ = some (.int .i64 (xs.getD j 0))) := fun k hk => hA (by omega)
  have EA : Hid (∀ k, k < m → xs.getD (k * 3) 0 = (eF xs k : Int) ∧ xs.getD (k * 3 + 1) 0 = (eT xs k : Int) ∧ 0 ≤ eC xs k ∧ eC xs k ≤ 1000000000) := fun k hk => eF_at hn hk
  have EN : Hid (EndsIn n (eF xs) (eT xs) m) := ends_in hn
  have EC : Hid (∀ k, xs.getD (k * 3 + 2) 0 = eC xs k) := fun k => rfl
  have hmk : ∀ u : World, (Instr.makeSlice 22 (.int .i64 (n : Int)) (.int .i64 (n : Int))).run Try.prog u = .ok (.slice (some ⟨u.heap.size, 0, none⟩) n n) (u.alloc (.cells (madeCells #[.slice none 0 0] (n * 1)) 23)) := fun u => by
    have := run_make (P := Try.prog) u 22 23 il (.slice none 0 0) Try.underlying22 hil hl0 .i64 .i64 (n : Int) (n : Int) (by omega) (by omega) (by rw [hl2]; omega) (by omega)
    simpa [hl1, Value.cells] using this
  clear hA hE hx hm hil hl0 hl1 hl2
  generalize hfr : eF xs = fr at *
  generalize htg : eT xs = tg at *
  generalize hcp : eC xs = cp at *
  have HFr := Lib.hid hfr
  have HTg := Lib.hid htg
  have HCp := Lib.hid hcp
  clear hfr htg hcp
  go_enter Try.func67, Try.ntmps67
  go_wp2_with fail
  obtain ⟨w1, hw1⟩ : ∃ u, u = w.alloc (.cells #[.slice none 0 0, .slice none 0 0, .slice none 0 0] 75) := ⟨_, rfl⟩
  rw [← hw1]
  have hsz : w1.heap.size = w.heap.size + 1 := by rw [hw1]; simp
  have HBw : Hid (Below w.heap.size w w1) := by rw [hw1]; exact (Below.refl _ _).alloc (Nat.le_refl _) _
  have E1 : Hid (∀ k : Nat, k < m → ∃ b off, A = some ⟨b, off, none⟩ ∧ b < w.heap.size + 1 ∧ ∀ j : Nat, j < m * 3 → w1.cell? ⟨b, off + j, none⟩ = some (.int .i64 (xs.getD j 0))) := fun k hk => by
    obtain ⟨b, off, e, hb, hc⟩ := E0.out k hk
    exact ⟨b, off, e, by omega, fun j hj => by rw [HBw.out.cell (p := ⟨b, off + j, none⟩) hb]; exact hc j hj⟩
  have C0 : Hid (w1.cell? ⟨w.heap.size, 0, none⟩ = some (.slice none 0 0) ∧ w1.cell? ⟨w.heap.size, 1, none⟩ = some (.slice none 0 0) ∧ w1.cell? ⟨w.heap.size, 2, none⟩ = some (.slice none 0 0) ∧ (∀ j, w1.frozen? ⟨w.heap.size, j, none⟩ = false) ∧ TyAt w1 w.heap.size 75) := by rw [hw1]; exact ⟨by simp, by simp, by simp, fun j => by simp, TyAt.new _ _ _⟩
  clear hw1 E0
  go_loopw [13] (fun i wr => ∃ k : Nat, k ≤ m ∧ i = .int .i64 k ∧ (∃ vs, RQ wr (w.heap.size + 1) (w.heap.size + 1 + 1) 0 (w.heap.size + 1) n 75 vs (resX fr tg cp n k)) ∧ Below (w.heap.size + 1) w1 wr ∧ w.heap.size + 1 + 1 < wr.heap.size) (fun i _ => m - (intOf i).toNat)
  case atStart =>
    have ho := World.ownsRow_lit (base := w.heap.size + 1) (e := 23) (size := 1) w1 (madeCells #[.slice none 0 0] n) n (by omega) (by unfold maxLen; omega) (by rw [size_madeCells]; simp)
    rw [nils, hsz] at ho
    have hz : (w1.alloc (.cells (madeCells #[.slice none 0 0] n) 23)).heap.size = w.heap.size + 1 + 1 := by simp [hsz]
    refine ⟨0, Nat.zero_le _, rfl, ⟨fun _ => .slice none 0 0, ⟨fun i hi => by rw [resX_zero]; exact Row.nil _ _, fun _ _ _ _ _ => .inl rfl⟩, World.ownsRow.alloc (by rw [show mapR n (fun _ => Value.slice none 0 0) = List.replicate n (.slice none 0 0) by simp [mapR, List.map_const']]; exact ho) _, ?_, ?_, ?_, fun j => ?_, ?_⟩, ((Below.refl _ _).alloc (by omega) _).alloc (by omega) _, by simp [hsz]⟩
    all_goals rw [← hz]
    · simp
    · simp
    · simp
    · simp
    · exact TyAt.new _ _ _
  case round =>
    obtain ⟨k, hk, rfl, ⟨vs, hq⟩, hb, hs⟩ := hrel
    have HQ := Lib.hid hq
    have HB := Lib.hid hb
    clear hq hb
    by_cases hlt : k < m
    · obtain ⟨b, off, rfl, hbl, hc⟩ := E1.out k hlt
      obtain ⟨a0, a1, a2, a3⟩ := EA.out k hlt
      obtain ⟨d0, d1⟩ := EN.out k hlt
      have q0 : wr.cell? ⟨b, off + k * 3, none⟩ = some (.int .i64 (fr k)) := by rw [HB.out.cell (p := ⟨b, off + k * 3, none⟩) hbl, ← a0]; exact hc _ (by omega)
      have q1 : wr.cell? ⟨b, off + k * 3 + 1, none⟩ = some (.int .i64 (tg k)) := by rw [HB.out.cell (p := ⟨b, off + k * 3 + 1, none⟩) hbl, ← a1]; exact hc (k * 3 + 1) (by omega)
      have q2 : wr.cell? ⟨b, off + k * 3 + 2, none⟩ = some (.int .i64 (cp k)) := by rw [HB.out.cell (p := ⟨b, off + k * 3 + 2, none⟩) hbl, ← EC.out]; exact hc (k * 3 + 2) (by omega)
      have S1 := Lib.hid (HQ.out.edge (fr k) (tg k) (cp k))
      have HX := Lib.hid (fun i hi => resX_step (fr := fr) (tg := tg) (cp := cp) (n := n) (k := k) d0 d1 i hi)
      have HT := Lib.hid (resX_to (fr := fr) (tg := tg) (cp := cp) (n := n) (k := k))
      have HF := Lib.hid (resX_fr (fr := fr) (tg := tg) (cp := cp) (n := n) (k := k))
      have L0 := hdL_len fr tg k
      have L1 := rmL_len cp k
      have p0 : wr.cell? ⟨w.heap.size + 1 + 1, 0, none⟩ = some (vs 0) := HQ.out.c0
      have p1 : wr.cell? ⟨w.heap.size + 1 + 1, 1, none⟩ = some (vs 1) := HQ.out.c1
      have p2 : wr.cell? ⟨w.heap.size + 1 + 1, 2, none⟩ = some (.slice (some ⟨w.heap.size + 1, 0, none⟩) n n) := HQ.out.c2
      have pf := HQ.out.fz
      clear hc hbl a0 a1
      generalize fr k = f at *
      generalize tg k = t at *
      generalize cp k = c at *
      have b1 : (0 : Int) ≤ (k : Int) := by omega
      have b2 : (k : Int) < (m : Int) := by omega
      have sw : w.heap.size + 1 ≤ wr.heap.size := by have := HB.out.size; omega
      have R0 : Hid (Row wr (w.heap.size + 1) (vs 0) (hdL fr tg k)) := HQ.out.fam.row 0 (by omega)
      go_wp2_with (at_builtin; refine wpList_append_lies _ rfl _ _ 23 rfl (w.heap.size + 1) 3 i0 (.int .i64 0) 1 8 Try.underlying23 HI.out hz0 hz1 hz2 rfl (by decide) _ _ _ rfl (World.ownsRow.alloc (World.ownsRow.alloc R0.out _) _) ⟨wr.heap.size + 1, 0, none⟩ 2 2 [.int .i64 t, .int .i64 f] rfl rfl ?c1 (ones_two _ _) (by omega) ?c3 ?c4 ?c5 (wr.heap.size + 1 + 1) (by simp) ?_)
      case c1 => exact news_two (by simp) (by simp)
      case c3 => unfold maxLen; omega
      case c4 => omega
      case c5 => simp; omega
      intro g5 cap5 w5 hown hgrow hat hlt5
      have HR5 : Hid (Row w5 (w.heap.size + 1) (.slice (some ⟨g5, 0, none⟩) (2 * k + 2) cap5) (hdL fr tg k ++ [(t : Int), (f : Int)])) := row_two (by simpa [L0] using hown) (by rw [L0])
      have S5 : Hid (RS w5 (w.heap.size + 1) (w.heap.size + 1 + 1) 0 (w.heap.size + 1) n wr.heap.size 75 (upd vs 0 (.slice (some ⟨g5, 0, none⟩) (2 * k + 2) cap5)) (mapR n vs) (vs 0) (vs 1) (upd (resX fr tg cp n k) 0 (hdL fr tg k ++ [(t : Int), (f : Int)])) f t c) := (S1.out.below ((Below.refl _ _).alloc (Nat.le_refl _) _)).app residual_ne.1 (i := 0) (by omega) HR5.out hgrow (at_new hat (by simp))
      have HB5 : Hid (Below (w.heap.size + 1) w1 w5) := ((HB.out.alloc sw _).alloc (by simp; omega) _).grown hgrow (by simp; omega) (fun g hg => (World.ownsRow.lt R0.out g hg).1)
      have z5 : wr.heap.size + 1 + 1 ≤ w5.heap.size := by have := hgrow.size; simpa using this
      clear hown hgrow hat hlt5 S1 HQ HR5
      have S6 : Hid (RS (w5.setCell ⟨w.heap.size + 1 + 1, 0, none⟩ (.slice (some ⟨g5, 0, none⟩) (2 * k + 2) cap5)) (w.heap.size + 1) (w.heap.size + 1 + 1) 0 (w.heap.size + 1) n wr.heap.size 75 (upd vs 0 (.slice (some ⟨g5, 0, none⟩) (2 * k + 2) cap5)) (mapR n vs) (.slice (some ⟨g5, 0, none⟩) (2 * k + 2) cap5) (vs 1) (upd (resX fr tg cp n k) 0 (hdL fr tg k ++ [(t : Int), (f : Int)])) f t c) := S5.out.st residual_ne.1 residual_ne.2 (by omega) _ 0 (by omega)
      have HB6 : Hid (Below (w.heap.size + 1) w1 (w5.setCell ⟨w.heap.size + 1 + 1, 0, none⟩ (.slice (some ⟨g5, 0, none⟩) (2 * k + 2) cap5))) := HB5.out.setCell (by show w.heap.size + 1 ≤ w.heap.size + 1 + 1; omega) _
      have p0 : w5.cell? ⟨w.heap.size + 1 + 1, 0, none⟩ = some (vs 0) := S5.out.c0
      have p1 : w5.cell? ⟨w.heap.size + 1 + 1, 1, none⟩ = some (vs 1) := S5.out.c1
      have pf := S5.out.fz
      have p4 := S5.out.e2
      clear S5 HB5
      have R1 : Hid (Row (w5.setCell ⟨w.heap.size + 1 + 1, 0, none⟩ (.slice (some ⟨g5, 0, none⟩) (2 * k + 2) cap5)) (w.heap.size + 1) (vs 1) (rmL cp k)) := S6.out.fam.row 1 (by omega)
      go_wp2_with (at_builtin; refine wpList_append_lies _ rfl _ _ 23 rfl (w.heap.size + 1) 3 i0 (.int .i64 0) 1 8 Try.underlying23 HI.out hz0 hz1 hz2 rfl (by decide) _ _ _ rfl (World.ownsRow.alloc R1.out _) ⟨w5.heap.size, 0, none⟩ 2 2 [.int .i64 c, .int .i64 0] rfl rfl ?c1 (ones_two _ _) (by omega) ?c3 ?c4 ?c5 (w5.heap.size + 1) (by simp) ?_)
      case c1 => exact news_two (cells_two _ _ (by simp) _ _ _).1 (cells_two _ _ (by simp) _ _ _).2
      case c3 => unfold maxLen; omega
      case c4 => omega
      case c5 => simp; omega
      intro g6 cap6 w6 hown hgrow hat hlt6
      have HR7 : Hid (Row w6 (w.heap.size + 1) (.slice (some ⟨g6, 0, none⟩) (2 * k + 2) cap6) (rmL cp k ++ [c, 0])) := row_two (by simpa [L1] using hown) (by rw [L1])
      have S7 := Lib.hid ((S6.out.below ((Below.refl _ _).alloc (Nat.le_refl _) _)).app residual_ne.1 (i := 1) (by omega) HR7.out hgrow (at_new hat (by simp)))
      have HB7 : Hid (Below (w.heap.size + 1) w1 w6) := (HB6.out.alloc (by simp; omega) _).grown hgrow (by simp; omega) (fun g hg => (World.ownsRow.lt R1.out g hg).1)
      have z6 : w5.heap.size + 1 ≤ w6.heap.size := by have := hgrow.size; simpa using this
      clear hown hgrow hat hlt6 S6 HR7 p0 p1 pf p4
      have p0 : w6.cell? ⟨w.heap.size + 1 + 1, 1, none⟩ = some (vs 1) := S7.out.c1
      have pf := S7.out.fz
      have S8 := Lib.hid (S7.out.st residual_ne.1 residual_ne.2 (by omega) (.slice (some ⟨g6, 0, none⟩) (2 * k + 2) cap6) 1 (by omega))
      have HB8 : Hid (Below (w.heap.size + 1) w1 (w6.setCell ⟨w.heap.size + 1 + 1, 1, none⟩ (.slice (some ⟨g6, 0, none⟩) (2 * k + 2) cap6))) := HB7.out.setCell (by show w.heap.size + 1 ≤ w.heap.size + 1 + 1; omega) _
      have z8 : w6.heap.size ≤ (w6.setCell ⟨w.heap.size + 1 + 1, 1, none⟩ (.slice (some ⟨g6, 0, none⟩) (2 * k + 2) cap6)).heap.size := by simp
      simp only [Nat.zero_add, if_true, if_false, Nat.reduceEqDiff] at S8
      go_wp2_with fail
      clear p0 pf S7 HB7
      have HV2 : Hid (∃ V2 : Nat → Value, ∃ X2 : Nat → List Int, V2 = upd (upd vs 0 (.slice (some ⟨g5, 0, none⟩) (2 * k + 2) cap5)) 1 (.slice (some ⟨g6, 0, none⟩) (2 * k + 2) cap6) ∧ X2 = upd (upd (resX fr tg cp n k) 0 (hdL fr tg k ++ [(t : Int), (f : Int)])) 1 (rmL cp k ++ [c, 0])) := ⟨_, _, rfl, rfl⟩
      obtain ⟨V2, X2, eV, eX⟩ := HV2.out
      have hcast : ((2 * k : Nat) : Int) = 2 * (k : Int) := by omega
      have hcast1 : ((2 * k + 1 : Nat) : Int) = 2 * (k : Int) + 1 := by omega
      rw [← eX, hcast, hcast1] at HX
      rw [← eX, hcast] at HT
      rw [← eX] at HF
      have S9 : Hid (RS (w6.setCell ⟨w.heap.size + 1 + 1, 1, none⟩ (.slice (some ⟨g6, 0, none⟩) (2 * k + 2) cap6)) (w.heap.size + 1) (w.heap.size + 1 + 1) 0 (w.heap.size + 1) n wr.heap.size 75 V2 (mapR n V2) (V2 0) (V2 1) X2 f t c) := by
        have := S8.out
        rw [eV, mapR_low _ _ (show 1 < 2 by omega), mapR_low _ _ (show 0 < 2 by omega), upd_far _ _ (show 0 ≠ 1 by omega), upd_same, upd_same, eX]
        exact this
      clear S8 eV eX HV2 hcast hcast1
      have z9 : wr.heap.size < (w6.setCell ⟨w.heap.size + 1 + 1, 1, none⟩ (.slice (some ⟨g6, 0, none⟩) (2 * k + 2) cap6)).heap.size := by omega
      clear z8 z5 z6 R0 R1
      generalize w6.setCell ⟨w.heap.size + 1 + 1, 1, none⟩ (.slice (some ⟨g6, 0, none⟩) (2 * k + 2) cap6) = w8 at *
      have HLf : Hid (((arcL fr tg n k).getD f []).length ≤ 16000) := by show _ ≤ _; have := arcL_slen fr tg n f k (fun j hj => EN.out j (by omega)); omega
      have HLt : Hid (((arcL fr tg n k).getD t []).length ≤ 16000) := by show _ ≤ _; have := arcL_slen fr tg n t k (fun j hj => EN.out j (by omega)); omega
      have HRf : Hid (Row w8 (w.heap.size + 1) (V2 (f + 2)) ((arcL fr tg n k).getD f [])) := by rw [← HF.out]; exact S9.out.fam.row (f + 2) (by omega)
      generalize (arcL fr tg n k).getD f [] = lf at *
      generalize (arcL fr tg n k).getD t [] = lt at *
      have KA7 : Hid (∀ u, Below w8.heap.size w8 u → (fun u => u.cell? ⟨w.heap.size + 1 + 1, 2, none⟩ = some (.slice (some ⟨w.heap.size + 1, 0, none⟩) n n) ∧ u.cell? ⟨wr.heap.size, 0, none⟩ = some (.int .i64 (f : Int)) ∧ u.cell? ⟨w.heap.size + 1, f, none⟩ = some (V2 (f + 2))) u) := fun u hu => by
        have h := S9.out.below hu
        exact ⟨h.c2, h.e0, own_at h.own (by omega)⟩
      have KD7 : Hid (Below w8.heap.size w8 w8.drew) := (Below.refl _ _).drew
      have HW7 : Hid (w.heap.size + 1 ≤ w8.heap.size) := by have := HB8.out.size; show _ ≤ _; omega
      have n07 : (0 : Int) ≤ (f : Int) := by omega
      have n17 : (f : Int) < (n : Int) := by omega
      have hw7 : IntKind.i64.wrap (2 * (k : Int)) = 2 * (k : Int) := IntWalk.i64_in _ (by omega)
      obtain ⟨S7, hS7⟩ : ∃ S : World → Prop, S = (fun u => u.cell? ⟨w.heap.size + 1 + 1, 2, none⟩ = some (.slice (some ⟨w.heap.size + 1, 0, none⟩) n n) ∧ u.cell? ⟨wr.heap.size, 0, none⟩ = some (.int .i64 (f : Int)) ∧ u.cell? ⟨w.heap.size + 1, f, none⟩ = some (V2 (f + 2))) := ⟨_, rfl⟩
      refine region_till S7 15 (by kernel_rfl) (by rw [hS7]; exact KA7.out _ KD7.out) (fun hHeld => ?_)
      refine till_take (i := 0) (v := ?v7_0) rfl (by kernel_rfl) (by kernel_rfl) (by kernel_rfl) (by kernel_rfl) (fun _ _ _ h => h) (Or.inl ⟨by rfl, ?hy7_0⟩) (by assumption) ?rest7_0
      case hy7_0 =>
        intro u hSw
        rw [hS7] at hSw; obtain ⟨x1, x2, x3⟩ := hSw
        go_simp
        try with_reducible rfl
      case rest7_0 =>
        refine till_take (i := 1) (v := ?v7_1) rfl (by kernel_rfl) (by kernel_rfl) (by kernel_rfl) (by kernel_rfl) (fun _ _ _ h => h) (Or.inl ⟨by rfl, ?hy7_1⟩) (by assumption) ?rest7_1
        case hy7_1 =>
          intro u hSw
          rw [hS7] at hSw; obtain ⟨x1, x2, x3⟩ := hSw
          go_simp
          try with_reducible rfl
        case rest7_1 =>
          refine till_take (i := 2) (v := ?v7_2) rfl (by kernel_rfl) (by kernel_rfl) (by kernel_rfl) (by kernel_rfl) (fun _ _ _ h => h) (Or.inl ⟨by rfl, ?hy7_2⟩) (by assumption) ?rest7_2
          case hy7_2 =>
            intro u hSw
            rw [hS7] at hSw; obtain ⟨x1, x2, x3⟩ := hSw
            go_simp
            try with_reducible rfl
          case rest7_2 =>
            refine till_take (i := 3) (v := ?v7_3) rfl (by kernel_rfl) (by kernel_rfl) (by kernel_rfl) (by kernel_rfl) (fun _ _ _ h => h) (Or.inl ⟨by rfl, ?hy7_3⟩) (by assumption) ?rest7_3
            case hy7_3 =>
              intro u hSw
              rw [hS7] at hSw; obtain ⟨x1, x2, x3⟩ := hSw
              go_simp
              try with_reducible rfl
            case rest7_3 =>
              refine till_take (i := 4) (v := ?v7_4) rfl (by kernel_rfl) (by kernel_rfl) (by kernel_rfl) (by kernel_rfl) (fun _ _ _ h => h) (Or.inl ⟨by rfl, ?hy7_4⟩) (by assumption) ?rest7_4
              case hy7_4 =>
                intro u hSw
                rw [hS7] at hSw; obtain ⟨x1, x2, x3⟩ := hSw
                go_simp
                try with_reducible rfl
              case rest7_4 =>
                refine till_take (i := 5) (v := ?v7_5) rfl (by kernel_rfl) (by kernel_rfl) (by kernel_rfl) (by kernel_rfl) (fun _ _ _ h => h) (Or.inl ⟨by rfl, ?hy7_5⟩) (by assumption) ?rest7_5
                case hy7_5 =>
                  intro u hSw
                  rw [hS7] at hSw; obtain ⟨x1, x2, x3⟩ := hSw
                  go_simp
                  try with_reducible rfl
                case rest7_5 =>
                  refine till_take (i := 6) (v := ?v7_6) rfl (by kernel_rfl) (by kernel_rfl) (by kernel_rfl) (by kernel_rfl) (fun _ _ _ h => h) (Or.inl ⟨by rfl, ?hy7_6⟩) (by assumption) ?rest7_6
                  case hy7_6 =>
                    intro u hSw
                    rw [hS7] at hSw; obtain ⟨x1, x2, x3⟩ := hSw
                    go_simp
                    try with_reducible rfl
                  case rest7_6 =>
                    refine till_take (i := 7) (v := ?v7_7) rfl (by kernel_rfl) (by kernel_rfl) (by kernel_rfl) (by kernel_rfl) (fun _ _ _ h => h) (Or.inl ⟨by rfl, ?hy7_7⟩) (by assumption) ?rest7_7
                    case hy7_7 =>
                      intro u hSw
                      rw [hS7] at hSw; obtain ⟨x1, x2, x3⟩ := hSw
                      go_simp
                      try with_reducible rfl
                    case rest7_7 =>
                      refine till_take (i := 8) (v := ?v7_8) rfl (by kernel_rfl) (by kernel_rfl) (by kernel_rfl) (by kernel_rfl) (fun _ _ _ h => h) (Or.inl ⟨by rfl, ?hy7_8⟩) (by assumption) ?rest7_8
                      case hy7_8 =>
                        intro u hSw
                        rw [hS7] at hSw; obtain ⟨x1, x2, x3⟩ := hSw
                        go_simp
                        try with_reducible rfl
                      case rest7_8 =>
                        refine till_take (i := 9) (v := ?v7_9) rfl (by kernel_rfl) (by kernel_rfl) (by kernel_rfl) (by kernel_rfl) (fun _ _ _ h => h) (Or.inl ⟨by rfl, ?hy7_9⟩) (by assumption) ?rest7_9
                        case hy7_9 =>
                          intro u hSw
                          rw [hS7] at hSw; obtain ⟨x1, x2, x3⟩ := hSw
                          go_simp
                          try with_reducible rfl
                        case rest7_9 =>
                          refine till_take (i := 10) (v := ?v7_10) rfl (by kernel_rfl) (by kernel_rfl) (by kernel_rfl) (by kernel_rfl) (fun _ _ _ h => h) (Or.inl ⟨by rfl, ?hy7_10⟩) (by assumption) ?rest7_10
                          case hy7_10 =>
                            intro u hSw
                            rw [hS7] at hSw; obtain ⟨x1, x2, x3⟩ := hSw
                            go_simp
                            try with_reducible rfl
                          case rest7_10 =>
                            refine till_take (i := 11) (v := ?v7_11) rfl (by kernel_rfl) (by kernel_rfl) (by kernel_rfl) (by kernel_rfl) (fun _ _ _ h => h) (Or.inl ⟨by rfl, ?hy7_11⟩) (by assumption) ?rest7_11
                            case hy7_11 =>
                              intro u hSw
                              rw [hS7] at hSw; obtain ⟨x1, x2, x3⟩ := hSw
                              go_simp
                              try with_reducible rfl
                            case rest7_11 =>
                              simp only [List.getElem_toArray, List.getElem_cons_zero, List.getElem_cons_succ, Act.put, List.setIfInBounds_toArray, List.set_cons_zero, List.set_cons_succ]
                              refine till_one (i := 12) rfl (by kernel_rfl) (fun K hK => ?_)
                              go_simp
                              refine hK.out _ _ (fun hz => by rw [hS7]; exact KA7.out _ ((Below.refl _ _).drew.alloc (Nat.le_refl _) _)) (fun hH => ?_)
                              have hHeld := hH (by omega)
                              clear hK K hH
                              refine till_one (i := 13) rfl (by kernel_rfl) (fun K hK => ?_)
                              refine step_append_lies _ rfl _ _ 23 (by rfl) (w.heap.size + 1) 3 i0 (.int .i64 0) 1 8 Try.underlying23 HI.out hz0 hz1 hz2 rfl (by decide) _ _ _ (by rfl) (World.ownsRow.alloc HRf.out _) ⟨w8.heap.size, 0, none⟩ 1 1 [.int .i64 (2 * (k : Int))] (by rfl) (by rfl) (news_one (by simp)) (ones_one _) (by omega) (by have := HLf.out; unfold maxLen; omega) (by have := HLf.out; omega) (by have := HW7.out; simp; omega) (w8.heap.size + 1) (by simp) ?_
                              intro g7 cap7 wx7 hown hgrow hat hlt
                              have HR7 : Hid (Row wx7 (w.heap.size + 1) (.slice (some ⟨g7, 0, none⟩) (lf.length + 1) cap7) (lf ++ [2 * (k : Int)])) := row_one hown rfl
                              have SN7 := Lib.hid ((S9.out.below ((Below.refl _ _).drew.alloc (Nat.le_refl _) _)).app residual_ne.1 (i := f + 2) (by omega) HR7.out hgrow (at_new hat (by simp)))
                              have HN7 : Hid (Below (w.heap.size + 1) w1 wx7) := (HB8.out.drew.alloc HW7.out _).grown hgrow (by have := HW7.out; simp; omega) (fun g hg => (World.ownsRow.lt HRf.out g hg).1)
                              have HZ7 : Hid (w8.heap.size ≤ wx7.heap.size) := Nat.le_trans (Nat.le_add_right _ 1) (by have := hgrow.size; simpa using this)
                              have KB7 : Hid ((fun u => u.cell? ⟨w.heap.size + 1 + 1, 2, none⟩ = some (.slice (some ⟨w.heap.size + 1, 0, none⟩) n n) ∧ u.cell? ⟨wr.heap.size, 0, none⟩ = some (.int .i64 (f : Int)) ∧ u.cell? ⟨w.heap.size + 1, f, none⟩ = some (V2 (f + 2))) wx7) := ⟨SN7.out.c2, SN7.out.e0, own_at SN7.out.own (by have := n17; omega)⟩
                              have qg7 : ∀ u : Nat, wx7.frozen? ⟨w.heap.size + 1, u, none⟩ = false := own_fz SN7.out.own
                              have qh7 : wx7.cell? ⟨w.heap.size + 1, f, none⟩ = some (V2 (f + 2)) := KB7.out.2.2
                              clear hown hgrow hat hlt
                              refine hK.out _ _ (fun hz => by rw [hS7]; exact KB7.out) (fun hH => ?_)
                              have hHeld := hH (by omega)
                              clear hK K hH
                              refine till_take (i := 14) (v := ?v7_14) rfl (by kernel_rfl) (by kernel_rfl) (by kernel_rfl) (by kernel_rfl) (fun _ _ _ h => h) (Or.inl ⟨by rfl, ?hy7_14⟩) (by assumption) ?rest7_14
                              case hy7_14 =>
                                intro u hSw
                                rw [hS7] at hSw; obtain ⟨x1, x2, x3⟩ := hSw
                                go_simp
                                try with_reducible rfl
                              case rest7_14 =>
                                simp only [List.getElem_toArray, List.getElem_cons_zero, List.getElem_cons_succ, Act.put, List.setIfInBounds_toArray, List.set_cons_zero, List.set_cons_succ]
                                refine till_one (i := 15) rfl (by kernel_rfl) (fun K hK => ?_)
                                go_simp
                                refine hK.out _ _ (fun hz => absurd rfl hz) (fun hH => ?_)
                                clear hK K hH
                                refine till_done (by kernel_rfl) ?_ _
                                go_wp2_with fail
                                have es : RS (wx7.setCell ⟨w.heap.size + 1, f, none⟩ (.slice (some ⟨g7, 0, none⟩) (lf.length + 1) cap7)) (w.heap.size + 1) (w.heap.size + 1 + 1) 0 (w.heap.size + 1) n wr.heap.size 75 (upd V2 (f + 2) (.slice (some ⟨g7, 0, none⟩) (lf.length + 1) cap7)) (mapR n (upd V2 (f + 2) (.slice (some ⟨g7, 0, none⟩) (lf.length + 1) cap7))) (upd V2 (f + 2) (.slice (some ⟨g7, 0, none⟩) (lf.length + 1) cap7) 0) (upd V2 (f + 2) (.slice (some ⟨g7, 0, none⟩) (lf.length + 1) cap7) 1) (upd X2 (f + 2) (lf ++ [2 * (k : Int)])) f t c := by
                                  have := SN7.out.stl residual_ne.2 (.slice (some ⟨g7, 0, none⟩) (lf.length + 1) cap7) f
                                  rw [mapR_set _ _ d0] at this
                                  rw [upd_far _ _ (show 0 ≠ f + 2 by omega), upd_far _ _ (show 1 ≠ f + 2 by omega)]
                                  exact this
                                have S11 := Lib.hid es
                                have HB11 : Hid (Below (w.heap.size + 1) w1 (wx7.setCell ⟨w.heap.size + 1, f, none⟩ (.slice (some ⟨g7, 0, none⟩) (lf.length + 1) cap7))) := HN7.out.setCell (by show w.heap.size + 1 ≤ w.heap.size + 1; omega) _
                                have z11 : wr.heap.size < (wx7.setCell ⟨w.heap.size + 1, f, none⟩ (.slice (some ⟨g7, 0, none⟩) (lf.length + 1) cap7)).heap.size := by have := HZ7.out; simp; omega
                                clear es SN7 HN7 KB7 qg7 qh7 HR7 HZ7 S9 HB8 KA7 KD7 HW7 z9 HRf hS7 n07 n17
                                generalize wx7.setCell ⟨w.heap.size + 1, f, none⟩ (.slice (some ⟨g7, 0, none⟩) (lf.length + 1) cap7) = w10 at *
                                generalize upd V2 (f + 2) (.slice (some ⟨g7, 0, none⟩) (lf.length + 1) cap7) = V3 at *
                                generalize upd X2 (f + 2) (lf ++ [2 * (k : Int)]) = X3 at *
                                have HL2 : Hid ((if f = t then lf ++ [2 * (k : Int)] else lt).length ≤ 16001) := by
                                  show _ ≤ _
                                  have h1 := HLf.out
                                  have h2 := HLt.out
                                  split
                                  · rw [List.length_append, List.length_singleton]; omega
                                  · omega
                                generalize (if f = t then lf ++ [2 * (k : Int)] else lt) = l2 at *
                                have HR2 : Hid (Row w10 (w.heap.size + 1) (V3 (t + 2)) l2) := by rw [← HT.out]; exact S11.out.fam.row (t + 2) (by omega)
                                clear HLf HLt HF HT
                                have hwm : IntKind.i64.wrap (2 * (k : Int)) = 2 * (k : Int) := IntWalk.i64_in _ (by omega)
                                have KA8 : Hid (∀ u, Below w10.heap.size w10 u → (fun u => u.cell? ⟨w.heap.size + 1 + 1, 2, none⟩ = some (.slice (some ⟨w.heap.size + 1, 0, none⟩) n n) ∧ u.cell? ⟨wr.heap.size, 1, none⟩ = some (.int .i64 (t : Int)) ∧ u.cell? ⟨w.heap.size + 1, t, none⟩ = some (V3 (t + 2))) u) := fun u hu => by
                                  have h := S11.out.below hu
                                  exact ⟨h.c2, h.e1, own_at h.own (by omega)⟩
                                have KD8 : Hid (Below w10.heap.size w10 w10.drew) := (Below.refl _ _).drew
                                have HW8 : Hid (w.heap.size + 1 ≤ w10.heap.size) := by have := HB11.out.size; show _ ≤ _; omega
                                have n08 : (0 : Int) ≤ (t : Int) := by omega
                                have n18 : (t : Int) < (n : Int) := by omega
                                have hw8 : IntKind.i64.wrap (2 * (k : Int) + 1) = 2 * (k : Int) + 1 := IntWalk.i64_in _ (by omega)
                                obtain ⟨S8, hS8⟩ : ∃ S : World → Prop, S = (fun u => u.cell? ⟨w.heap.size + 1 + 1, 2, none⟩ = some (.slice (some ⟨w.heap.size + 1, 0, none⟩) n n) ∧ u.cell? ⟨wr.heap.size, 1, none⟩ = some (.int .i64 (t : Int)) ∧ u.cell? ⟨w.heap.size + 1, t, none⟩ = some (V3 (t + 2))) := ⟨_, rfl⟩
                                refine region_till S8 16 (by kernel_rfl) (by rw [hS8]; exact KA8.out _ KD8.out) (fun hHeld => ?_)
                                refine till_take (i := 0) (v := ?v8_0) rfl (by kernel_rfl) (by kernel_rfl) (by kernel_rfl) (by kernel_rfl) (fun _ _ _ h => h) (Or.inl ⟨by rfl, ?hy8_0⟩) (by assumption) ?rest8_0
                                case hy8_0 =>
                                  intro u hSw
                                  rw [hS8] at hSw; obtain ⟨x1, x2, x3⟩ := hSw
                                  go_simp
                                  try with_reducible rfl
                                case rest8_0 =>
                                  refine till_take (i := 1) (v := ?v8_1) rfl (by kernel_rfl) (by kernel_rfl) (by kernel_rfl) (by kernel_rfl) (fun _ _ _ h => h) (Or.inl ⟨by rfl, ?hy8_1⟩) (by assumption) ?rest8_1
                                  case hy8_1 =>
                                    intro u hSw
                                    rw [hS8] at hSw; obtain ⟨x1, x2, x3⟩ := hSw
                                    go_simp
                                    try with_reducible rfl
                                  case rest8_1 =>
                                    refine till_take (i := 2) (v := ?v8_2) rfl (by kernel_rfl) (by kernel_rfl) (by kernel_rfl) (by kernel_rfl) (fun _ _ _ h => h) (Or.inl ⟨by rfl, ?hy8_2⟩) (by assumption) ?rest8_2
                                    case hy8_2 =>
                                      intro u hSw
                                      rw [hS8] at hSw; obtain ⟨x1, x2, x3⟩ := hSw
                                      go_simp
                                      try with_reducible rfl
                                    case rest8_2 =>
                                      refine till_take (i := 3) (v := ?v8_3) rfl (by kernel_rfl) (by kernel_rfl) (by kernel_rfl) (by kernel_rfl) (fun _ _ _ h => h) (Or.inl ⟨by rfl, ?hy8_3⟩) (by assumption) ?rest8_3
                                      case hy8_3 =>
                                        intro u hSw
                                        rw [hS8] at hSw; obtain ⟨x1, x2, x3⟩ := hSw
                                        go_simp
                                        try with_reducible rfl
                                      case rest8_3 =>
                                        refine till_take (i := 4) (v := ?v8_4) rfl (by kernel_rfl) (by kernel_rfl) (by kernel_rfl) (by kernel_rfl) (fun _ _ _ h => h) (Or.inl ⟨by rfl, ?hy8_4⟩) (by assumption) ?rest8_4
                                        case hy8_4 =>
                                          intro u hSw
                                          rw [hS8] at hSw; obtain ⟨x1, x2, x3⟩ := hSw
                                          go_simp
                                          try with_reducible rfl
                                        case rest8_4 =>
                                          refine till_take (i := 5) (v := ?v8_5) rfl (by kernel_rfl) (by kernel_rfl) (by kernel_rfl) (by kernel_rfl) (fun _ _ _ h => h) (Or.inl ⟨by rfl, ?hy8_5⟩) (by assumption) ?rest8_5
                                          case hy8_5 =>
                                            intro u hSw
                                            rw [hS8] at hSw; obtain ⟨x1, x2, x3⟩ := hSw
                                            go_simp
                                            try with_reducible rfl
                                          case rest8_5 =>
                                            refine till_take (i := 6) (v := ?v8_6) rfl (by kernel_rfl) (by kernel_rfl) (by kernel_rfl) (by kernel_rfl) (fun _ _ _ h => h) (Or.inl ⟨by rfl, ?hy8_6⟩) (by assumption) ?rest8_6
                                            case hy8_6 =>
                                              intro u hSw
                                              rw [hS8] at hSw; obtain ⟨x1, x2, x3⟩ := hSw
                                              go_simp
                                              try with_reducible rfl
                                            case rest8_6 =>
                                              refine till_take (i := 7) (v := ?v8_7) rfl (by kernel_rfl) (by kernel_rfl) (by kernel_rfl) (by kernel_rfl) (fun _ _ _ h => h) (Or.inl ⟨by rfl, ?hy8_7⟩) (by assumption) ?rest8_7
                                              case hy8_7 =>
                                                intro u hSw
                                                rw [hS8] at hSw; obtain ⟨x1, x2, x3⟩ := hSw
                                                go_simp
                                                try with_reducible rfl
                                              case rest8_7 =>
                                                refine till_take (i := 8) (v := ?v8_8) rfl (by kernel_rfl) (by kernel_rfl) (by kernel_rfl) (by kernel_rfl) (fun _ _ _ h => h) (Or.inl ⟨by rfl, ?hy8_8⟩) (by assumption) ?rest8_8
                                                case hy8_8 =>
                                                  intro u hSw
                                                  rw [hS8] at hSw; obtain ⟨x1, x2, x3⟩ := hSw
                                                  go_simp
                                                  try with_reducible rfl
                                                case rest8_8 =>
                                                  refine till_take (i := 9) (v := ?v8_9) rfl (by kernel_rfl) (by kernel_rfl) (by kernel_rfl) (by kernel_rfl) (fun _ _ _ h => h) (Or.inl ⟨by rfl, ?hy8_9⟩) (by assumption) ?rest8_9
                                                  case hy8_9 =>
                                                    intro u hSw
                                                    rw [hS8] at hSw; obtain ⟨x1, x2, x3⟩ := hSw
                                                    go_simp
                                                    try with_reducible rfl
                                                  case rest8_9 =>
                                                    refine till_take (i := 10) (v := ?v8_10) rfl (by kernel_rfl) (by kernel_rfl) (by kernel_rfl) (by kernel_rfl) (fun _ _ _ h => h) (Or.inl ⟨by rfl, ?hy8_10⟩) (by assumption) ?rest8_10
                                                    case hy8_10 =>
                                                      intro u hSw
                                                      rw [hS8] at hSw; obtain ⟨x1, x2, x3⟩ := hSw
                                                      go_simp
                                                      try with_reducible rfl
                                                    case rest8_10 =>
                                                      refine till_take (i := 11) (v := ?v8_11) rfl (by kernel_rfl) (by kernel_rfl) (by kernel_rfl) (by kernel_rfl) (fun _ _ _ h => h) (Or.inl ⟨by rfl, ?hy8_11⟩) (by assumption) ?rest8_11
                                                      case hy8_11 =>
                                                        intro u hSw
                                                        rw [hS8] at hSw; obtain ⟨x1, x2, x3⟩ := hSw
                                                        go_simp
                                                        try with_reducible rfl
                                                      case rest8_11 =>
                                                        refine till_take (i := 12) (v := ?v8_12) rfl (by kernel_rfl) (by kernel_rfl) (by kernel_rfl) (by kernel_rfl) (fun _ _ _ h => h) (Or.inl ⟨by rfl, ?hy8_12⟩) (by assumption) ?rest8_12
                                                        case hy8_12 =>
                                                          intro u hSw
                                                          rw [hS8] at hSw; obtain ⟨x1, x2, x3⟩ := hSw
                                                          go_simp
                                                          try with_reducible rfl
                                                        case rest8_12 =>
                                                          simp only [List.getElem_toArray, List.getElem_cons_zero, List.getElem_cons_succ, Act.put, List.setIfInBounds_toArray, List.set_cons_zero, List.set_cons_succ]
                                                          refine till_one (i := 13) rfl (by kernel_rfl) (fun K hK => ?_)
                                                          go_simp
                                                          refine hK.out _ _ (fun hz => by rw [hS8]; exact KA8.out _ ((Below.refl _ _).drew.alloc (Nat.le_refl _) _)) (fun hH => ?_)
                                                          have hHeld := hH (by omega)
                                                          clear hK K hH
                                                          refine till_one (i := 14) rfl (by kernel_rfl) (fun K hK => ?_)
                                                          refine step_append_lies _ rfl _ _ 23 (by rfl) (w.heap.size + 1) 3 i0 (.int .i64 0) 1 8 Try.underlying23 HI.out hz0 hz1 hz2 rfl (by decide) _ _ _ (by rfl) (World.ownsRow.alloc HR2.out _) ⟨w10.heap.size, 0, none⟩ 1 1 [.int .i64 (2 * (k : Int) + 1)] (by rfl) (by rfl) (news_one (by simp)) (ones_one _) (by omega) (by have := HL2.out; unfold maxLen; omega) (by have := HL2.out; omega) (by have := HW8.out; simp; omega) (w10.heap.size + 1) (by simp) ?_
                                                          intro g8 cap8 wx8 hown hgrow hat hlt
                                                          have HR8 : Hid (Row wx8 (w.heap.size + 1) (.slice (some ⟨g8, 0, none⟩) (l2.length + 1) cap8) (l2 ++ [2 * (k : Int) + 1])) := row_one hown rfl
                                                          have SN8 := Lib.hid ((S11.out.below ((Below.refl _ _).drew.alloc (Nat.le_refl _) _)).app residual_ne.1 (i := t + 2) (by omega) HR8.out hgrow (at_new hat (by simp)))
                                                          have HN8 : Hid (Below (w.heap.size + 1) w1 wx8) := (HB11.out.drew.alloc HW8.out _).grown hgrow (by have := HW8.out; simp; omega) (fun g hg => (World.ownsRow.lt HR2.out g hg).1)
                                                          have HZ8 : Hid (w10.heap.size ≤ wx8.heap.size) := Nat.le_trans (Nat.le_add_right _ 1) (by have := hgrow.size; simpa using this)
                                                          have KB8 : Hid ((fun u => u.cell? ⟨w.heap.size + 1 + 1, 2, none⟩ = some (.slice (some ⟨w.heap.size + 1, 0, none⟩) n n) ∧ u.cell? ⟨wr.heap.size, 1, none⟩ = some (.int .i64 (t : Int)) ∧ u.cell? ⟨w.heap.size + 1, t, none⟩ = some (V3 (t + 2))) wx8) := ⟨SN8.out.c2, SN8.out.e1, own_at SN8.out.own (by have := n18; omega)⟩
                                                          have qg8 : ∀ u : Nat, wx8.frozen? ⟨w.heap.size + 1, u, none⟩ = false := own_fz SN8.out.own
                                                          have qh8 : wx8.cell? ⟨w.heap.size + 1, t, none⟩ = some (V3 (t + 2)) := KB8.out.2.2
                                                          clear hown hgrow hat hlt
                                                          refine hK.out _ _ (fun hz => by rw [hS8]; exact KB8.out) (fun hH => ?_)
                                                          have hHeld := hH (by omega)
                                                          clear hK K hH
                                                          refine till_take (i := 15) (v := ?v8_15) rfl (by kernel_rfl) (by kernel_rfl) (by kernel_rfl) (by kernel_rfl) (fun _ _ _ h => h) (Or.inl ⟨by rfl, ?hy8_15⟩) (by assumption) ?rest8_15
                                                          case hy8_15 =>
                                                            intro u hSw
                                                            rw [hS8] at hSw; obtain ⟨x1, x2, x3⟩ := hSw
                                                            go_simp
                                                            try with_reducible rfl
                                                          case rest8_15 =>
                                                            simp only [List.getElem_toArray, List.getElem_cons_zero, List.getElem_cons_succ, Act.put, List.setIfInBounds_toArray, List.set_cons_zero, List.set_cons_succ]
                                                            refine till_one (i := 16) rfl (by kernel_rfl) (fun K hK => ?_)
                                                            go_simp
                                                            refine hK.out _ _ (fun hz => absurd rfl hz) (fun hH => ?_)
                                                            clear hK K hH
                                                            refine till_done (by kernel_rfl) ?_ _
                                                            go_wp2
                                                            have es : RS (wx8.setCell ⟨w.heap.size + 1, t, none⟩ (.slice (some ⟨g8, 0, none⟩) (l2.length + 1) cap8)) (w.heap.size + 1) (w.heap.size + 1 + 1) 0 (w.heap.size + 1) n wr.heap.size 75 (upd V3 (t + 2) (.slice (some ⟨g8, 0, none⟩) (l2.length + 1) cap8)) (mapR n (upd V3 (t + 2) (.slice (some ⟨g8, 0, none⟩) (l2.length + 1) cap8))) (upd V3 (t + 2) (.slice (some ⟨g8, 0, none⟩) (l2.length + 1) cap8) 0) (upd V3 (t + 2) (.slice (some ⟨g8, 0, none⟩) (l2.length + 1) cap8) 1) (upd X3 (t + 2) (l2 ++ [2 * (k : Int) + 1])) f t c := by
                                                              have := SN8.out.stl residual_ne.2 (.slice (some ⟨g8, 0, none⟩) (l2.length + 1) cap8) t
                                                              rw [mapR_set _ _ d1] at this
                                                              rw [upd_far _ _ (show 0 ≠ t + 2 by omega), upd_far _ _ (show 1 ≠ t + 2 by omega)]
                                                              exact this
                                                            have SE := Lib.hid (es.head rfl rfl rfl HX.out)
                                                            have HB13 : Hid (Below (w.heap.size + 1) w1 (wx8.setCell ⟨w.heap.size + 1, t, none⟩ (.slice (some ⟨g8, 0, none⟩) (l2.length + 1) cap8))) := HN8.out.setCell (by show w.heap.size + 1 ≤ w.heap.size + 1; omega) _
                                                            have z13 : Hid (w.heap.size + 1 + 1 < (wx8.setCell ⟨w.heap.size + 1, t, none⟩ (.slice (some ⟨g8, 0, none⟩) (l2.length + 1) cap8)).heap.size) := by have := HZ8.out; show _ < _; simp; omega
                                                            clear es
                                                            go_roundw
                                                            case rel => exact ⟨k + 1, by omega, by go_num, ⟨_, SE.out⟩, HB13.out, z13.out⟩
                                                            case measure => simp [intOf]; omega
    · obtain rfl : k = m := by omega
      have p0 : wr.cell? ⟨w.heap.size + 1 + 1, 0, none⟩ = some (vs 0) := HQ.out.c0
      have p1 : wr.cell? ⟨w.heap.size + 1 + 1, 1, none⟩ = some (vs 1) := HQ.out.c1
      have p2 : wr.cell? ⟨w.heap.size + 1 + 1, 2, none⟩ = some (.slice (some ⟨w.heap.size + 1, 0, none⟩) n n) := HQ.out.c2
      obtain ⟨c0, c1, c2, c3, c4⟩ := C0.out
      have T0 := Lib.hid (c4.below HB.out (Nat.lt_succ_self _))
      clear c4
      have r0 : wr.cell? ⟨w.heap.size, 0, none⟩ = some (.slice none 0 0) := by rw [HB.out.cell (p := ⟨w.heap.size, 0, none⟩) (Nat.lt_succ_self _)]; exact c0
      have r1 : wr.cell? ⟨w.heap.size, 1, none⟩ = some (.slice none 0 0) := by rw [HB.out.cell (p := ⟨w.heap.size, 1, none⟩) (Nat.lt_succ_self _)]; exact c1
      have r2 : wr.cell? ⟨w.heap.size, 2, none⟩ = some (.slice none 0 0) := by rw [HB.out.cell (p := ⟨w.heap.size, 2, none⟩) (Nat.lt_succ_self _)]; exact c2
      have r3 : ∀ j, wr.frozen? ⟨w.heap.size, j, none⟩ = false := fun j => by rw [HB.out.frozen (p := ⟨w.heap.size, j, none⟩) (Nat.lt_succ_self _)]; exact c3 j
      clear c0 c1 c2 c3
      have f0 := r3 0
      have f1 := r3 1
      have f2 := r3 2
      obtain ⟨A0, l0, c0, s0⟩ : ∃ A l c, vs 0 = .slice A l c := by
        obtain ⟨A, c, e⟩ := (HQ.out.fam.row 0 (by omega)).shape
        exact ⟨A, _, c, e⟩
      obtain ⟨A1, l1, c1, s1⟩ : ∃ A l c, vs 1 = .slice A l c := by
        obtain ⟨A, c, e⟩ := (HQ.out.fam.row 1 (by omega)).shape
        exact ⟨A, _, c, e⟩
      rw [s0] at p0
      rw [s1] at p1
      have S0 := Lib.hid s0
      have S1 := Lib.hid s1
      have HF : Hid (Fam wr w.heap.size (n + 2) vs (resX fr tg cp n k)) := ⟨fun i hi => (HQ.out.fam.row i hi).mono (Nat.le_succ _), HQ.out.fam.apart⟩
      have HO : Hid (wr.ownsRow w.heap.size 23 1 (.slice (some ⟨w.heap.size + 1, 0, none⟩) n n) n (mapR n vs)) := World.ownsRow.mono HQ.out.own (Nat.le_succ _)
      have HBe : Hid (Below w.heap.size w wr) := HBw.out.trans (HB.out.mono (Nat.le_succ _))
      have HN : w.heap.size + 1 ≠ w.heap.size := by omega
      clear s0 s1 r3
      have key : ∀ (u : World) (j : Nat) (x : Value), Fam u w.heap.size (n + 2) vs (resX fr tg cp n k) → u.ownsRow w.heap.size 23 1 (.slice (some ⟨w.heap.size + 1, 0, none⟩) n n) n (mapR n vs) → TyAt u w.heap.size 75 → Fam (u.setCell ⟨w.heap.size, j, none⟩ x) w.heap.size (n + 2) vs (resX fr tg cp n k) ∧ (u.setCell ⟨w.heap.size, j, none⟩ x).ownsRow w.heap.size 23 1 (.slice (some ⟨w.heap.size + 1, 0, none⟩) n n) n (mapR n vs) ∧ TyAt (u.setCell ⟨w.heap.size, j, none⟩ x) w.heap.size 75 := fun u j x a b c => ⟨a.far c residual_ne.1 (set_grown u ⟨w.heap.size, j, none⟩ x), World.ownsRow.kept b (set_grown u ⟨w.heap.size, j, none⟩ x) (.inr (by simp [Value.ownBlock])), c.setCell _ _⟩
      have K1 := Lib.hid (key wr 0 (.slice A0 l0 c0) HF.out HO.out T0.out)
      have K2 := Lib.hid (key _ 1 (.slice A1 l1 c1) K1.out.1 K1.out.2.1 K1.out.2.2)
      have K3 := Lib.hid (key _ 2 (.slice (some ⟨w.heap.size + 1, 0, none⟩) n n) K2.out.1 K2.out.2.1 K2.out.2.2)
      clear key K1 K2 HQ
      go_wp2
      refine bodyPost_ret (v := .agg #[.slice A0 l0 c0, .slice A1 l1 c1, .slice (some ⟨w.heap.size + 1, 0, none⟩) n n]) (by simp [results, Try.results67, go_sem, r0, r1, r2]) rfl ⟨w.heap.size + 1, vs, by rw [S0.out, S1.out], by rw [HFr.out, HTg.out, HCp.out]; exact K3.out.1, K3.out.2.1, ((HBe.out.setCell (Nat.le_refl _) _).setCell (Nat.le_refl _) _).setCell (Nat.le_refl _) _⟩
end Go.Proofs.Ytdgkgnlilcbggaa
